/- An item is read: by the program's reader, and by the document's. -/
import Derived.Test.YthckdcejijfgmaaWireGets
namespace Go.Proofs.Ythckdcejijfgmaa
open Go.RowKit Go.ChangeShapes Go.WideShapes
set_option linter.unusedVariables false

/-- What an item is read as: the state behind it, a number, bytes. -/
def act (it : Item) (S : St) : St × Nat × List Nat :=
  if it.k % 5 = 0 ∨ it.k % 5 = 4 then ((numR S it.n).1, (numR S it.n).2, [])
  else if it.k % 5 = 1 then ((numR S 8).1, (numR S 8).2, [])
  else if it.k % 5 = 2 then ((boolR S).1, bit (boolR S).2, [])
  else ((bytesR S it.n).1, 0, (bytesR S it.n).2)
theorem Went.before {a b c : World} {B : Nat} {p : Option Addr} {S : St} (hc : Chg (fun _ => False) a b) (h : Went b B p S c) : Went a B p S c :=
  ⟨h.rd, (hc.mono (T := fun k => k = B) fun _ _ h => h.elim).trans h.chg fun _ _ h => h⟩
/-- What read leaves. -/
def Acted (w : World) (B : Nat) (p : Option Addr) (A : St × Nat × List Nat) (e : Ending) (w' : World) : Prop := ∃ q m d, e = .returned (.tuple #[.int .u64 ((A.2.1 : Nat) : Int), .slice q m d]) ∧ Sl w' q m d A.2.2 ∧ Went w B p A.1 w'
theorem read_item (B c0 : Nat) (p0 : Option Addr) (S : St) (it : Item) (w : World) (h : Rd w B p0 c0 S) (hb : S.2.length ≤ 90000) (hk : it.k < 256) :
    Calls Try.prog 16 #[.pointer (some ⟨B, 0, none⟩), .agg #[.int .u8 ((it.k : Nat) : Int), .int .u64 ((it.x : Nat) : Int), .int .i64 it.n, .slice it.p it.m it.c]] w (Acted w B p0 (act it S)) := by
  obtain ⟨k, x, n, p, m, c, L⟩ := it
  have hc : Chg (fun _ => False) w (w.alloc (.cells #[.int .u8 ((k : Nat) : Int), .int .u64 ((x : Nat) : Int), .int .i64 n, .slice p m c] 31)) := (Chg.refl _ _).alloc _
  have hr := h.chg hc (fun h => h) fun _ _ h => h
  have HC := Lib.hid hc
  replace hk : k < 256 := hk
  have h64 := numR_lt S 8 h.row.lt
  clear hc h
  show Calls Try.prog 16 #[.pointer (some ⟨B, 0, none⟩), .agg #[.int .u8 ((k : Nat) : Int), .int .u64 ((x : Nat) : Int), .int .i64 n, .slice p m c]] w (Acted w B p0 (act ⟨k, x, n, p, m, c, L⟩ S))
  obtain ⟨r, hr1, hr5⟩ : ∃ r : Nat, k % 5 = r ∧ r < 5 := ⟨_, rfl, by omega⟩
  have hri : (k : Int) % 5 = (r : Int) := by omega
  unfold act
  show Calls _ _ _ _ (Acted w B p0 (if k % 5 = 0 ∨ k % 5 = 4 then ((numR S n).1, (numR S n).2, []) else if k % 5 = 1 then ((numR S 8).1, (numR S 8).2, []) else if k % 5 = 2 then ((boolR S).1, bit (boolR S).2, []) else ((bytesR S n).1, 0, (bytesR S n).2)))
  rw [hr1]
  clear hr1
  match r, hr5 with
  | 0, _ =>
    show Calls _ _ _ _ (Acted w B p0 ((numR S n).1, (numR S n).2, []))
    have HN := Lib.hid (num_any B c0 p0 S n _ hr (by omega))
    clear hr
    generalize numR S n = R at *
    go_enter Try.func16, Try.ntmps16
    go_wp2_with fail
    refine HN.out.mono ?_
    rintro e w' ⟨rfl, hw⟩
    have HX := Lib.hid hw
    clear hw
    go_wp2_with fail
    go_ret2
    exact ⟨_, _, _, rfl, Sl.none, HX.out.before HC.out⟩
  | 4, _ =>
    show Calls _ _ _ _ (Acted w B p0 ((numR S n).1, (numR S n).2, []))
    have HN := Lib.hid (num_any B c0 p0 S n _ hr (by omega))
    clear hr
    generalize numR S n = R at *
    go_enter Try.func16, Try.ntmps16
    go_wp2_with fail
    refine HN.out.mono ?_
    rintro e w' ⟨rfl, hw⟩
    have HX := Lib.hid hw
    clear hw
    go_wp2_with fail
    go_ret2
    exact ⟨_, _, _, rfl, Sl.none, HX.out.before HC.out⟩
  | 1, _ =>
    show Calls _ _ _ _ (Acted w B p0 ((numR S 8).1, (numR S 8).2, []))
    have HN := Lib.hid (int_any B c0 p0 S _ hr (by omega))
    have HG := Lib.hid (wrap_sgn _ h64)
    clear hr h64
    generalize numR S 8 = R at *
    go_enter Try.func16, Try.ntmps16
    go_wp2_with fail
    refine HN.out.mono ?_
    rintro e w' ⟨rfl, hw⟩
    have HX := Lib.hid hw
    clear hw
    go_wp2_with fail
    go_ret2
    refine ⟨_, _, _, ?_, Sl.none, HX.out.before HC.out⟩
    rw [← HG.out]
    rfl
  | 2, _ =>
    show Calls _ _ _ _ (Acted w B p0 ((boolR S).1, bit (boolR S).2, []))
    have HN := Lib.hid (bool_any B c0 p0 S _ hr (by omega))
    clear hr
    generalize boolR S = R at *
    obtain ⟨T, b⟩ := R
    cases b with
    | false =>
      go_enter Try.func16, Try.ntmps16
      go_wp2_with fail
      refine HN.out.mono ?_
      rintro e w' ⟨rfl, hw⟩
      have HX := Lib.hid hw
      clear hw
      go_wp2_with fail
      go_ret2
      exact ⟨_, _, _, rfl, Sl.none, HX.out.before HC.out⟩
    | true =>
      go_enter Try.func16, Try.ntmps16
      go_wp2_with fail
      refine HN.out.mono ?_
      rintro e w' ⟨rfl, hw⟩
      have HX := Lib.hid hw
      clear hw
      go_wp2_with fail
      go_ret2
      exact ⟨_, _, _, rfl, Sl.none, HX.out.before HC.out⟩
  | 3, _ =>
    show Calls _ _ _ _ (Acted w B p0 ((bytesR S n).1, 0, (bytesR S n).2))
    have HN := Lib.hid (bytes_any B c0 p0 S n _ hr hb)
    clear hr
    generalize bytesR S n = R at *
    go_enter Try.func16, Try.ntmps16
    go_wp2_with fail
    refine HN.out.mono ?_
    rintro e w' ⟨v, rfl, h1, _, hw⟩
    obtain ⟨q, d, rfl, _, hs, _⟩ := h1.sl
    have HX := Lib.hid hw
    have HS := Lib.hid hs
    clear hw hs h1
    go_wp2_with fail
    go_ret2
    exact ⟨_, _, _, rfl, HS.out, HX.out.before HC.out⟩
theorem results_tmp4 {fn : Func} {t u v z : Tmp} (h : fn.results = #[.tmp t, .tmp u, .tmp v, .tmp z]) (tmps : Array Value) (P : Program) (w : World) :
    (results fn tmps).run P w = .ok (.tuple #[tmps.getD t undef, tmps.getD u undef, tmps.getD v undef, tmps.getD z undef]) w := by
  simp [results, h]
/-- What got leaves. -/
def Gotten (w : World) (p : Option Addr) (A : St × Nat × List Nat) (e : Ending) (w' : World) : Prop := ∃ t tm td q m d, e = .returned (.tuple #[.int .u64 ((A.2.1 : Nat) : Int), .slice t tm td, .slice q m d, .int .i64 A.1.1]) ∧ Part w' p t tm td A.2.2 ∧ Part w' p q m d (restOf A.1) ∧ Below w.heap.size w w'
theorem Part.later {w w' : World} {p q : Option Addr} {m d : Nat} {M : List Nat} (h : Part w p q m d M) (hb : Below w.heap.size w w') : Part w' p q m d M := ⟨h.1.later hb, h.2⟩
theorem got_item (p0 : Option Addr) (n0 c0 : Nat) (L0 : List Nat) (it : Item) (w : World) (hS : Sl w p0 n0 c0 L0) (hc0 : c0 ≤ maxLen) (hk : it.k < 256) :
    Calls Try.prog 17 #[.slice p0 n0 c0, .agg #[.int .u8 ((it.k : Nat) : Int), .int .u64 ((it.x : Nat) : Int), .int .i64 it.n, .slice it.p it.m it.c]] w (Gotten w p0 (act it (0, L0))) := by
  obtain ⟨k, x, n, p, m, c, L⟩ := it
  have hc : Below w.heap.size w (w.alloc (.cells #[.int .u8 ((k : Nat) : Int), .int .u64 ((x : Nat) : Int), .int .i64 n, .slice p m c] 31)) := (Below.refl _ _).alloc (Nat.le_refl _) _
  have hs := hS.later hc
  have HB : Hid (∀ q, Below w.heap.size w ((w.alloc (.cells #[.int .u8 ((k : Nat) : Int), .int .u64 ((x : Nat) : Int), .int .i64 n, .slice p m c] 31)).drewN q) ∧ Below (w.alloc (.cells #[.int .u8 ((k : Nat) : Int), .int .u64 ((x : Nat) : Int), .int .i64 n, .slice p m c] 31)).heap.size (w.alloc (.cells #[.int .u8 ((k : Nat) : Int), .int .u64 ((x : Nat) : Int), .int .i64 n, .slice p m c] 31)) ((w.alloc (.cells #[.int .u8 ((k : Nat) : Int), .int .u64 ((x : Nat) : Int), .int .i64 n, .slice p m c] 31)).drewN q)) := Lib.hid fun q => ⟨below_drewN hc q, below_drewN (Below.refl _ _) q⟩
  replace hk : k < 256 := hk
  clear hc hS
  show Calls Try.prog 17 #[.slice p0 n0 c0, .agg #[.int .u8 ((k : Nat) : Int), .int .u64 ((x : Nat) : Int), .int .i64 n, .slice p m c]] w (Gotten w p0 (act ⟨k, x, n, p, m, c, L⟩ (0, L0)))
  obtain ⟨r, hr1, hr5⟩ : ∃ r : Nat, k % 5 = r ∧ r < 5 := ⟨_, rfl, by omega⟩
  have hri : (k : Int) % 5 = (r : Int) := by omega
  unfold act
  show Calls _ _ _ _ (Gotten w p0 (if k % 5 = 0 ∨ k % 5 = 4 then ((numR (0, L0) n).1, (numR (0, L0) n).2, []) else if k % 5 = 1 then ((numR (0, L0) 8).1, (numR (0, L0) 8).2, []) else if k % 5 = 2 then ((boolR (0, L0)).1, bit (boolR (0, L0)).2, []) else ((bytesR (0, L0) n).1, 0, (bytesR (0, L0) n).2)))
  rw [hr1]
  clear hr1
  match r, hr5 with
  | 0, _ =>
    show Calls _ _ _ _ (Gotten w p0 ((numR (0, L0) n).1, (numR (0, L0) n).2, []))
    have HN := Lib.hid (getnum_any p0 n0 c0 L0 n _ hs hc0)
    clear hs
    generalize numR (0, L0) n = R at *
    go_enter Try.func17, Try.ntmps17
    go_wp2_with fail
    refine HN.out.mono ?_
    rintro e w' ⟨q, m2, d, kk, rfl, hp, rfl⟩
    have HP := Lib.hid hp
    clear hp
    go_wp2_with fail
    refine bodyPost_ret (results_tmp4 rfl _ _ _) rfl ?_
    exact ⟨_, _, _, _, _, _, rfl, Part.none _ _, HP.out.later (HB.out _).2, (HB.out _).1⟩
  | 4, _ =>
    show Calls _ _ _ _ (Gotten w p0 ((numR (0, L0) n).1, (numR (0, L0) n).2, []))
    have HN := Lib.hid (getnum_any p0 n0 c0 L0 n _ hs hc0)
    clear hs
    generalize numR (0, L0) n = R at *
    go_enter Try.func17, Try.ntmps17
    go_wp2_with fail
    refine HN.out.mono ?_
    rintro e w' ⟨q, m2, d, kk, rfl, hp, rfl⟩
    have HP := Lib.hid hp
    clear hp
    go_wp2_with fail
    refine bodyPost_ret (results_tmp4 rfl _ _ _) rfl ?_
    exact ⟨_, _, _, _, _, _, rfl, Part.none _ _, HP.out.later (HB.out _).2, (HB.out _).1⟩
  | 1, _ =>
    show Calls _ _ _ _ (Gotten w p0 ((numR (0, L0) 8).1, (numR (0, L0) 8).2, []))
    have HN := Lib.hid (getnum_any p0 n0 c0 L0 8 _ hs hc0)
    clear hs
    generalize numR (0, L0) 8 = R at *
    go_enter Try.func17, Try.ntmps17
    go_wp2_with fail
    refine HN.out.mono ?_
    rintro e w' ⟨q, m2, d, kk, rfl, hp, rfl⟩
    have HP := Lib.hid hp
    clear hp
    go_wp2_with fail
    refine bodyPost_ret (results_tmp4 rfl _ _ _) rfl ?_
    exact ⟨_, _, _, _, _, _, rfl, Part.none _ _, HP.out.later (HB.out _).2, (HB.out _).1⟩
  | 2, _ =>
    show Calls _ _ _ _ (Gotten w p0 ((boolR (0, L0)).1, bit (boolR (0, L0)).2, []))
    have HN := Lib.hid (getbool_any p0 n0 c0 L0 _ hs hc0)
    clear hs
    generalize boolR (0, L0) = R at *
    obtain ⟨T, b⟩ := R
    cases b with
    | false =>
      go_enter Try.func17, Try.ntmps17
      go_wp2_with fail
      refine HN.out.mono ?_
      rintro e w' ⟨q, m2, d, kk, rfl, hp, rfl⟩
      have HP := Lib.hid hp
      clear hp
      go_wp2_with fail
      refine bodyPost_ret (results_tmp4 rfl _ _ _) rfl ?_
      exact ⟨_, _, _, _, _, _, rfl, Part.none _ _, HP.out.later (HB.out _).2, (HB.out _).1⟩
    | true =>
      go_enter Try.func17, Try.ntmps17
      go_wp2_with fail
      refine HN.out.mono ?_
      rintro e w' ⟨q, m2, d, kk, rfl, hp, rfl⟩
      have HP := Lib.hid hp
      clear hp
      go_wp2_with fail
      refine bodyPost_ret (results_tmp4 rfl _ _ _) rfl ?_
      exact ⟨_, _, _, _, _, _, rfl, Part.none _ _, HP.out.later (HB.out _).2, (HB.out _).1⟩
  | 3, _ =>
    show Calls _ _ _ _ (Gotten w p0 ((bytesR (0, L0) n).1, 0, (bytesR (0, L0) n).2))
    have HN := Lib.hid (getbytes_any p0 n0 c0 L0 n _ hs hc0)
    clear hs
    generalize bytesR (0, L0) n = R at *
    go_enter Try.func17, Try.ntmps17
    go_wp2_with fail
    refine HN.out.mono ?_
    rintro e w' ⟨t, tm, td, q, m2, d, kk, rfl, ht, hp, rfl⟩
    have HP := Lib.hid hp
    have HT := Lib.hid ht
    clear hp ht
    go_wp2_with fail
    refine bodyPost_ret (results_tmp4 rfl _ _ _) rfl ?_
    exact ⟨_, _, _, _, _, _, rfl, HT.out.later (HB.out _).2, HP.out.later (HB.out _).2, (HB.out _).1⟩
end Go.Proofs.Ythckdcejijfgmaa
