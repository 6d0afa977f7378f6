/- Reader.take, Num, Int, Bool, Bytes: what they answer. -/
import Derived.Test.YtppmokkbepihhaaDoorWireRead
import Derived.Laws.BitsAllLaws
namespace Go.Proofs.YtppmokkbepihhaaDoor
open Go.RowKit Go.ChangeShapes Go.WideShapes
set_option linter.unusedVariables false
set_option maxRecDepth 10000

/-- q leads into the block that p leads into. -/
def From (q p : Option Addr) : Prop := ∀ a, q = some a → ∃ a', p = some a' ∧ a.block = a'.block
theorem From.refl (p : Option Addr) : From p p := fun a h => ⟨a, h, rfl⟩
theorem From.none (p : Option Addr) : From Option.none p := fun a h => by cases h
theorem From.trans {a b c : Option Addr} (h : From a b) (g : From b c) : From a c := fun x hx => by
  obtain ⟨y, hy, e⟩ := h x hx
  obtain ⟨z, hz, e'⟩ := g y hy
  exact ⟨z, hz, e.trans e'⟩
theorem From.ne {q p : Option Addr} {S : Nat → Prop} (h : From q p) (hp : ∀ a, p = some a → ¬ S a.block) : ∀ a, q = some a → ¬ S a.block := fun a ha => by
  obtain ⟨a', h1, h2⟩ := h a ha
  rw [h2]; exact hp a' h1
theorem From.cut (p : Option Addr) (c n : Nat) : From (if c = n then p else p.map fun a => a.add n) p := fun a ha => by
  split at ha
  · exact ⟨a, ha, rfl⟩
  · obtain ⟨a', h1, rfl⟩ := Option.map_eq_some_iff.1 ha
    exact ⟨a', h1, by unfold Addr.add; split <;> rfl⟩
/-- What becomes of a reader: only its own block is written. -/
structure Went (w : World) (B : Nat) (p : Option Addr) (S : St) (w' : World) : Prop where
  rd : ∃ p' c', Rd w' B p' c' S ∧ From p' p
  chg : Chg (fun k => k = B) w w'
theorem Went.same {w : World} {B : Nat} {p : Option Addr} {c : Nat} {S : St} (h : Rd w B p c S) : Went w B p S w := ⟨⟨p, c, h, From.refl _⟩, Chg.refl _ _⟩
theorem Went.trans {a b d : World} {B : Nat} {p q : Option Addr} {S T : St} (h : Went a B p S b) (hq : From q p) (g : Went b B q T d) : Went a B p T d := by
  obtain ⟨p', c', h1, h2⟩ := g.rd
  exact ⟨⟨p', c', h1, h2.trans hq⟩, h.chg.trans g.chg fun _ _ e => e⟩
theorem Rd.fault {w : World} {B : Nat} {p : Option Addr} {c : Nat} {S : St} (h : Rd w B p c S) (x : Int) : Went w B p (x, S.2) (w.setCell ⟨B, 0, none⟩ (.int .i64 x)) := by
  refine ⟨⟨p, c, ⟨block_set 0 _ h.blk, ?_, h.max, h.ne⟩, From.refl _⟩, (Chg.refl _ _).setCell _ _ fun _ => rfl⟩
  exact h.row.keep fun a ha _ => Below.heap_setCell _ _ _ _ (h.ne a ha)
theorem Rd.cut {w : World} {B : Nat} {p : Option Addr} {c : Nat} {L : List Nat} (h : Rd w B p c (0, L)) (n : Nat) (hn : n ≤ L.length) :
    Went w B p (0, L.drop n) (w.setCell ⟨B, 1, none⟩ (.slice (if c = n then p else p.map fun a => a.add n) (L.length - n) (c - n))) ∧ Sl (w.setCell ⟨B, 1, none⟩ (.slice (if c = n then p else p.map fun a => a.add n) (L.length - n) (c - n))) p n c (L.take n) := by
  have hk : ∀ a, p = some a → a.block < w.heap.size → (w.setCell ⟨B, 1, none⟩ (.slice (if c = n then p else p.map fun a => a.add n) (L.length - n) (c - n))).heap[a.block]? = w.heap[a.block]? := fun a ha _ => Below.heap_setCell _ _ _ _ (h.ne a ha)
  refine ⟨⟨⟨_, c - n, ⟨?_, ?_, by have := h.max; omega, ?_⟩, From.cut p c n⟩, (Chg.refl _ _).setCell _ _ fun _ => rfl⟩, (h.row.take n hn).keep hk⟩
  · rw [List.length_drop]; exact block_set 1 _ h.blk
  · rw [List.length_drop]; exact (h.row.drop n hn).keep fun a ha hlt => Below.heap_setCell _ _ _ _ ((From.cut p c n).ne (S := fun k => k = B) h.ne a ha)
  · exact (From.cut p c n).ne (S := fun k => k = B) h.ne
/-- What take leaves. -/
def Took (w : World) (B : Nat) (p : Option Addr) (R : St × List Nat) (e : Ending) (w' : World) : Prop := ∃ q m d, e = .returned (.slice q m d) ∧ Sl w' q m d R.2 ∧ From q p ∧ Went w B p R.1 w'
theorem take_any (B c n : Nat) (p : Option Addr) (S : St) (w : World) (h : Rd w B p c S) (hb : S.2.length ≤ 1000000) (hn : n ≤ 1000000) :
    Calls Tryd.prog 38 #[.pointer (some ⟨B, 0, none⟩), .int .i64 n] w (Took w B p (takeR S n)) := by
  obtain ⟨x, L⟩ := S
  by_cases hx : x = 0
  · subst hx
    by_cases hl : L.length < n
    · have e : takeR (0, L) n = ((6, L), []) := by rw [takeR, if_pos rfl, if_pos hl]
      rw [e]
      refine (take_short B c n p L w h hb hn hl).mono ?_
      rintro e w' ⟨rfl, rfl⟩
      exact ⟨_, _, _, rfl, Sl.none, From.none _, h.fault 6⟩
    · have e : takeR (0, L) n = ((0, L.drop n), L.take n) := by rw [takeR, if_pos rfl, if_neg hl]
      rw [e]
      refine (take_good B c n p L w h hb (by omega)).mono ?_
      rintro e w' ⟨rfl, rfl⟩
      obtain ⟨h1, h2⟩ := h.cut n (by omega)
      exact ⟨_, _, _, rfl, h2, From.refl _, h1⟩
  · have e : takeR (x, L) n = ((x, L), []) := by rw [takeR, if_neg hx]
    rw [e]
    refine (take_bad B c n p x L w h hb hn (by simpa using hx)).mono ?_
    rintro e w' ⟨rfl, rfl⟩
    exact ⟨_, _, _, rfl, Sl.none, From.none _, Went.same h⟩
/-- What Num leaves. -/
def Nummed (w : World) (B : Nat) (p : Option Addr) (R : St × Nat) (e : Ending) (w' : World) : Prop := e = .returned (.int .u64 ((R.2 : Nat) : Int)) ∧ Went w B p R.1 w'
theorem num_step (x j c : Nat) (hx : x < 256 ^ j) (hj : j < 8) (hc : c < 256) : bits .or .u64 ((x : Nat) : Int) (IntKind.u64.wrap ((c : Int) * 2 ^ (8 * j))) = ((x + 256 ^ j * c : Nat) : Int) ∧ x + 256 ^ j * c < 256 ^ (j + 1) := by
  have h2 : x + 256 ^ j * c < 256 ^ (j + 1) := by
    rw [Nat.pow_succ]
    have : 256 ^ j * (c + 1) ≤ 256 ^ j * 256 := Nat.mul_le_mul_left _ hc
    rw [Nat.mul_add] at this
    omega
  have h3 : 256 ^ (j + 1) ≤ 18446744073709551616 := Nat.le_trans (Nat.pow_le_pow_right (by omega) (show j + 1 ≤ 8 by omega)) (by decide)
  refine ⟨?_, h2⟩
  rw [show ((c : Int) * 2 ^ (8 * j)) = ((256 ^ j * c : Nat) : Int) by rw [pow_256, Int.natCast_mul, Int.mul_comm]; simp]
  have hcx : 256 ^ j * c < 18446744073709551616 := by omega
  have e2 : IntKind.u64.wrap ((256 ^ j * c : Nat) : Int) = ((256 ^ j * c : Nat) : Int) := by
    generalize 256 ^ j * c = y at *
    simp [IntKind.wrap, IntKind.bits, IntKind.signed]; omega
  rw [e2, u64_or_nat x (256 ^ j * c) (by omega) hcx]
  congr 1
  rw [pow_256] at hx ⊢
  rw [Nat.or_comm, ← Nat.two_pow_add_eq_or_of_lt hx, Nat.add_comm]
theorem num_bad (B c : Nat) (p : Option Addr) (S : St) (size : Int) (w : World) (h : Rd w B p c S) (hs : fit size = false) :
    Calls Tryd.prog 35 #[.pointer (some ⟨B, 0, none⟩), .int .i64 size] w (Nummed w B p (numR S size)) := by
  have hn : numR S size = (bad 1 S, 0) := by
    rw [numR, if_neg]
    intro hh
    rw [fit, decide_eq_false_iff_not] at hs
    exact hs hh
  rw [hn]
  clear hn
  obtain ⟨x, L⟩ := S
  have H := Lib.hid h
  have h0 : w.cell? ⟨B, 0, none⟩ = some (.int .i64 x) := h.c0
  have hf := h.free 0
  clear h
  by_cases hx : x = 0
  · subst hx
    go_enter Tryd.func35, Tryd.ntmps35
    go_wp2_with fail
    refine (sized_any size _).mono ?_
    rw [hs]
    rintro e w' ⟨rfl, rfl⟩
    go_wp2_with fail
    refine (note_first B 1 _ h0 hf).mono ?_
    rintro e w' ⟨rfl, rfl⟩
    go_wp2_with fail
    go_ret
    exact ⟨rfl, H.out.fault 1⟩
  · have hb : bad 1 (x, L) = (x, L) := if_neg hx
    have hx' : (x == 0) = false := by simpa using hx
    rw [hb]
    clear hb
    go_enter Tryd.func35, Tryd.ntmps35
    go_wp2_with fail
    refine (sized_any size _).mono ?_
    rw [hs]
    rintro e w' ⟨rfl, rfl⟩
    go_wp2_with fail
    refine (note_more B x 1 _ h0 hx').mono ?_
    rintro e w' ⟨rfl, rfl⟩
    go_wp2_with fail
    go_ret
    exact ⟨rfl, Went.same H.out⟩
theorem num_good (B c n : Nat) (p : Option Addr) (S : St) (w : World) (h : Rd w B p c S) (hb : S.2.length ≤ 1000000) (h1 : 1 ≤ n) (h8 : n ≤ 8) :
    Calls Tryd.prog 35 #[.pointer (some ⟨B, 0, none⟩), .int .i64 n] w (Nummed w B p (numR S n)) := by
  have hs : fit (n : Int) = true := by rw [fit, decide_eq_true_iff]; omega
  have hn : numR S n = ((takeR S n).1, un (takeR S n).2) := by
    rw [numR, if_pos (by omega), Int.toNat_natCast]
  have htl : (takeR S n).2.length ≤ n := by
    unfold takeR
    split
    · split
      · simp
      · rw [List.length_take]; omega
    · simp
  rw [hn]
  have HT := Lib.hid (take_any B c n p S w h hb (by omega))
  clear hn h hb
  generalize takeR S n = R at *
  obtain ⟨T, M⟩ := R
  have htl' : M.length ≤ n := htl
  clear htl
  go_enter Tryd.func35, Tryd.ntmps35
  go_wp2_with fail
  refine (sized_any _ _).mono ?_
  rw [hs]
  rintro e w' ⟨rfl, rfl⟩
  go_wp2_with fail
  refine HT.out.mono ?_
  rintro e w1 ⟨q, m, d, rfl, hq, hfrom, hw⟩
  have hq' : Sl w1 q m d M := hq
  have hm := hq'.len
  have hcap := hq'.cap
  have HQ := Lib.hid hq'
  have HW := Lib.hid hw
  clear hq hq' hw hfrom HT hs
  have hm8 : m ≤ 8 := by omega
  clear htl'
  have HM := Lib.hid hm
  clear hm
  go_wp2_with fail
  go_loop [5, 21] (fun x i => ∃ j : Nat, j ≤ m ∧ x = .int .u64 ((un (M.take j) : Nat) : Int) ∧ i = .int .i64 j) (fun _ i => m - (intOf i).toNat)
  case atStart => exact ⟨0, Nat.zero_le _, by simp [un], rfl⟩
  case round =>
    obtain ⟨j, hj, rfl, rfl⟩ := hrel
    by_cases hlt : j < m
    · obtain ⟨b, off, rfl, hc⟩ := HQ.out.cell (by omega)
      have hcj := hc j hlt
      have hcl : M.getD j 0 < 256 := getD_lt HQ.out.lt j
      have hl := HM.out
      have hu := un_lt (M.take j) fun y hy => HQ.out.lt y (List.mem_of_mem_take hy)
      rw [List.length_take, Nat.min_eq_left (by omega)] at hu
      obtain ⟨hs1, hs2⟩ := num_step _ j _ hu (by omega) hcl
      have HS := Lib.hid (un_take_snoc M j (by omega))
      clear hc hl hs2
      have hk0 : (0 : Int) ≤ 8 * (j : Int) := by omega
      have HN := Lib.hid hs1
      clear hs1 hu
      generalize hy : un (M.take (j + 1)) = y at *
      generalize un (M.take j) = x at *
      generalize M.getD j 0 = z at *
      go_wp2_with fail
      go_round
      case rel =>
        refine ⟨j + 1, by omega, ?_, by go_num⟩
        rw [hy, HS.out, HN.out]
      case measure => simp [intOf]; omega
    · obtain rfl : j = m := by omega
      go_wp2_with fail
      go_ret
      refine ⟨?_, HW.out⟩
      show Ending.returned _ = Ending.returned (.int .u64 ((un M : Nat) : Int))
      rw [List.take_of_length_le (by have := HM.out; omega)]
      rfl
theorem num_any (B c : Nat) (p : Option Addr) (S : St) (size : Int) (w : World) (h : Rd w B p c S) (hb : S.2.length ≤ 1000000) :
    Calls Tryd.prog 35 #[.pointer (some ⟨B, 0, none⟩), .int .i64 size] w (Nummed w B p (numR S size)) := by
  by_cases hs : 1 ≤ size ∧ size ≤ 8
  · obtain ⟨n, rfl⟩ : ∃ n : Nat, size = (n : Int) := ⟨size.toNat, by omega⟩
    exact num_good B c n p S w h hb (by omega) (by omega)
  · exact num_bad B c p S size w h (by rw [fit, decide_eq_false_iff_not]; exact hs)
/-- How a number of 64 bits reads with a sign. -/
def sgn (x : Nat) : Int := if x < 9223372036854775808 then (x : Int) else (x : Int) - 18446744073709551616
theorem sgn_wrap (x : Nat) (hx : x < 18446744073709551616) : wrap64 ((x : Nat) : Int) = sgn x := by
  unfold sgn wrap64
  split <;> omega
theorem takeR_lt (S : St) (n : Nat) (h : ∀ y ∈ S.2, y < 256) : ∀ y ∈ (takeR S n).2, y < 256 := by
  intro y hy
  unfold takeR at hy
  split at hy
  · split at hy
    · cases hy
    · exact h y (List.mem_of_mem_take hy)
  · cases hy
theorem takeR_len (S : St) (n : Nat) : (takeR S n).2.length ≤ n := by
  unfold takeR
  split
  · split
    · simp
    · rw [List.length_take]; omega
  · simp
theorem numR_lt (S : St) (size : Int) (h : ∀ y ∈ S.2, y < 256) : (numR S size).2 < 18446744073709551616 := by
  unfold numR
  split
  · have a := un_lt _ (takeR_lt S size.toNat h)
    have b : 256 ^ (takeR S size.toNat).2.length ≤ 256 ^ 8 := Nat.pow_le_pow_right (by omega) (Nat.le_trans (takeR_len _ _) (by omega))
    have : (256 : Nat) ^ 8 = 18446744073709551616 := by decide
    omega
  · show (0 : Nat) < _
    omega
/-- What Int leaves. -/
def Inted (w : World) (B : Nat) (p : Option Addr) (R : St × Nat) (e : Ending) (w' : World) : Prop := e = .returned (.int .i64 (sgn R.2)) ∧ Went w B p R.1 w'
theorem int_any (B c : Nat) (p : Option Addr) (S : St) (w : World) (h : Rd w B p c S) (hb : S.2.length ≤ 1000000) :
    Calls Tryd.prog 36 #[.pointer (some ⟨B, 0, none⟩)] w (Inted w B p (numR S 8)) := by
  have HN := Lib.hid (num_any B c p S 8 w h hb)
  have hlt := numR_lt S 8 h.row.lt
  clear h hb
  generalize numR S 8 = R at *
  obtain ⟨T, x⟩ := R
  have hlt' : x < 18446744073709551616 := hlt
  have HS := Lib.hid (sgn_wrap x hlt')
  clear hlt
  go_enter Tryd.func36, Tryd.ntmps36
  go_wp2_with fail
  refine HN.out.mono ?_
  rintro e w1 ⟨rfl, hw⟩
  have HW := Lib.hid hw
  clear hw
  go_wp2_with fail
  go_ret
  refine ⟨?_, HW.out⟩
  show Ending.returned (.int .i64 (wrap64 (x : Int))) = Ending.returned (.int .i64 (sgn x))
  rw [HS.out]
/-- What Bool leaves. -/
def Booled (w : World) (B : Nat) (p : Option Addr) (R : St × Bool) (e : Ending) (w' : World) : Prop := e = .returned (.bool R.2) ∧ Went w B p R.1 w'
theorem bad_fault (B c : Nat) (p : Option Addr) (S : St) (x : Int) (w : World) (h : Rd w B p c S) :
    Calls Tryd.prog 30 #[.pointer (some ⟨B, 0, none⟩), .int .i64 x] w fun e w' => e = .returned (.tuple #[]) ∧ Went w B p (bad x S) w' := by
  obtain ⟨y, L⟩ := S
  by_cases hy : y = 0
  · subst hy
    refine (note_first B x w h.c0 (h.free 0)).mono ?_
    rintro e w' ⟨rfl, rfl⟩
    exact ⟨rfl, h.fault x⟩
  · have hb : bad x (y, L) = (y, L) := if_neg hy
    rw [hb]
    refine (note_more B y x w h.c0 (by simpa using hy)).mono ?_
    rintro e w' ⟨rfl, rfl⟩
    exact ⟨rfl, Went.same h⟩
/-- What Bytes leaves. -/
def Byted (w : World) (B : Nat) (p : Option Addr) (R : St × List Nat) (e : Ending) (w' : World) : Prop := ∃ v, e = .returned v ∧ Row w' v R.2.length R.2 ∧ (∀ k, v.ownBlock = some k → w.heap.size ≤ k) ∧ Went w B p R.1 w'
theorem took_copied {w w1 w2 : World} {B : Nat} {p q : Option Addr} {R : St × List Nat} {e : Ending} {m : Nat} (h : Went w B p R.1 w1) (hm : R.2.length = m) (hc : Copied w1 m R.2 e w2) : Byted w B p R e w2 := by
  obtain ⟨v, rfl, h1, h2, h3⟩ := hc
  obtain ⟨p', c', hr, hf⟩ := h.rd
  subst hm
  have hc2 : Chg (fun _ => False) w1 w2 := Chg.of_below h2
  exact ⟨v, rfl, h1, fun k hk => Nat.le_trans h.chg.size (h3 k hk), ⟨p', c', hr.chg hc2 (fun h => h) (fun _ _ h => h), hf⟩, h.chg.trans hc2 fun _ _ h => h.elim⟩
end Go.Proofs.YtppmokkbepihhaaDoor
