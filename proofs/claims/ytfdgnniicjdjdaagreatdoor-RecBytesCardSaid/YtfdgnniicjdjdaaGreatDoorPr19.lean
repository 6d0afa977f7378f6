import Derived.Test.YtfdgnniicjdjdaaGreatDoorPr18
import Derived.Deep.Fields
namespace Go.Proofs.YtfdgnniicjdjdaaGreatDoor
open Go.RowKit Go.ChangeShapes Go.WideShapes Go.Deep
set_option linter.unusedVariables false
set_option maxRecDepth 10000
structure Item where
 k : Nat
 x : Nat
 n : Int
 p : Option Addr
 m : Nat
 c : Nat
 L : List Nat
instance : Inhabited Item := ⟨⟨0, 0, 0, none, 0, 0, []⟩⟩
section
variable {H : Type} {enc : TypeId × Value → H} {P : Program} {w : World} {base : Nat} {spare : Nat → Bool} {held : Bool}
end
end Go.Proofs.YtfdgnniicjdjdaaGreatDoor
namespace Go.Proofs.YtfdgnniicjdjdaaGreatDoor
open Go.RowKit Go.ChangeShapes Go.WideShapes
set_option linter.unusedVariables false
set_option maxRecDepth 10000
def Few (len : Nat) (its : Nat → Item) : Prop := len ≤ 30 ∧ ∀ i, i < len → (its i).m ≤ 300
def Item.val (it : Item) : Value := .agg #[.int .u8 ((it.k : Nat) : Int), .int .u64 ((it.x : Nat) : Int), .int .i64 it.n, .slice it.p it.m it.c]
theorem takeR_app (K M : List Nat) : takeR (0, K ++ M) K.length = ((0, M), K) := by
 unfold takeR
 rw [if_pos rfl, if_neg (by simp), List.drop_left, List.take_left]
theorem numR_le (x : Nat) (n : Nat) (M : List Nat) (h1 : 1 ≤ n) (h8 : n ≤ 8) (hx : x < 256 ^ n) : numR (0, le x n ++ M) n = ((0, M), x) := by
 unfold numR
 rw [if_pos (by omega), Int.toNat_natCast]
 have := takeR_app (le x n) M
 rw [le_len] at this
 rw [this]
 show ((0, M), un (le x n)) = _
 rw [un_le, Nat.mod_eq_of_lt hx]
def restOf (S : St) : List Nat := if S.1 = 0 then S.2 else []
def Part (w : World) (p q : Option Addr) (m d : Nat) (M : List Nat) : Prop := Sl w q m d M ∧ From q p ∧ d ≤ maxLen
theorem Part.none (w : World) (p : Option Addr) : Part w p Option.none 0 0 [] := ⟨Sl.none, From.none _, Nat.zero_le _⟩
theorem Part.at_end {w : World} {p0 p : Option Addr} {m c s : Nat} {M : List Nat} (h : Part w p0 (if c = s then p else p.map fun a => a.add s) m (c - s) M) (e : c = s) : Part w p0 p m 0 M := by
 rw [if_pos e, e, Nat.sub_self] at h; exact h
theorem Part.within {w : World} {p0 p : Option Addr} {m c s : Nat} {M : List Nat} (h : Part w p0 (if c = s then p else p.map fun a => a.add s) m (c - s) M) (e : ¬ c = s) : Part w p0 (p.map fun a => a.add s) m (c - s) M := by
 rw [if_neg e] at h; exact h
theorem part_within2 {w : World} {p0 : Option Addr} {b off m c s : Nat} {M : List Nat} (h : Part w p0 (if c = s then some ⟨b, off, none⟩ else (some ⟨b, off, none⟩ : Option Addr).map fun a => a.add s) m (c - s) M) (e : ¬ c = s) : Part w p0 (some ⟨b, off + s, none⟩) m (c - s) M := by
 rw [if_neg e, Option.map_some, Go.WideShapes.add_plain] at h; exact h
theorem un_drop (l : List Nat) (j : Nat) (h : j < l.length) : un (l.drop j) = l.getD j 0 + 256 * un (l.drop (j + 1)) := by
 rw [List.drop_eq_getElem_cons h, un, List.getD, List.getElem?_eq_getElem h]
 rfl
def GotNum (w : World) (p : Option Addr) (R : St × Nat) (e : Ending) (w' : World) : Prop := ∃ q m d k, e = .returned (.tuple #[.int .u64 ((R.2 : Nat) : Int), .slice q m d, .int .i64 R.1.1]) ∧ Part w p q m d (restOf R.1) ∧ w' = w.drewN k
theorem getnum_bad (p : Option Addr) (n c : Nat) (L : List Nat) (size : Int) (w : World) (hs : ¬ (1 ≤ size ∧ size ≤ 8)) :
 Calls Tryz.prog 118 #[.slice p n c, .int .i64 size] w (GotNum w p (numR (0, L) size)) := by
 have hn : numR (0, L) size = ((1, L), 0) := by rw [numR, if_neg hs]; rfl
 rw [hn]
 clear hn
 by_cases h1 : size < 1
 · go_enter Tryz.func118, Tryz.ntmps118
   go_wp2_with fail
   go_ret3
   exact ⟨_, _, _, 0, rfl, Part.none w p, rfl⟩
 · have h8 : 8 < size := by omega
   go_enter Tryz.func118, Tryz.ntmps118
   go_wp2_with fail
   go_ret3
   exact ⟨_, _, _, 0, rfl, Part.none w p, rfl⟩
theorem getnum_short (p : Option Addr) (n c s : Nat) (L : List Nat) (w : World) (hS : Sl w p n c L) (h1 : 1 ≤ s) (h8 : s ≤ 8) (hn : n < s) :
 Calls Tryz.prog 118 #[.slice p n c, .int .i64 s] w (GotNum w p (numR (0, L) s)) := by
 have hnr : numR (0, L) s = ((6, L), 0) := by
  rw [numR, if_pos (by omega), Int.toNat_natCast, takeR, if_pos rfl, if_pos (by rw [hS.len]; exact hn)]
  rfl
 rw [hnr]
 clear hnr hS
 go_enter Tryz.func118, Tryz.ntmps118
 go_wp2_with fail
 go_ret3
 exact ⟨_, _, _, 0, rfl, Part.none w p, rfl⟩
theorem getnum_good (p : Option Addr) (n c s : Nat) (L : List Nat) (w : World) (hS : Sl w p n c L) (hc : c ≤ maxLen) (h1 : 1 ≤ s) (h8 : s ≤ 8) (hn : s ≤ n) :
 Calls Tryz.prog 118 #[.slice p n c, .int .i64 s] w (GotNum w p (numR (0, L) s)) := by
 have hnr : numR (0, L) s = ((0, L.drop s), un (L.take s)) := by
  rw [numR, if_pos (by omega), Int.toNat_natCast, takeR, if_pos rfl, if_neg (by rw [hS.len]; omega)]
 rw [hnr]
 have hp : Part w p (if c = s then p else p.map fun a => a.add s) (n - s) (c - s) (L.drop s) := ⟨hS.drop s hn, From.cut p c s, by omega⟩
 have HP := Lib.hid hp
 have htl : (L.take s).length = s := by rw [List.length_take, hS.len]; omega
 have hlt : ∀ y ∈ L.take s, y < 256 := fun y hy => hS.lt y (List.mem_of_mem_take hy)
 have hcap : n ≤ c := hS.cap
 have hc63 : c ≤ 9223372036854775807 := hc
 obtain ⟨b, off, rfl, hcell⟩ := (hS.take s hn).cell (by omega)
 have HC := Lib.hid hcell
 have HL := Lib.hid hlt
 have HT := Lib.hid htl
 clear hnr hp hS hcell hlt htl hc
 generalize L.take s = K at *
 go_enter Tryz.func118, Tryz.ntmps118
 go_wp2_with fail
 go_loop [7, 8] (fun x i => ∃ j : Nat, j ≤ s ∧ x = .int .u64 ((un (K.drop j) : Nat) : Int) ∧ i = .int .i64 ((j : Int) - 1)) (fun _ i => (intOf i + 1).toNat)
 case atStart => exact ⟨s, Nat.le_refl _, by rw [List.drop_of_length_le (by have := HT.out; omega)]; rfl, rfl⟩
 case round =>
  obtain ⟨j, hj, rfl, rfl⟩ := hrel
  by_cases h0 : 0 < j
  · obtain ⟨i, rfl⟩ : ∃ i, j = i + 1 := ⟨j - 1, by omega⟩
    have hci := HC.out i (by omega)
    have hz : K.getD i 0 < 256 := getD_lt HL.out i
    have hu := un_lt (K.drop (i + 1)) fun y hy => HL.out y (List.mem_of_mem_drop hy)
    have hdl : (K.drop (i + 1)).length ≤ 7 := by rw [List.length_drop]; have := HT.out; omega
    have hu2 : un (K.drop (i + 1)) < 72057594037927936 := Nat.lt_of_lt_of_le hu (Nat.le_trans (Nat.pow_le_pow_right (by omega) hdl) (by decide))
    have HU := Lib.hid (un_drop K i (by have := HT.out; omega))
    clear hu hdl
    generalize un (K.drop (i + 1)) = x at *
    generalize K.getD i 0 = z at *
    have e1 : ((i + 1 : Nat) : Int) - 1 = (i : Int) := by omega
    rw [e1]
    go_wp2_with fail
    go_round
    case rel => exact ⟨i, by omega, by rw [HU.out, Nat.add_comm z, Nat.mul_comm 256]; rfl, rfl⟩
    case measure => simp [intOf]
  · obtain rfl : j = 0 := by omega
    rw [List.drop_zero]
    go_wp2_with fail
    go_quiet (fail)
    go_wp2_with fail
    all_goals
     go_ret3
     exact ⟨_, _, _, _, rfl, by first | exact HP.out.at_end (by assumption) | exact part_within2 HP.out (by assumption), rfl⟩
theorem getnum_any (p : Option Addr) (n c : Nat) (L : List Nat) (size : Int) (w : World) (hS : Sl w p n c L) (hc : c ≤ maxLen) :
 Calls Tryz.prog 118 #[.slice p n c, .int .i64 size] w (GotNum w p (numR (0, L) size)) := by
 by_cases hs : 1 ≤ size ∧ size ≤ 8
 · obtain ⟨s, rfl⟩ : ∃ s : Nat, size = (s : Int) := ⟨size.toNat, by omega⟩
   by_cases hn : n < s
   · exact getnum_short p n c s L w hS (by omega) (by omega) hn
   · exact getnum_good p n c s L w hS hc (by omega) (by omega) (by omega)
 · exact getnum_bad p n c L size w hs
def GotBool (w : World) (p : Option Addr) (R : St × Bool) (e : Ending) (w' : World) : Prop := ∃ q m d k, e = .returned (.tuple #[.bool R.2, .slice q m d, .int .i64 R.1.1]) ∧ Part w p q m d (restOf R.1) ∧ w' = w.drewN k
theorem getbool_any (p : Option Addr) (n c : Nat) (L : List Nat) (w : World) (hS : Sl w p n c L) (hc : c ≤ maxLen) :
 Calls Tryz.prog 142 #[.slice p n c] w (GotBool w p (boolR (0, L))) := by
 have hc63 : c ≤ 9223372036854775807 := hc
 have hcap : n ≤ c := hS.cap
 by_cases hn : n < 1
 · have hnr : boolR (0, L) = ((6, L), false) := by
    have h : numR (0, L) 1 = ((6, L), 0) := by
     rw [numR, if_pos (by omega), takeR, if_pos rfl, if_pos (by rw [hS.len]; exact hn)]
     rfl
    rw [boolR, h]
    rfl
   rw [hnr]
   clear hnr hS hc
   go_enter Tryz.func142, Tryz.ntmps142
   go_wp2_with fail
   go_ret3
   exact ⟨_, _, _, 0, rfl, Part.none w p, rfl⟩
 · have hp : Part w p (if c = 1 then p else p.map fun a => a.add 1) (n - 1) (c - 1) (L.drop 1) := ⟨hS.drop 1 (by omega), From.cut p c 1, by omega⟩
   have HP := Lib.hid hp
   obtain ⟨b, off, rfl, hcell⟩ := hS.cell (by omega)
   have h0 := hcell 0 (by omega)
   rw [Nat.add_zero] at h0
   obtain ⟨y, l, rfl⟩ : ∃ y l, L = y :: l := by
    cases L with
    | nil => have := hS.len; simp at this; omega
    | cons y l => exact ⟨y, l, rfl⟩
   have hy : y < 256 := hS.lt y (List.mem_cons_self ..)
   replace h0 : w.cell? ⟨b, off, none⟩ = some (.int .u8 ((y : Nat) : Int)) := h0
   have hnum : numR (0, y :: l) 1 = ((0, l), y) := by
    have := numR_le y 1 l (by omega) (by omega) (by omega)
    rw [show le y 1 ++ l = y :: l by simp [le, Nat.mod_eq_of_lt hy]] at this
    exact this
   replace HP : Hid (Part w (some ⟨b, off, none⟩) (if c = 1 then some ⟨b, off, none⟩ else (some ⟨b, off, none⟩ : Option Addr).map fun a => a.add 1) (n - 1) (c - 1) l) := HP
   by_cases hy1 : 1 < y
   · have hb : boolR (0, y :: l) = ((8, l), false) := by rw [boolR, hnum, if_pos hy1]; rfl
     rw [hb]
     clear hb hp hS hcell hc hnum HP
     go_enter Tryz.func142, Tryz.ntmps142
     go_wp2_with fail
     go_ret3
     exact ⟨_, _, _, 0, rfl, Part.none w _, rfl⟩
   · have hb : boolR (0, y :: l) = ((0, l), y == 1) := by rw [boolR, hnum, if_neg hy1]
     rw [hb]
     have HE : Hid (((y : Int) == 1) = (y == 1)) := Lib.hid (by rw [Bool.eq_iff_iff]; simp; omega)
     clear hb hp hS hcell hc hnum
     go_enter Tryz.func142, Tryz.ntmps142
     go_wp2_with fail
     go_quiet (fail)
     go_wp2_with fail
     all_goals
      go_ret3
      refine ⟨_, _, _, _, ?_, by first | exact HP.out.at_end (by assumption) | exact part_within2 HP.out (by assumption), rfl⟩
      rw [← HE.out]
      rfl
def GotBytes (w : World) (p : Option Addr) (R : St × List Nat) (e : Ending) (w' : World) : Prop := ∃ t tm td q m d k, e = .returned (.tuple #[.slice t tm td, .slice q m d, .int .i64 R.1.1]) ∧ Part w p t tm td R.2 ∧ Part w p q m d (restOf R.1) ∧ w' = w.drewN k
theorem getbytes_any (p : Option Addr) (n c : Nat) (L : List Nat) (most : Int) (w : World) (hS : Sl w p n c L) (hc : c ≤ maxLen) :
 Calls Tryz.prog 143 #[.slice p n c, .int .i64 most] w (GotBytes w p (bytesR (0, L) most)) := by
 have HN := Lib.hid (getnum_any p n c L 2 w hS hc)
 have hx : (numR (0, L) 2).2 < 65536 := by
  show (if (1 : Int) ≤ 2 ∧ (2 : Int) ≤ 8 then ((takeR (0, L) 2).1, un (takeR (0, L) 2).2) else _).2 < 65536
  rw [if_pos (by omega)]
  show un (takeR (0, L) 2).2 < 65536
  have a := un_lt _ (takeR_lt (0, L) 2 hS.lt)
  have b : 256 ^ (takeR (0, L) 2).2.length ≤ 256 ^ 2 := Nat.pow_le_pow_right (by omega) (takeR_len _ _)
  omega
 unfold bytesR
 generalize numR (0, L) 2 = R at *
 obtain ⟨⟨x, M⟩, y⟩ := R
 replace hx : y < 65536 := hx
 show Calls _ _ _ _ (GotBytes w p (takeR (if most < (y : Int) then bad 7 (x, M) else (x, M)) y))
 clear hS
 by_cases h0 : x = 0
 · subst h0
   by_cases hm : most < (y : Int)
   · have e : takeR (if most < (y : Int) then bad 7 (0, M) else (0, M)) y = ((7, M), []) := by rw [if_pos hm]; rfl
     rw [e]
     clear e
     go_enter Tryz.func143, Tryz.ntmps143
     go_wp2_with fail
     refine HN.out.mono ?_
     rintro e w1 ⟨q, m, d, k, rfl, hp, rfl⟩
     clear hp
     go_wp2_with fail
     go_ret3
     exact ⟨_, _, _, _, _, _, _, rfl, Part.none w p, Part.none w p, rfl⟩
   · by_cases hl : M.length < y
     · have e : takeR (if most < (y : Int) then bad 7 (0, M) else (0, M)) y = ((6, M), []) := by rw [if_neg hm, takeR, if_pos rfl, if_pos hl]
       rw [e]
       clear e
       go_enter Tryz.func143, Tryz.ntmps143
       go_wp2_with fail
       refine HN.out.mono ?_
       rintro e w1 ⟨q, m, d, k, rfl, hp, rfl⟩
       have hml : m < y := by have : M.length = m := hp.1.len; omega
       clear hp
       go_wp2_with fail
       go_ret3
       exact ⟨_, _, _, _, _, _, _, rfl, Part.none w p, Part.none w p, rfl⟩
     · have e : takeR (if most < (y : Int) then bad 7 (0, M) else (0, M)) y = ((0, M.drop y), M.take y) := by rw [if_neg hm, takeR, if_pos rfl, if_neg hl]
       rw [e]
       clear e
       go_enter Tryz.func143, Tryz.ntmps143
       go_wp2_with fail
       refine HN.out.mono ?_
       rintro e w1 ⟨q, m, d, k, rfl, hp, rfl⟩
       have hml : y ≤ m := by have : M.length = m := hp.1.len; omega
       have hsm : Sl w q m d M := hp.1
       have hmd : m ≤ d := hsm.cap
       have hd63 : d ≤ 9223372036854775807 := hp.2.2
       have h1 : Part w p q y d (M.take y) := ⟨hsm.take y hml, hp.2.1, hp.2.2⟩
       have h2 : Part w p (if d = y then q else q.map fun a => a.add y) (m - y) (d - y) (M.drop y) := ⟨hsm.drop y hml, (From.cut q d y).trans hp.2.1, by have := hp.2.2; omega⟩
       have H1 := Lib.hid h1
       have H2 := Lib.hid h2
       have hmi : (y : Int) ≤ (m : Int) := by omega
       have hdi : (y : Int) ≤ (d : Int) := by omega
       have ey : IntKind.i64.wrap (y : Int) = (y : Int) := by rw [IntKind.wrap_i64]; omega
       clear hp h1 h2 hsm hl
       go_wp2_with fail
       go_quiet (fail)
       go_wp2_with fail
       all_goals
        go_ret3
        exact ⟨_, _, _, _, _, _, _, rfl, by first | exact H1.out | exact (show d = y by assumption) ▸ H1.out, by first | exact H2.out.at_end (by assumption) | exact H2.out.within (by assumption), rfl⟩
 · have e : takeR (if most < (y : Int) then bad 7 (x, M) else (x, M)) y = ((x, M), []) := by
    have : (if most < (y : Int) then bad 7 (x, M) else (x, M)) = (x, M) := by
     split
     · exact if_neg h0
     · rfl
    rw [this, takeR, if_neg (show ¬ (x, M).1 = 0 from h0)]
   rw [e]
   have hx1 : (x != 0) = true := by simpa using h0
   have hr : restOf (x, M) = [] := if_neg h0
   have HR := Lib.hid hr
   clear e hr h0
   go_enter Tryz.func143, Tryz.ntmps143
   go_wp2_with fail
   refine HN.out.mono ?_
   rintro e w1 ⟨q, m, d, k, rfl, hp, rfl⟩
   clear hp
   go_wp2_with fail
   go_ret3
   exact ⟨_, _, _, _, _, _, _, rfl, Part.none w p, by rw [HR.out]; exact Part.none w p, rfl⟩
theorem rnum_any (x n : Nat) (w : World) (hx : x < 18446744073709551616) (hn : n ≤ 8) :
 Calls Tryz.prog 87 #[.int .u64 (x : Int), .int .i64 n] w (Copied w n (le x n)) := by
 have HO := Lib.hid (own_none w)
 have HB : Hid (Below w.heap.size w (w.alloc (.cells #[] 5))) := Lib.hid ((Below.refl _ _).alloc (Nat.le_refl _) _)
 go_enter Tryz.func87, Tryz.ntmps87
 go_wp2_with fail
 go_loopw [0, 5, 6] (fun y v i wr => ∃ (j : Nat) (p : Option Addr) (c : Nat), j ≤ n ∧ i = .int .i64 j ∧ y = .int .u64 ((x / 256 ^ j : Nat) : Int) ∧ v = .slice p j c ∧ Row wr (.slice p j c) j (le x j) ∧ Below w.heap.size w wr ∧ ∀ k, (Value.slice p j c).ownBlock = some k → w.heap.size ≤ k) (fun _ _ i _ => n - (intOf i).toNat)
 case atStart => exact ⟨0, _, _, Nat.zero_le _, rfl, by simp, rfl, HO.out, HB.out, fun k hk => by simp [Value.ownBlock] at hk; omega⟩
 case round =>
  obtain ⟨j, p, c, hj, rfl, rfl, rfl, hr, hb, ho⟩ := hrel
  have HR := Lib.hid hr
  have HBB := Lib.hid hb
  have HOO := Lib.hid ho
  clear hr hb ho
  have hlt2 : x / 256 ^ j < 18446744073709551616 := Nat.lt_of_le_of_lt (Nat.div_le_self _ _) hx
  by_cases hlt : j < n
  · have HN : Hid (x / 256 ^ (j + 1) = x / 256 ^ j / 256) := Lib.hid (by rw [Nat.pow_succ, Nat.div_div_eq_div_mul])
    have HS := Lib.hid (le_snoc j x)
    generalize hy : x / 256 ^ (j + 1) = z at *
    have HY := Lib.hid hy
    clear hy
    generalize x / 256 ^ j = y at *
    have HRA : Hid (Row (wr.alloc (.cells #[.int .u8 ((y : Int) % 256)] 5)) (.slice p j c) j (le x j)) := Lib.hid (HR.out.chg ((Chg.refl (fun _ => False) _).alloc _) fun _ _ h => h)
    have HSA : Hid (Sl (wr.alloc (.cells #[.int .u8 ((y : Int) % 256)] 5)) (some ⟨wr.heap.size, 0, none⟩) 1 1 [y % 256]) := Lib.hid (by have := sl_one (y % 256) (by omega) wr; rw [show (((y % 256 : Nat) : Int)) = (y : Int) % 256 by omega] at this; exact this)
    go_wp2_with (at_builtin; refine wpList_append_row rfl _ _ rfl _ _ (le x j) rfl HRA.out _ _ _ [y % 256] rfl HSA.out (by omega) ?_)
    intro v' w' hr hc hk
    rw [← HS.out] at hr
    obtain ⟨p', c', rfl, _⟩ := hr.sl
    have HF : Hid (Row w' (.slice p' (j + 1) c') (j + 1) (le x (j + 1)) ∧ Below w.heap.size w w' ∧ ∀ k, (Value.slice p' (j + 1) c').ownBlock = some k → w.heap.size ≤ k) := Lib.hid ⟨hr, hc.below (HBB.out.alloc HBB.out.size _) (Nat.le_trans HBB.out.size (by simp)) HOO.out, fun k hk' => by
     rcases hk k hk' with h | h
     · exact HOO.out k h
     · have := HBB.out.size; omega⟩
    clear hr hc hk
    go_wp2_with fail
    go_roundw
    case rel => exact ⟨j + 1, p', c', by omega, by go_num, by rw [HY.out, HN.out]; congr 1, rfl, HF.out.1, HF.out.2.1, HF.out.2.2⟩
    case measure => simp [intOf]; omega
  · obtain rfl : j = n := by omega
    go_wp2_with fail
    go_ret
    exact ⟨_, rfl, HR.out, HBB.out, HOO.out⟩
theorem rint_any (x : Nat) (w : World) (hx : x < 18446744073709551616) :
 Calls Tryz.prog 91 #[.int .i64 (sgn x)] w (Copied w 8 (le x 8)) := by
 have HN := Lib.hid (rnum_any x 8 w hx (Nat.le_refl _))
 have HS := Lib.hid (wrap_sgn x hx)
 go_enter Tryz.func91, Tryz.ntmps91
 go_wp2_with fail
 rw [HS.out]
 refine HN.out.mono ?_
 rintro e w1 ⟨v, rfl, h1, h2, h3⟩
 have HF : Hid (∃ v', v' = v ∧ Row w1 v' 8 (le x 8) ∧ Below w.heap.size w w1 ∧ ∀ k, v'.ownBlock = some k → w.heap.size ≤ k) := Lib.hid ⟨v, rfl, h1, h2, h3⟩
 clear h1 h2 h3
 go_wp2_with fail
 go_ret
 obtain ⟨v', rfl, h1, h2, h3⟩ := HF.out
 exact ⟨_, rfl, h1, h2, h3⟩
theorem rbool_any (b : Bool) (w : World) :
 Calls Tryz.prog 90 #[.bool b] w fun e w' => ∃ q d, e = .returned (.slice q 1 d) ∧ Sl w' q 1 d [bit b] ∧ Below w.heap.size w w' := by
 cases b with
 | true =>
  have HS := Lib.hid (sl_one 1 (by omega) w)
  have HB : Hid (Below w.heap.size w (w.alloc (.cells #[.int .u8 1] 5))) := Lib.hid ((Below.refl _ _).alloc (Nat.le_refl _) _)
  go_enter Tryz.func90, Tryz.ntmps90
  go_wp2_with fail
  go_ret
  exact ⟨_, _, rfl, HS.out, HB.out⟩
 | false =>
  have HS := Lib.hid (sl_one 0 (by omega) w)
  have HB : Hid (Below w.heap.size w (w.alloc (.cells #[.int .u8 0] 5))) := Lib.hid ((Below.refl _ _).alloc (Nat.le_refl _) _)
  go_enter Tryz.func90, Tryz.ntmps90
  go_wp2_with fail
  go_ret
  exact ⟨_, _, rfl, HS.out, HB.out⟩
theorem rbytes_any (p : Option Addr) (m c : Nat) (L : List Nat) (w : World) (hs : Sl w p m c L) (hm : m ≤ 65535) :
 Calls Tryz.prog 88 #[.slice p m c] w (Copied w (2 + m) (le m 2 ++ L)) := by
 have HN := Lib.hid (rnum_any m 2 w (by omega) (by omega))
 have HS := Lib.hid hs
 clear hs
 go_enter Tryz.func88, Tryz.ntmps88
 go_wp2_with fail
 refine HN.out.mono ?_
 rintro e w1 ⟨v, rfl, h1, h2, h3⟩
 have HR := Lib.hid h1
 have HB := Lib.hid h2
 have HO := Lib.hid h3
 have HS1 := Lib.hid (HS.out.later h2)
 obtain ⟨pv, cv, rfl, _⟩ := h1.sl
 clear h1 h2 h3
 go_wp2_with (at_builtin; refine wpList_append_row rfl _ _ rfl _ _ (le m 2) rfl HR.out _ _ _ L rfl HS1.out (by omega) ?_)
 intro v' w' hr hc hk
 obtain ⟨p', c', rfl, _⟩ := hr.sl
 have HF : Hid (Row w' (.slice p' (2 + m) c') (2 + m) (le m 2 ++ L) ∧ Below w.heap.size w w' ∧ ∀ k, (Value.slice p' (2 + m) c').ownBlock = some k → w.heap.size ≤ k) := Lib.hid ⟨hr, hc.below HB.out HB.out.size HO.out, fun k hk' => by
  rcases hk k hk' with h | h
  · exact HO.out k h
  · exact Nat.le_trans HB.out.size h⟩
 clear hr hc hk
 go_wp2_with fail
 go_ret
 exact ⟨_, rfl, HF.out⟩
end Go.Proofs.YtfdgnniicjdjdaaGreatDoor
