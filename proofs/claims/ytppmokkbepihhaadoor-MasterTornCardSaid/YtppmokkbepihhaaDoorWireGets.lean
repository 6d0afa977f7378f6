/- The document's own readers: GetNum, GetBool, GetBytes. -/
import Derived.Test.YtppmokkbepihhaaDoorWireTrip
import Derived.Outline
namespace Go.Proofs.YtppmokkbepihhaaDoor
open Go.RowKit Go.ChangeShapes Go.WideShapes
set_option linter.unusedVariables false
set_option maxRecDepth 10000

/-- What is left, none once something is wrong. -/
def restOf (S : St) : List Nat := if S.1 = 0 then S.2 else []
theorem restOf_len (S : St) : (restOf S).length = leftR S := by unfold restOf leftR; split <;> rfl
/-- A slice that is a part of p's. -/
def Part (w : World) (p q : Option Addr) (m d : Nat) (M : List Nat) : Prop := Sl w q m d M ∧ From q p ∧ d ≤ maxLen
theorem Part.none (w : World) (p : Option Addr) : Part w p Option.none 0 0 [] := ⟨Sl.none, From.none _, Nat.zero_le _⟩
theorem Part.at_end {w : World} {p0 p : Option Addr} {m c s : Nat} {M : List Nat} (h : Part w p0 (if c = s then p else p.map fun a => a.add s) m (c - s) M) (e : c = s) : Part w p0 p m 0 M := by
  rw [if_pos e, e, Nat.sub_self] at h; exact h
theorem Part.within {w : World} {p0 p : Option Addr} {m c s : Nat} {M : List Nat} (h : Part w p0 (if c = s then p else p.map fun a => a.add s) m (c - s) M) (e : ¬ c = s) : Part w p0 (p.map fun a => a.add s) m (c - s) M := by
  rw [if_neg e] at h; exact h
theorem part_within2 {w : World} {p0 : Option Addr} {b off m c s : Nat} {M : List Nat} (h : Part w p0 (if c = s then some ⟨b, off, none⟩ else (some ⟨b, off, none⟩ : Option Addr).map fun a => a.add s) m (c - s) M) (e : ¬ c = s) : Part w p0 (some ⟨b, off + s, none⟩) m (c - s) M := by
  rw [if_neg e, Option.map_some, Go.WideShapes.add_plain] at h; exact h
theorem un_drop (l : List Nat) (j : Nat) (h : j < l.length) : un (l.drop j) = l.getD j 0 + 256 * un (l.drop (j + 1)) := by
  rw [List.drop_eq_getElem_cons h, un, List.getD, List.getElem?_eq_getElem h]
  rfl
/-- What GetNum answers. -/
def GotNum (w : World) (p : Option Addr) (R : St × Nat) (e : Ending) (w' : World) : Prop := ∃ q m d k, e = .returned (.tuple #[.int .u64 ((R.2 : Nat) : Int), .slice q m d, .int .i64 R.1.1]) ∧ Part w p q m d (restOf R.1) ∧ w' = w.drewN k
theorem getnum_bad (p : Option Addr) (n c : Nat) (L : List Nat) (size : Int) (w : World) (hs : ¬ (1 ≤ size ∧ size ≤ 8)) :
    Calls Tryd.prog 28 #[.slice p n c, .int .i64 size] w (GotNum w p (numR (0, L) size)) := by
  have hn : numR (0, L) size = ((1, L), 0) := by rw [numR, if_neg hs]; rfl
  rw [hn]
  clear hn
  by_cases h1 : size < 1
  · go_enter Tryd.func28, Tryd.ntmps28
    go_wp2_with fail
    go_ret3
    exact ⟨_, _, _, 0, rfl, Part.none w p, rfl⟩
  · have h8 : 8 < size := by omega
    go_enter Tryd.func28, Tryd.ntmps28
    go_wp2_with fail
    go_ret3
    exact ⟨_, _, _, 0, rfl, Part.none w p, rfl⟩
theorem getnum_short (p : Option Addr) (n c s : Nat) (L : List Nat) (w : World) (hS : Sl w p n c L) (h1 : 1 ≤ s) (h8 : s ≤ 8) (hn : n < s) :
    Calls Tryd.prog 28 #[.slice p n c, .int .i64 s] w (GotNum w p (numR (0, L) s)) := by
  have hnr : numR (0, L) s = ((6, L), 0) := by
    rw [numR, if_pos (by omega), Int.toNat_natCast, takeR, if_pos rfl, if_pos (by rw [hS.len]; exact hn)]
    rfl
  rw [hnr]
  clear hnr hS
  go_enter Tryd.func28, Tryd.ntmps28
  go_wp2_with fail
  go_ret3
  exact ⟨_, _, _, 0, rfl, Part.none w p, rfl⟩
theorem getnum_good (p : Option Addr) (n c s : Nat) (L : List Nat) (w : World) (hS : Sl w p n c L) (hc : c ≤ maxLen) (h1 : 1 ≤ s) (h8 : s ≤ 8) (hn : s ≤ n) :
    Calls Tryd.prog 28 #[.slice p n c, .int .i64 s] w (GotNum w p (numR (0, L) s)) := by
  have hnr : numR (0, L) s = ((0, L.drop s), un (L.take s)) := by
    rw [numR, if_pos (by omega), Int.toNat_natCast, takeR, if_pos rfl, if_neg (by rw [hS.len]; omega)]
  rw [hnr]
  have hp : Part w p (if c = s then p else p.map fun a => a.add s) (n - s) (c - s) (L.drop s) := ⟨hS.drop s hn, From.cut p c s, by omega⟩
  have HP := Lib.hid hp
  have htl : (L.take s).length = s := by rw [List.length_take, hS.len]; omega
  have hlt : ∀ y ∈ L.take s, y < 256 := fun y hy => hS.lt y (List.mem_of_mem_take hy)
  have hcap : n ≤ c := hS.cap
  have hc63 : c ≤ 9223372036854775807 := hc
  obtain ⟨b, off, rfl, hcell⟩ := (hS.take s hn).cell (by omega)
  have HC := Lib.hid hcell
  have HL := Lib.hid hlt
  have HT := Lib.hid htl
  clear hnr hp hS hcell hlt htl hc
  generalize L.take s = K at *
  go_enter Tryd.func28, Tryd.ntmps28
  go_wp2_with fail
  go_loop [7, 8] (fun x i => ∃ j : Nat, j ≤ s ∧ x = .int .u64 ((un (K.drop j) : Nat) : Int) ∧ i = .int .i64 ((j : Int) - 1)) (fun _ i => (intOf i + 1).toNat)
  case atStart => exact ⟨s, Nat.le_refl _, by rw [List.drop_of_length_le (by have := HT.out; omega)]; rfl, rfl⟩
  case round =>
    obtain ⟨j, hj, rfl, rfl⟩ := hrel
    by_cases h0 : 0 < j
    · obtain ⟨i, rfl⟩ : ∃ i, j = i + 1 := ⟨j - 1, by omega⟩
      have hci := HC.out i (by omega)
      have hz : K.getD i 0 < 256 := getD_lt HL.out i
      have hu := un_lt (K.drop (i + 1)) fun y hy => HL.out y (List.mem_of_mem_drop hy)
      have hdl : (K.drop (i + 1)).length ≤ 7 := by rw [List.length_drop]; have := HT.out; omega
      have hu2 : un (K.drop (i + 1)) < 72057594037927936 := Nat.lt_of_lt_of_le hu (Nat.le_trans (Nat.pow_le_pow_right (by omega) hdl) (by decide))
      have HU := Lib.hid (un_drop K i (by have := HT.out; omega))
      clear hu hdl
      generalize un (K.drop (i + 1)) = x at *
      generalize K.getD i 0 = z at *
      have e1 : ((i + 1 : Nat) : Int) - 1 = (i : Int) := by omega
      rw [e1]
      go_wp2_with fail
      go_round
      case rel => exact ⟨i, by omega, by rw [HU.out, Nat.add_comm z, Nat.mul_comm 256]; rfl, rfl⟩
      case measure => simp [intOf]
    · obtain rfl : j = 0 := by omega
      rw [List.drop_zero]
      go_wp2_with fail
      go_quiet (fail)
      go_wp2_with fail
      all_goals
        go_ret3
        exact ⟨_, _, _, _, rfl, by first | exact HP.out.at_end (by assumption) | exact part_within2 HP.out (by assumption), rfl⟩
theorem getnum_any (p : Option Addr) (n c : Nat) (L : List Nat) (size : Int) (w : World) (hS : Sl w p n c L) (hc : c ≤ maxLen) :
    Calls Tryd.prog 28 #[.slice p n c, .int .i64 size] w (GotNum w p (numR (0, L) size)) := by
  by_cases hs : 1 ≤ size ∧ size ≤ 8
  · obtain ⟨s, rfl⟩ : ∃ s : Nat, size = (s : Int) := ⟨size.toNat, by omega⟩
    by_cases hn : n < s
    · exact getnum_short p n c s L w hS (by omega) (by omega) hn
    · exact getnum_good p n c s L w hS hc (by omega) (by omega) (by omega)
  · exact getnum_bad p n c L size w hs
/-- What GetBool answers. -/
def GotBool (w : World) (p : Option Addr) (R : St × Bool) (e : Ending) (w' : World) : Prop := ∃ q m d k, e = .returned (.tuple #[.bool R.2, .slice q m d, .int .i64 R.1.1]) ∧ Part w p q m d (restOf R.1) ∧ w' = w.drewN k
/-- What GetBytes answers. -/
def GotBytes (w : World) (p : Option Addr) (R : St × List Nat) (e : Ending) (w' : World) : Prop := ∃ t tm td q m d k, e = .returned (.tuple #[.slice t tm td, .slice q m d, .int .i64 R.1.1]) ∧ Part w p t tm td R.2 ∧ Part w p q m d (restOf R.1) ∧ w' = w.drewN k
end Go.Proofs.YtppmokkbepihhaaDoor
