/- The document's Set: keys in order, each once. -/
import Derived.Test.YtlmfmccbefgjgaaDoorKeyWith
namespace Go.Proofs.YtlmfmccbefgjgaaDoor
open Go.RowKit Go.ChangeShapes Go.WideShapes
set_option linter.unusedVariables false

theorem ins_len (k : K) : ∀ L : List K, (insK L k).length ≤ L.length + 1
  | [] => by simp [insK]
  | x :: L => by
    have ih := ins_len k L
    have hf := List.length_filter_le (fun y => decide (y ≠ k)) (x :: L)
    unfold insK
    split
    · simp only [List.length_cons]; omega
    · simp only [List.length_cons] at *; omega
def setTo (L : List K) (j : Nat) : List K := (L.take j).foldl insK []
theorem setTo_succ (L : List K) (j : Nat) (h : j < L.length) : setTo L (j + 1) = withL (setTo L j) (L.getD j (0, 0, 0)) := by
  unfold setTo
  rw [List.take_add_one, List.foldl_append, with_ins]
  simp [List.getD, List.getElem?_eq_getElem h]
theorem setTo_len (L : List K) : ∀ j, (setTo L j).length ≤ j
  | 0 => by simp [setTo]
  | j + 1 => by
    by_cases h : j < L.length
    · have ih := setTo_len L j
      rw [setTo_succ L j h, with_ins]
      have := ins_len (L.getD j (0, 0, 0)) (setTo L j)
      omega
    · have : setTo L (j + 1) = setTo L j := by unfold setTo; rw [List.take_of_length_le (by omega), List.take_of_length_le (by omega)]
      rw [this]
      have := setTo_len L j
      omega
theorem refset_any (p : Option Addr) (n c : Nat) (L : List K) (W : World) (hL : KL W p n c L) (hn : n ≤ 10000) :
    Calls Tryd.prog 6 #[.slice p n c] W (Lists W (setL L)) := by
  have HL := Lib.hid hL
  have hset : setL L = setTo L n := by unfold setL setTo; rw [List.take_of_length_le (by rw [hL.len]; exact Nat.le_refl _)]
  rw [hset]
  have HSU := Lib.hid fun j (hj : j < n) => setTo_succ L j (by rw [hL.len]; exact hj)
  have HSL := Lib.hid (setTo_len L)
  clear hL hset
  go_enter Tryd.func6, Tryd.ntmps6
  go_wp2_with fail
  go_loopw [3, 4] (fun v i wr => ∃ (j : Nat) (p2 : Option Addr) (c2 : Nat), j ≤ n ∧ i = .int .i64 j ∧ v = .slice p2 (setTo L j).length c2 ∧ Hid (KL wr p2 (setTo L j).length c2 (setTo L j)) ∧ Hid (Below W.heap.size W wr)) (fun _ i _ => n - (intOf i).toNat)
  case atStart => exact ⟨0, none, 0, Nat.zero_le _, rfl, rfl, Lib.hid (KL.empty _), Lib.hid (Below.refl _ _)⟩
  case round =>
    obtain ⟨j, p2, c2, hj, rfl, rfl, HK, HB⟩ := hrel
    by_cases hlt : j < n
    · have hlt' : (j : Int) < n := by omega
      have hnm : (n : Int) ≤ 10000 := by omega
      obtain ⟨b, off, rfl, hcell⟩ := (HL.out.later HB.out).cell (by omega)
      obtain ⟨c0, c1, c2'⟩ := hcell j hlt
      have hok := Kok.getD HL.out.ok j
      have hsu := HSU.out j hlt
      have hsl := HSL.out j
      clear hcell
      generalize L.getD j (0, 0, 0) = x at *
      have HW := Lib.hid fun W1 (h : KL W1 p2 (setTo L j).length c2 (setTo L j)) => with_any p2 _ c2 (setTo L j) x hok W1 h (by omega)
      rw [← hsu] at HW
      clear hok hsu hsl
      generalize (setTo L j).length = m at *
      go_wp2_with fail
      refine (HW.out _ HK.out).mono ?_
      rintro e w2 ⟨p3, c3, rfl, hk3, hb3⟩
      have HK3 := Lib.hid hk3
      have HB3 := Lib.hid (HB.out.trans (hb3.mono HB.out.size))
      clear hk3 hb3 c0 c1 c2' HK HB HW
      go_wp2_with fail
      go_roundw
      case rel => exact ⟨j + 1, p3, c3, by omega, by go_num, rfl, HK3, HB3⟩
      case measure => simp [intOf]; omega
    · obtain rfl : j = n := by omega
      go_wp2_with fail
      go_ret
      exact ⟨p2, c2, rfl, HK.out, HB.out⟩
end Go.Proofs.YtlmfmccbefgjgaaDoor
