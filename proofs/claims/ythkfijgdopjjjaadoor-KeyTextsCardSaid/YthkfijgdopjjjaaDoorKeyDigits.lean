/- The document's digits and texts. -/
import Derived.Test.YthkfijgdopjjjaaDoorKeyQuiet
import Derived.Laws.BytesArg
namespace Go.Proofs.YthkfijgdopjjjaaDoor
open Go.RowKit Go.ChangeShapes Go.WideShapes
set_option linter.unusedVariables false

theorem conv_one (W : World) (x : Int) (T : TypeId) : (convert 68 9 (.slice (some ⟨W.heap.size, 0, none⟩) 1 1)).run Tryd.prog (W.alloc (.cells #[.int .u8 x] T)) = .ok (.string (strOfNums [x])) (W.alloc (.cells #[.int .u8 x] T)) :=
  run_convert_bytes_arg (P := Tryd.prog) _ 68 5 Tryd.underlying68 Tryd.underlying5 W.heap.size 0 1 1 [x] rfl (fun i hi => by
    obtain rfl : i = 0 := by omega
    simp) 9 Tryd.underlying9
theorem one_byte (x : Int) (h : 0 ≤ x) : strOfNums [x] = ⟨[UInt8.ofNat x.toNat].toArray⟩ := by
  simp [strOfNums]
set_option maxRecDepth 100000 in
set_option maxHeartbeats 400000 in
theorem digits_any (n : Int) (h0 : 0 ≤ n) (h1 : n ≤ 255) (W : World) : Calls Tryd.prog 38 #[.int .u8 n] W fun e w' => e = .returned (.string ⟨(digL n.toNat).toArray⟩) ∧ Gr W w' := by
  have hc := fun (x : Int) (T : TypeId) => conv_one W x T
  have hc2 : ∀ (o : Obj) (x : Int) (T : TypeId), (convert 68 9 (.slice (some ⟨W.heap.size + 1, 0, none⟩) 1 1)).run Tryd.prog ((W.alloc o).alloc (.cells #[.int .u8 x] T)) = .ok (.string (strOfNums [x])) ((W.alloc o).alloc (.cells #[.int .u8 x] T)) := fun o x T => by
    have h := conv_one (W.alloc o) x T
    rw [show (W.alloc o).heap.size = W.heap.size + 1 by simp] at h
    exact h
  have hc3 : ∀ (o o' : Obj) (x : Int) (T : TypeId), (convert 68 9 (.slice (some ⟨W.heap.size + 1 + 1, 0, none⟩) 1 1)).run Tryd.prog (((W.alloc o).alloc o').alloc (.cells #[.int .u8 x] T)) = .ok (.string (strOfNums [x])) (((W.alloc o).alloc o').alloc (.cells #[.int .u8 x] T)) := fun o o' x T => by
    have h := conv_one ((W.alloc o).alloc o') x T
    rw [show ((W.alloc o).alloc o').heap.size = W.heap.size + 1 + 1 by simp] at h
    exact h
  obtain ⟨x, hx⟩ : ∃ x, n % 10 = x := ⟨_, rfl⟩
  obtain ⟨y, hy⟩ : ∃ y, n / 10 % 10 = y := ⟨_, rfl⟩
  obtain ⟨z, hz⟩ : ∃ z, n / 100 = z := ⟨_, rfl⟩
  have bx : 0 ≤ x ∧ x ≤ 9 := by omega
  have by' : 0 ≤ y ∧ y ≤ 9 := by omega
  have bz : 0 ≤ z ∧ z ≤ 2 := by omega
  obtain ⟨bx0, bx1⟩ := bx
  obtain ⟨by0, by1⟩ := by'
  obtain ⟨bz0, bz1⟩ := bz
  have ox := one_byte (48 + x) (by omega)
  have oy := one_byte (48 + y) (by omega)
  have oz := one_byte (48 + z) (by omega)
  have sx : ((strOfNums [48 + x]).size : Int) ≤ 1 := by rw [ox, size_arr]; simp
  have sy : ((strOfNums [48 + y]).size : Int) ≤ 1 := by rw [oy, size_arr]; simp
  have sz : ((strOfNums [48 + z]).size : Int) ≤ 1 := by rw [oz, size_arr]; simp
  by_cases g1 : n < 10
  · have hT : (⟨(digL n.toNat).toArray⟩ : ByteArray) = strOfNums [48 + x] := by
      rw [ox]
      unfold digL
      rw [if_pos (by omega), show (48 + x).toNat = 48 + n.toNat by omega]
    rw [hT]
    have hn10 : n = x := by omega
    clear hT ox oy oz hy hz
    go_enter Tryd.func38, Tryd.ntmps38
    have g1' : ¬ 10 ≤ n := by omega
    have g2' : ¬ 100 ≤ n := by omega
    have HN := Lib.hid hn10
    clear hn10
    go_wp2_with fail
    go_ret
    exact ⟨rfl, (Gr.refl W).alloc _⟩
  · by_cases g2 : n < 100
    · have hT : (⟨(digL n.toNat).toArray⟩ : ByteArray) = strOfNums [48 + y] ++ strOfNums [48 + x] := by
        rw [ox, oy, ByteArray.mk_append_mk]
        unfold digL
        rw [if_neg (by omega), if_pos (by omega), show (48 + x).toNat = 48 + n.toNat % 10 by omega, show (48 + y).toNat = 48 + n.toNat / 10 by omega]
        rfl
      rw [hT]
      clear hT ox oy oz hz
      go_enter Tryd.func38, Tryd.ntmps38
      have g1' : 10 ≤ n := by omega
      have g2' : ¬ 100 ≤ n := by omega
      go_wp2_with fail
      go_ret
      exact ⟨rfl, ((Gr.refl W).alloc _).alloc _⟩
    · have hT : (⟨(digL n.toNat).toArray⟩ : ByteArray) = strOfNums [48 + z] ++ (strOfNums [48 + y] ++ strOfNums [48 + x]) := by
        rw [ox, oy, oz, ByteArray.mk_append_mk, ByteArray.mk_append_mk]
        unfold digL
        rw [if_neg (by omega), if_neg (by omega), show (48 + x).toNat = 48 + n.toNat % 10 by omega, show (48 + y).toNat = 48 + n.toNat / 10 % 10 by omega, show (48 + z).toNat = 48 + n.toNat / 100 by omega]
        rfl
      rw [hT]
      clear hT ox oy oz
      go_enter Tryd.func38, Tryd.ntmps38
      have g1' : 10 ≤ n := by omega
      have g2' : 100 ≤ n := by omega
      go_wp2_with fail
      go_ret
      exact ⟨rfl, (((Gr.refl W).alloc _).alloc _).alloc _⟩
end Go.Proofs.YthkfijgdopjjjaaDoor
