import Derived.Test.YtmdldbchdnkfcaaPA14
import Derived.BigQuiet
namespace Go.Proofs.Ytmdldbchdnkfcaa
open Go.RowKit Go.ChangeShapes Go.WideShapes
set_option linter.unusedVariables false
theorem or_any (B : Nat) (v : Nat → Int) (W : World) (hv : ∀ j, j < 3 → W.cell? ⟨B, j, none⟩ = some (.int .i64 (v j))) :
 Calls Try.prog 80 #[.slice (some ⟨B, 0, none⟩) 3 3] W fun e w' => e = .returned (.int .i64 (orI (v 0) (v 1) (v 2))) ∧ w' = W := by
 have HV := Lib.hid hv
 clear hv
 go_enter Try.func80, Try.ntmps80
 go_wp2_with fail
 go_loopw [8] (fun i wr => ∃ k : Nat, k ≤ 3 ∧ i = .int .i64 k ∧ wr = W ∧ Hid (∀ j, j < k → v j = 0)) (fun i _ => 3 - (intOf i).toNat)
 case atStart => exact ⟨0, Nat.zero_le _, rfl, rfl, Lib.hid fun j hj => by omega⟩
 case round =>
  obtain ⟨k, hk, rfl, rfl, hz⟩ := hrel
  by_cases hlt : k < 3
  · have hc := HV.out k hlt
    by_cases h0 : v k = 0
    · rw [h0] at hc
      go_wp2_with fail
      go_roundw
      case rel =>
       refine ⟨k + 1, by omega, by go_num, trivial, Lib.hid fun j hj => ?_⟩
       by_cases hjk : j = k
       · rw [hjk]; exact h0
       · exact hz.out j (by omega)
      case measure => simp [intOf]; omega
    · have hor : orI (v 0) (v 1) (v 2) = v k := by
       have := hz.out
       rcases (by omega : k = 0 ∨ k = 1 ∨ k = 2) with rfl | rfl | rfl
       · simp [orI, h0]
       · simp [orI, this 0, h0]
       · simp [orI, this 0, this 1]
      have HR := Lib.hid hor
      clear hor hz HV
      generalize v k = x at *
      have h0' : (x == 0) = false := by simpa using h0
      go_wp2_with fail
      go_ret
      exact ⟨by rw [HR.out]; rfl, rfl⟩
  · obtain rfl : k = 3 := by omega
    have hor : orI (v 0) (v 1) (v 2) = 0 := by simp [orI, hz.out 0, hz.out 1, hz.out 2]
    have HR := Lib.hid hor
    clear hor
    go_wp2_with fail
    go_ret
    exact ⟨by rw [HR.out]; rfl, rfl⟩
theorem or3 (B : Nat) (p q r : Int) (W : World) (h0 : W.cell? ⟨B, 0, none⟩ = some (.int .i64 p)) (h1 : W.cell? ⟨B, 1, none⟩ = some (.int .i64 q)) (h2 : W.cell? ⟨B, 2, none⟩ = some (.int .i64 r)) :
 Calls Try.prog 80 #[.slice (some ⟨B, 0, none⟩) 3 3] W fun e w' => e = .returned (.int .i64 (orI p q r)) ∧ w' = W :=
 or_any B (fun j => if j = 0 then p else if j = 1 then q else r) W fun j hj => by
  rcases (by omega : j = 0 ∨ j = 1 ∨ j = 2) with rfl | rfl | rfl
  · exact h0
  · exact h1
  · exact h2
set_option maxHeartbeats 1000000 in
set_option maxRecDepth 100000 in
theorem compare_any (k l : K) (W : World) :
 Calls Try.prog 71 #[.agg #[.int .u8 k.1, .int .u8 k.2.1, .int .u8 k.2.2], .agg #[.int .u8 l.1, .int .u8 l.2.1, .int .u8 l.2.2]] W fun e w' => e = .returned (.int .i64 (cmpI k l)) ∧ Gr W w' := by
 obtain ⟨a, b, c⟩ := k
 obtain ⟨x, y, z⟩ := l
 have hF : cmpI (a, b, c) (x, y, z) = orI (cmp8 a x) (cmp8 b y) (cmp8 c z) := rfl
 rw [hF]
 clear hF
 dsimp only
 have c0 := fun W => cmp8_any a x W
 have c1 := fun W => cmp8_any b y W
 have c2 := fun W => cmp8_any c z W
 generalize cmp8 a x = p at *
 generalize cmp8 b y = q at *
 generalize cmp8 c z = r at *
 go_enter Try.func71, Try.ntmps71
 go_wp2_with fail
 have HG := Lib.hid (((Gr.refl W).alloc (.cells #[.int .u8 a, .int .u8 b, .int .u8 c] 32)).alloc (.cells #[.int .u8 x, .int .u8 y, .int .u8 z] 32))
 have e0 : ((W.alloc (.cells #[.int .u8 a, .int .u8 b, .int .u8 c] 32)).alloc (.cells #[.int .u8 x, .int .u8 y, .int .u8 z] 32)).cell? ⟨W.heap.size, 0, none⟩ = some (.int .u8 a) := by simp
 have e1 : ((W.alloc (.cells #[.int .u8 a, .int .u8 b, .int .u8 c] 32)).alloc (.cells #[.int .u8 x, .int .u8 y, .int .u8 z] 32)).cell? ⟨W.heap.size, 1, none⟩ = some (.int .u8 b) := by simp
 have e2 : ((W.alloc (.cells #[.int .u8 a, .int .u8 b, .int .u8 c] 32)).alloc (.cells #[.int .u8 x, .int .u8 y, .int .u8 z] 32)).cell? ⟨W.heap.size, 2, none⟩ = some (.int .u8 c) := by simp
 have e3 : ((W.alloc (.cells #[.int .u8 a, .int .u8 b, .int .u8 c] 32)).alloc (.cells #[.int .u8 x, .int .u8 y, .int .u8 z] 32)).cell? ⟨W.heap.size + 1, 0, none⟩ = some (.int .u8 x) := by simp
 have e4 : ((W.alloc (.cells #[.int .u8 a, .int .u8 b, .int .u8 c] 32)).alloc (.cells #[.int .u8 x, .int .u8 y, .int .u8 z] 32)).cell? ⟨W.heap.size + 1, 1, none⟩ = some (.int .u8 y) := by simp
 have e5 : ((W.alloc (.cells #[.int .u8 a, .int .u8 b, .int .u8 c] 32)).alloc (.cells #[.int .u8 x, .int .u8 y, .int .u8 z] 32)).cell? ⟨W.heap.size + 1, 2, none⟩ = some (.int .u8 z) := by simp
 generalize (W.alloc (.cells #[.int .u8 a, .int .u8 b, .int .u8 c] 32)).alloc (.cells #[.int .u8 x, .int .u8 y, .int .u8 z] 32) = W1 at *
 generalize W.heap.size = X at *
 go_still_tail 15, (by kernel_rfl)
 still_call (c0 _)
 repeat still_step
 still_call (c1 _)
 repeat still_step
 still_call (c2 _)
 repeat still_step
 refine wpStill_nil ?_
 change wpList _ _ _ _ _ W1.drew
 go_wp2_with fail
 refine (or3 _ p q r _ (by simp) (by simp) (by simp)).mono ?_
 rintro e w' ⟨rfl, rfl⟩
 go_wp2_with fail
 go_ret
 exact ⟨rfl, HG.out.drew.alloc _⟩
theorem less_any (k l : K) (W : World) :
 Calls Try.prog 48 #[.agg #[.int .u8 k.1, .int .u8 k.2.1, .int .u8 k.2.2], .agg #[.int .u8 l.1, .int .u8 l.2.1, .int .u8 l.2.2]] W fun e w' => e = .returned (.bool (lessB k l)) ∧ Gr W w' := by
 obtain ⟨a, b, c⟩ := k
 obtain ⟨x, y, z⟩ := l
 dsimp only
 cases h1 : (a == x) with
 | false =>
  have hF : lessB (a, b, c) (x, y, z) = decide (a < x) := by simp at h1; simp [lessB, h1]
  rw [hF]
  clear hF
  go_enter Try.func48, Try.ntmps48
  go_wp2_with fail
  go_ret
  exact ⟨rfl, ((Gr.refl W).alloc _).alloc _⟩
 | true =>
  obtain rfl : a = x := by simpa using h1
  cases h2 : (b == y) with
  | false =>
   have hF : lessB (a, b, c) (a, y, z) = decide (b < y) := by simp at h2; simp [lessB, h2]
   rw [hF]
   clear hF
   go_enter Try.func48, Try.ntmps48
   go_wp2_with fail
   go_ret
   exact ⟨rfl, ((Gr.refl W).alloc _).alloc _⟩
  | true =>
   obtain rfl : b = y := by simpa using h2
   have hF : lessB (a, b, c) (a, b, z) = decide (c < z) := by simp [lessB]
   rw [hF]
   clear hF h1 h2
   go_enter Try.func48, Try.ntmps48
   go_wp2_with fail
   go_ret
   exact ⟨rfl, ((Gr.refl W).alloc _).alloc _⟩
end Go.Proofs.Ytmdldbchdnkfcaa
