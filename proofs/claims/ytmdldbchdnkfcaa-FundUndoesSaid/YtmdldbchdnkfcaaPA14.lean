import Derived.Test.YtmdldbchdnkfcaaPA13
import Derived.ProofKit
import Derived.Lib.Hide
import Derived.WalkSpells
import Derived.StillTailTactics
import Derived.Sort.Grow
import Derived.Deep.Draws
namespace Go.Proofs.Ytmdldbchdnkfcaa
open Go.RowKit Go.ChangeShapes Go.WideShapes
set_option linter.unusedVariables false
set_option maxRecDepth 10000
theorem nan_any (x : Int) (W : World) : Calls Try.prog 86 #[.int .u8 x] W fun e w' => e = .returned (.bool false) ∧ w' = W := by
 go_enter Try.func86, Try.ntmps86
 go_wp2_with fail
 go_ret
 exact ⟨by simp, rfl⟩
theorem cmp8_any (x y : Int) (W : World) : Calls Try.prog 81 #[.int .u8 x, .int .u8 y] W fun e w' => e = .returned (.int .i64 (cmp8 x y)) ∧ w' = W := by
 by_cases h1 : x < y
 · have hF : cmp8 x y = -1 := by simp [cmp8, h1]
   rw [hF]
   go_enter Try.func81, Try.ntmps81
   go_wp2_with fail
   refine (nan_any _ _).mono ?_
   rintro e w' ⟨rfl, rfl⟩
   go_wp2_with fail
   refine (nan_any _ _).mono ?_
   rintro e w' ⟨rfl, rfl⟩
   go_wp2_with fail
   go_ret
   exact ⟨rfl, rfl⟩
 · by_cases h2 : y < x
   · have hF : cmp8 x y = 1 := by simp [cmp8, h1, h2]
     rw [hF]
     go_enter Try.func81, Try.ntmps81
     go_wp2_with fail
     refine (nan_any _ _).mono ?_
     rintro e w' ⟨rfl, rfl⟩
     go_wp2_with fail
     refine (nan_any _ _).mono ?_
     rintro e w' ⟨rfl, rfl⟩
     go_wp2_with fail
     go_ret
     exact ⟨rfl, rfl⟩
   · have hF : cmp8 x y = 0 := by simp [cmp8, h1, h2]
     rw [hF]
     go_enter Try.func81, Try.ntmps81
     go_wp2_with fail
     refine (nan_any _ _).mono ?_
     rintro e w' ⟨rfl, rfl⟩
     go_wp2_with fail
     refine (nan_any _ _).mono ?_
     rintro e w' ⟨rfl, rfl⟩
     go_wp2_with fail
     go_ret
     exact ⟨rfl, rfl⟩
def Gr (w w' : World) : Prop := ∃ q os, w' = Sort.grow (w.drewN q) os
theorem Gr.refl (w : World) : Gr w w := ⟨0, #[], by rw [Sort.grow_empty]; rfl⟩
theorem Gr.trans {a b c : World} (h : Gr a b) (g : Gr b c) : Gr a c := by
 obtain ⟨q, os, rfl⟩ := h
 obtain ⟨q', os', rfl⟩ := g
 exact ⟨q + q', os ++ os', by show Sort.grow (Sort.grow ((a.drewN q).drewN q') os) os' = _; rw [Sort.grow_grow, World.drewN_drewN]⟩
theorem Gr.alloc {a b : World} (h : Gr a b) (o : Obj) : Gr a (b.alloc o) := h.trans ⟨0, #[o], by rw [Sort.alloc_eq_grow]; rfl⟩
theorem Gr.drew {a b : World} (h : Gr a b) : Gr a b.drew := h.trans ⟨1, #[], by rw [Sort.grow_empty]; rfl⟩
theorem Gr.drewN {a b : World} (h : Gr a b) (n : Nat) : Gr a (b.drewN n) := h.trans ⟨n, #[], by rw [Sort.grow_empty]⟩
theorem Gr.below {a b : World} (h : Gr a b) : Below a.heap.size a b := by
 obtain ⟨q, os, rfl⟩ := h
 exact ⟨rfl, rfl, rfl, by simp [World.drewN], fun k hk => Sort.heap_grow_old (a.drewN q) os hk⟩
def box (k : K) : Obj := .cells #[.int .u8 k.1, .int .u8 k.2.1, .int .u8 k.2.2] 32
end Go.Proofs.Ytmdldbchdnkfcaa
