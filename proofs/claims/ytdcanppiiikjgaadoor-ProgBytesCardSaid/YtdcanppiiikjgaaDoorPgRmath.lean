/- The document's Decode, as plain data: what the walk's parts come to. Nothing of the program's text. -/
import Derived.Test.YtdcanppiiikjgaaDoorGrProgg
import Derived.Test.YtdcanppiiikjgaaDoorGrProgh
namespace Go.Proofs.YtdcanppiiikjgaaDoor
open Go.RowKit Go.ChangeShapes Go.WideShapes
set_option linter.unusedVariables false
set_option maxRecDepth 10000

theorem refR_eq {Bs : List Nat} {R0 R1 R2 : St × Nat} {R3 : St × List Ln} {S1 S4 : St} {nc : Nat} {R5 : St × List Ln} {R6 R7 R8 R9 : St × Nat} (h0 : numR ((0, Bs) : St) 1 = R0) (h1 : numR R0.1 4 = R1) (h2 : numR R1.1 1 = R2) (h3 : rlistR lineR 3 R2.1 = R3) (hc : countR R3.1 12 = (S1, nc)) (h4 : (manyR tkR nc S1).1 = S4) (h5 : rlistR lineR 3 S4 = R5) (h6 : numR R5.1 1 = R6) (h7 : numR R6.1 1 = R7) (h8 : numR R7.1 1 = R8) (h9 : numR R8.1 8 = R9) :
    refR Bs = (R9.1, ⟨(R0.2 : Nat), (R1.2 : Nat), (R2.2 : Nat), R3.2, (manyR tkR nc S1).2, R5.2, (R6.2 : Nat), (R7.2 : Nat), (R8.2 : Nat), sgn R9.2⟩) := by
  have ht : rlistR tkR 12 R3.1 = manyR tkR nc S1 := by
    have hc' : cntR R3.1 12 = (S1, nc) := hc
    unfold rlistR
    rw [hc']
  unfold refR
  dsimp only
  rw [h0, h1, h2, h3, ht, h4, h5, h6, h7, h8, h9]
theorem zero_back {R2 : St × Nat} {R3 : St × List Ln} {S1 S4 : St} {nc : Nat} {R5 : St × List Ln} {R6 R7 R8 R9 : St × Nat} (hc : countR R3.1 12 = (S1, nc)) (h4 : (manyR tkR nc S1).1 = S4) (h5 : rlistR lineR 3 S4 = R5) (h6 : numR R5.1 1 = R6) (h7 : numR R6.1 1 = R7) (h8 : numR R7.1 1 = R8) (h9 : numR R8.1 8 = R9) (hz : R9.1.1 = 0) :
    R3.1.1 = 0 ∧ S4.1 = 0 ∧ R5.1.1 = 0 := by
  have nb : ∀ {S : St} {size : Int} {Q : St × Nat}, numR S size = Q → 1 ≤ size ∧ size ≤ 8 → Q.1.1 = 0 → S.1 = 0 := by
    intro S size Q h hs hq
    by_cases h0 : S.1 = 0
    · exact h0
    · rw [numR_bad h0 hs] at h
      subst h
      exact absurd hq h0
  have z8 := nb h9 (by omega) hz
  have z7 := nb h8 (by omega) z8
  have z6 := nb h7 (by omega) z7
  have z5 := nb h6 (by omega) z6
  have z4 : S4.1 = 0 := by
    by_cases h0 : S4.1 = 0
    · exact h0
    · rw [rlistR_bad h0] at h5
      subst h5
      exact absurd z5 h0
  refine ⟨?_, z4, z5⟩
  by_cases h0 : R3.1.1 = 0
  · exact h0
  · have ht : rlistR tkR 12 R3.1 = manyR tkR nc S1 := by
      have hc' : cntR R3.1 12 = (S1, nc) := hc
      unfold rlistR
      rw [hc']
    rw [rlistR_bad h0] at ht
    rw [← ht] at h4
    subst h4
    exact absurd z4 h0
/-- What is decoded fits. -/
theorem dec_ok {Bs : List Nat} (hB : ∀ y ∈ Bs, y < 256) : Pgok (decR Bs).pg := by
  unfold decR
  dsimp only
  have c0 : By ((0, Bs) : St) := hB
  have c1 := numR_bytes c0 1
  have c2 := numR_bytes c1 4
  have c3 := numR_bytes c2 1
  have c4 := listR_by (f := lineR) (fun S h => lineR_by h) 3 c3
  have c5 := listR_by (f := tkR) (fun S h => tkR_by h) 12 c4
  have c6 := listR_by (f := lineR) (fun S h => lineR_by h) 3 c5
  have c7 := numR_bytes c6 1
  have c8 := numR_bytes c7 1
  have c9 := numR_bytes c8 1
  have o4 := listR_all (f := lineR) (Q := Lnok) (fun S h => lineR_by h) (fun S h => lineR_ok h) 3 c3
  have o5 := listR_all (f := tkR) (Q := Tkok) (fun S h => tkR_by h) (fun S h => tkR_ok h) 12 c4
  have o6 := listR_all (f := lineR) (Q := Lnok) (fun S h => lineR_by h) (fun S h => lineR_ok h) 3 c5
  have f1 := fit1 c0
  have f2 := fit4 c1
  have f3 := fit1 c2
  have f7 := fit1 c6
  have f8 := fit1 c7
  have f9 := fit1 c8
  have f10 := fit8 c9
  refine ⟨⟨?_, ?_⟩, ⟨?_, ?_⟩, ⟨?_, ?_⟩, o4, o5, o6, ⟨?_, ?_⟩, ⟨?_, ?_⟩, ⟨?_, ?_⟩, sgn_in f10⟩
  all_goals (dsimp only; omega)
theorem ref_ok {Bs : List Nat} (hB : ∀ y ∈ Bs, y < 256) (hz : (refR Bs).1.1 = 0) : Pgok (refR Bs).2 := by
  rcases ref_dec Bs with ⟨_, h2⟩ | ⟨_, h2⟩
  · rw [h2]; exact dec_ok hB
  · rw [hz] at h2; exact absurd h2 (by decide)
end Go.Proofs.YtdcanppiiikjgaaDoor
