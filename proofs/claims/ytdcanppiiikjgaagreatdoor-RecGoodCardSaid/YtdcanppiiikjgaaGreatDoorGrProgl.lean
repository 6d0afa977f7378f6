/- A program's steps: the program's way. -/
/- A program's steps, of all kinds: the program's way. -/
import Derived.Test.YtdcanppiiikjgaaGreatDoorPgWell
import Derived.Test.YtdcanppiiikjgaaGreatDoorGrProgk
namespace Go.Proofs.YtdcanppiiikjgaaGreatDoor
open Go.RowKit Go.ChangeShapes Go.WideShapes
set_option linter.unusedVariables false
set_option linter.unusedSimpArgs false
set_option maxRecDepth 10000

/-- Steps in a block made last: a row of the call's own. -/
theorem FillS.lit {W w : World} {cs : Array Value} {H : List Hs} {S : List Stp} {m : Nat} (hb : Below W.heap.size W w) (hc : cs.toList = flatG sc H) (hm : H.length = m) (hbig : m ≤ 1000) (hT : TellsAll w H S) : FillS W (w.alloc (.cells cs 147)) (.slice (some ⟨w.heap.size, 0, none⟩) m m) H S m := by
  have hba : Below w.heap.size w (w.alloc (.cells cs 147)) := (Below.refl _ _).alloc (Nat.le_refl _) _
  have hs : cs.size = m * 3 := by rw [← Array.length_toList, hc, flatG_len sc_len, hm]
  have ho := World.ownsRow_lit (e := 147) (base := W.heap.size) (size := 3) w cs m hb.size (by unfold maxLen; omega) hs
  rw [hc] at ho
  refine ⟨by rw [hm]; exact ho, hb.trans (hba.mono hb.size), Nat.le_of_eq hm, hT.later hba, fun h hh h0 ad he hx => ?_⟩
  have := tells_old hT h hh h0 ad he
  have hx' : w.heap.size = ad.block := Option.some.inj hx
  omega
theorem allT_named {od po : Int} {L : List Ln} {T : List Tk} {M : List Ln} {sk fr to q : Int} (h : goodP 4 4 ⟨5, od, po, L, T, M, sk, fr, to, q⟩ = true) : total (allT T) = namedI T [] sk := by
  have h2 : (sizedB 4 4 && askP 4 4 ⟨5, od, po, L, T, M, sk, fr, to, q⟩ && decide ((⟨5, od, po, L, T, M, sk, fr, to, q⟩ : Pg) = qofP ⟨5, od, po, L, T, M, sk, fr, to, q⟩)) = true := h
  rw [ask5] at h2
  simp only [Bool.and_eq_true] at h2
  exact (named_all T sk (fills_sku h2.1.2.2)).symm
end Go.Proofs.YtdcanppiiikjgaaGreatDoor
namespace Go.Proofs.YtdcanppiiikjgaaGreatDoor
open Go.RowKit Go.ChangeShapes Go.WideShapes
set_option linter.unusedVariables false
set_option linter.unusedSimpArgs false
set_option maxRecDepth 10000

theorem takes_of {K od po : Int} {L : List Ln} {T : List Tk} {M : List Ln} {sk fr to q : Int} (hK : K = 1 ∨ K = 2 ∨ K = 3 ∨ K = 4) (h : goodP 4 4 ⟨K, od, po, L, T, M, sk, fr, to, q⟩ = true) : takesB 4 4 od T = true := by
  have h2 : (sizedB 4 4 && askP 4 4 ⟨K, od, po, L, T, M, sk, fr, to, q⟩ && decide ((⟨K, od, po, L, T, M, sk, fr, to, q⟩ : Pg) = qofP ⟨K, od, po, L, T, M, sk, fr, to, q⟩)) = true := h
  rcases hK with rfl | rfl | rfl | rfl
  · rw [ask1] at h2; simp only [Bool.and_eq_true] at h2; exact h2.1.2.1.1.1.2
  · rw [ask2] at h2; simp only [Bool.and_eq_true] at h2; exact h2.1.2.1.1.2
  · rw [ask3] at h2; simp only [Bool.and_eq_true] at h2; exact h2.1.2.1.2
  · rw [ask4] at h2; simp only [Bool.and_eq_true] at h2; exact h2.1.2.1.2
theorem steps_house {K od po : Int} {L : List Ln} {T : List Tk} {M : List Ln} {sk fr to q : Int} (hK : K = 1 ∨ K = 2 ∨ K = 3 ∨ K = 4) (hT : ∀ x ∈ T, Tkok x) (h : goodP 4 4 ⟨K, od, po, L, T, M, sk, fr, to, q⟩ = true) : stepsP ⟨K, od, po, L, T, M, sk, fr, to, q⟩ = housesP K T ++ owesS K M := by
  have ht := takes_of hK h
  have hh := house_at K od T (fun x hx => (hT x hx).2.2.1.1) ht T.length (Nat.le_refl _)
  rw [List.take_length] at hh
  unfold stepsP
  rw [if_pos h, hh]
  dsimp only
  rw [if_neg (by omega), if_neg (by omega)]
theorem owes_34 {K : Int} {M : List Ln} (hK : K = 3 ∨ K = 4) : owesS K M = [] := by
  unfold owesS
  rw [if_neg (by omega), if_neg (by omega)]
theorem owes_0 {K : Int} : owesS K [] = [] := by
  unfold owesS
  rw [if_neg (by simp), if_neg (by simp)]
theorem owes_1 {M : List Ln} (h : 1 ≤ M.length) : owesS 1 M = [(7, 0, M)] := by
  unfold owesS
  rw [if_pos ⟨h, rfl⟩]
theorem owes_2 {M : List Ln} (h : 1 ≤ M.length) : owesS 2 M = [(8, 0, M)] := by
  unfold owesS
  rw [if_neg (by omega), if_pos ⟨h, rfl⟩]
end Go.Proofs.YtdcanppiiikjgaaGreatDoor
