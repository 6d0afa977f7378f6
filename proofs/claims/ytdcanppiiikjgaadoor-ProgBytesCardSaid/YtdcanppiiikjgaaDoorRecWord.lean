/- What the kinds are called: the words lie in their variable where the row's condition holds; rec.Word, and the document's. -/
import Derived.Test.YtdcanppiiikjgaaDoorGrStep
import Derived.LaidMore
import Derived.LaidLaws
import Derived.Lib.LaidTab
import Derived.Lib.SmallJoins
import Derived.MakeChecks
namespace Go.Proofs.YtdcanppiiikjgaaDoor
open Go.RowKit Go.ChangeShapes Go.WideShapes
set_option linter.unusedVariables false
set_option maxRecDepth 10000

/-- The words, by the kind. -/
def rwordsL : List (List UInt8) := [[], [115, 116, 97, 114, 116], [98, 101, 103, 105, 110], [97, 100, 100], [99, 111, 109, 109, 105, 116], [97, 98, 111, 114, 116], [117, 110, 100, 111], [103, 111, 110, 101], [98, 97, 99, 107], [100, 111, 110, 101]]
def rwordB (t : Nat) : ByteArray := ⟨(rwordsL.getD t []).toArray⟩
/-- The words lie in their variable. -/
def RWords (W : World) : Prop := W.var? Tryd.prog "pledge/rec.words" = some (rwordsL.map fun z => Value.string ⟨z.toArray⟩).toArray
theorem gRWords : Tryd.prog.globalNamed "pledge/rec.words" = some 0 := by kernel_rfl
theorem tRWords : (Tryd.prog.globals[0]?).map (·.type) = some 109 := by kernel_rfl
theorem RWords.later {W W' : World} (h : RWords W) (hb : Below W.heap.size W W') : RWords W' := Go.Joins.var_stays gRWords h hb (Nat.le_refl _)
theorem RWords.cell {W : World} (h : RWords W) (t : Nat) (ht : t < 10) : W.cell? ⟨0, t, none⟩ = some (.string (rwordB t)) := by
  have := World.var?_cell gRWords h t
  rw [this]
  rcases (by omega : t = 0 ∨ t = 1 ∨ t = 2 ∨ t = 3 ∨ t = 4 ∨ t = 5 ∨ t = 6 ∨ t = 7 ∨ t = 8 ∨ t = 9) with rfl | rfl | rfl | rfl | rfl | rfl | rfl | rfl | rfl | rfl <;> rfl
theorem words_of {W : World} {rest : List (String × DataW Unit)} {ps : List MemPlace} (h : DataW.LaidVars Tryd.prog W (("pledge/step.words", Rows.laid_pledge_step_words) :: rest) ps) : Words W ∧ ∃ q, DataW.LaidVars Tryd.prog W rest q := by
  obtain ⟨g', t', cs, fuel, p, q, hg', ht', hvar, hd, hrest, _⟩ := h
  obtain rfl := Option.some.inj (gWords.symm.trans hg')
  obtain rfl := Option.some.inj (tWords.symm.trans ht')
  refine ⟨?_, q, hrest⟩
  unfold Words
  rw [hvar, ← cells_of_strs (zs := wordsL) Tryd.underlying162 Tryd.underlying9 (by kernel_rfl) (by kernel_rfl) hd]
/-- What both words' rows give. -/
def Wd2 (W : World) : Prop := Words W ∧ RWords W
theorem Wd2.later {W W' : World} (h : Wd2 W) (hb : Below W.heap.size W W') : Wd2 W' := ⟨h.1.later hb, h.2.later hb⟩
theorem kword_any (t : Int) (h0 : 0 ≤ t) (h255 : t ≤ 255) (W : World) (hw : RWords W) :
    Calls Tryd.prog 24 #[.int .u8 t] W fun e w' => e = .returned (.string (rwordB t.toNat)) ∧ w' = W := by
  by_cases h9 : t < 10
  · obtain ⟨k, rfl⟩ : ∃ k : Nat, t = (k : Int) := ⟨t.toNat, by omega⟩
    have hc := hw.cell k (by omega)
    have hd : decide (10 ≤ (k : Int)) = false := decide_eq_false (by omega)
    have hk : ((k : Nat) : Int).toNat = k := rfl
    rw [hk]
    generalize rwordB k = s at *
    clear hw hk
    go_enter Tryd.func24, Tryd.ntmps24
    go_wp2_with fail
    go_ret
    exact ⟨rfl, rfl⟩
  · have hd : decide (10 ≤ t) = true := decide_eq_true (by omega)
    have hk : rwordB t.toNat = ⟨#[]⟩ := by
      unfold rwordB rwordsL
      rw [List.getD, List.getElem?_eq_none (by simp; omega)]; rfl
    rw [hk]
    clear hw hk
    go_enter Tryd.func24, Tryd.ntmps24
    go_wp2_with fail
    go_ret
    exact ⟨rfl, rfl⟩
end Go.Proofs.YtdcanppiiikjgaaDoor
