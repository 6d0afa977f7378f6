/- What the tags are called: the words lie in their variable where the row's condition holds. -/
import Derived.Test.YtnmdplefedffnaaDoorStepRow
import Derived.LaidMore
import Derived.LaidLaws
import Derived.Lib.LaidTab
import Derived.Lib.SmallJoins
import Derived.MakeChecks
namespace Go.Proofs.YtnmdplefedffnaaDoor
open Go.RowKit Go.ChangeShapes Go.WideShapes
set_option linter.unusedVariables false
set_option maxRecDepth 10000

/-- The words, by the tag. -/
def wordsL : List (List UInt8) := [[], [116, 97, 107, 101], [102, 114, 101, 101], [115, 101, 110, 100], [98, 97, 99, 107], [112, 117, 116], [100, 114, 97, 119], [111, 119, 101], [112, 97, 121]]
def wordB (t : Nat) : ByteArray := ⟨(wordsL.getD t []).toArray⟩
/-- An array of texts that reads as the table holds its texts, cell for cell. -/
theorem cells_of_strs {H : Type} {enc : TypeId × Value → H} {P : Program} {w : World} {base : Nat} {sp : Nat → Bool} {held : Bool} {fuel : Nat} {t e : TypeId} {n : Nat} {cs : List Value} {zs : List (List UInt8)} {p : List MemPlace}
    (ht : P.underlying t = some (.array n e)) (he : P.underlying e = some .string) (hce : P.cellsOf e = 1) (hct : P.cellsOf t = n)
    (h : DataW.trod enc P w base sp held fuel t cs = some (.agg (zs.map fun z => .lit (.string z)), p)) : cs = zs.map fun z => Value.string ⟨z.toArray⟩ := by
  cases fuel with
  | zero => simp [DataW.trod] at h
  | succ fuel =>
    simp only [DataW.trod, ht, hce, hct, Nat.mul_one] at h
    split at h
    · rename_i hl
      obtain ⟨xs, hm, hx⟩ := Option.map_eq_some_iff.1 h
      have hxs : xs.map (·.1) = zs.map fun z => (DataW.lit (.string z) : DataW H) := by
        have := congrArg Prod.fst hx
        simpa using this
      have hxl : xs.length = n := by simpa using Lib.mapM_length hm
      have hzl : zs.length = n := by
        have := congrArg List.length hxs
        simp at this
        omega
      apply List.ext_getElem?
      intro i
      by_cases hi : i < n
      · obtain ⟨b, hb, hf⟩ := Lib.mapM_at hm i i (by simp [hi])
        obtain ⟨z, hc, rfl, _⟩ := DataW.trod_string he hf
        have h1 : cs[i]? = some (.string z) := by
          have := congrArg (·[0]?) hc
          simpa [List.getElem?_take, List.getElem?_drop] using this
        have h2 : (xs.map (·.1))[i]? = some (DataW.lit (.string z.data.toList) : DataW H) := by simp [hb]
        rw [hxs] at h2
        simp only [List.getElem?_map, Option.map_eq_some_iff, DataW.lit.injEq, Lit.string.injEq] at h2
        obtain ⟨z', hz', hzz⟩ := h2
        have hz2 : (⟨z'.toArray⟩ : ByteArray) = z := by rw [hzz]
        simp [h1, hz', hz2]
      · rw [List.getElem?_eq_none (by omega), List.getElem?_eq_none (by simp; omega)]
    · cases h
/-- The words lie in their variable. -/
def Words (W : World) : Prop := W.var? Tryd.prog "pledge/step.words" = some (wordsL.map fun z => Value.string ⟨z.toArray⟩).toArray
theorem gWords : Tryd.prog.globalNamed "pledge/step.words" = some 0 := by kernel_rfl
theorem tWords : (Tryd.prog.globals[0]?).map (·.type) = some 49 := by kernel_rfl
theorem Words.later {W W' : World} (h : Words W) (hb : Below W.heap.size W W') : Words W' := Go.Joins.var_stays gWords h hb (Nat.le_refl _)
theorem Words.cell {W : World} (h : Words W) (t : Nat) (ht : t < 9) : W.cell? ⟨0, t, none⟩ = some (.string (wordB t)) := by
  have := World.var?_cell gWords h t
  rw [this]
  rcases (by omega : t = 0 ∨ t = 1 ∨ t = 2 ∨ t = 3 ∨ t = 4 ∨ t = 5 ∨ t = 6 ∨ t = 7 ∨ t = 8) with rfl | rfl | rfl | rfl | rfl | rfl | rfl | rfl | rfl <;> rfl
theorem of_laid {W : World} (h : laidMetH Tryd.prog Rows.stepGoodRow.laid W) : Words W := by
  rw [MakeChecks.laidMetH_plain _ _ _ (by kernel_rfl)] at h
  obtain ⟨ps, ⟨g', t', cs, fuel, p, q, hg', ht', hvar, hd, _, _⟩, _⟩ := h
  obtain rfl := Option.some.inj (gWords.symm.trans hg')
  obtain rfl := Option.some.inj (tWords.symm.trans ht')
  unfold Words
  rw [hvar, ← cells_of_strs (zs := wordsL) Tryd.underlying49 Tryd.underlying9 (by kernel_rfl) (by kernel_rfl) hd]
/-- The world that the program's own start lays meets the condition. -/
theorem door_met (os : Os) (args : Array Value) : laidMetH Tryd.prog Rows.stepGoodRow.laid ((World.doorLaid Tryd.prog 400 os).forCall (fun _ _ => 0) ⟨#[], args, []⟩).memory :=
  laidMetH_of_parts3 (fuel := 8) (laidMet_of_run' 8 (by kernel_rfl) (by kernel_rfl)) (by kernel_rfl) (by kernel_rfl)
theorem tagword_any (t : Int) (h0 : 0 ≤ t) (h255 : t ≤ 255) (W : World) (hw : Words W) :
    Calls Tryd.prog 17 #[.int .u8 t] W fun e w' => e = .returned (.string (wordB t.toNat)) ∧ w' = W := by
  by_cases h9 : t < 9
  · obtain ⟨k, rfl⟩ : ∃ k : Nat, t = (k : Int) := ⟨t.toNat, by omega⟩
    have hc := hw.cell k (by omega)
    have hd : decide (9 ≤ (k : Int)) = false := decide_eq_false (by omega)
    have hk : ((k : Nat) : Int).toNat = k := rfl
    rw [hk]
    generalize wordB k = s at *
    clear hw hk
    go_enter Tryd.func17, Tryd.ntmps17
    go_wp2_with fail
    go_ret
    exact ⟨rfl, rfl⟩
  · have hd : decide (9 ≤ t) = true := decide_eq_true (by omega)
    have hk : wordB t.toNat = ⟨#[]⟩ := by
      unfold wordB wordsL
      rw [List.getD, List.getElem?_eq_none (by simp; omega)]; rfl
    rw [hk]
    clear hw hk
    go_enter Tryd.func17, Tryd.ntmps17
    go_wp2_with fail
    go_ret
    exact ⟨rfl, rfl⟩
theorem rword_any (t : Int) (h0 : 0 ≤ t) (W : World) :
    Calls Tryd.prog 18 #[.int .u8 t] W fun e w' => e = .returned (.string (wordB t.toNat)) ∧ w' = W := by
  by_cases h9 : 1 ≤ t ∧ t ≤ 8
  · rcases (by omega : t = 1 ∨ t = 2 ∨ t = 3 ∨ t = 4 ∨ t = 5 ∨ t = 6 ∨ t = 7 ∨ t = 8) with rfl | rfl | rfl | rfl | rfl | rfl | rfl | rfl
    all_goals
      go_enter Tryd.func18, Tryd.ntmps18
      go_wp2_with fail
      go_ret
      exact ⟨rfl, rfl⟩
  · have hk : wordB t.toNat = ⟨#[]⟩ := by
      by_cases h : t = 0
      · subst h; rfl
      · unfold wordB wordsL
        rw [List.getD, List.getElem?_eq_none (by simp; omega)]; rfl
    rw [hk]
    have e1 : (t == 1) = false := by simp; omega
    have e2 : (t == 2) = false := by simp; omega
    have e3 : (t == 3) = false := by simp; omega
    have e4 : (t == 4) = false := by simp; omega
    have e5 : (t == 5) = false := by simp; omega
    have e6 : (t == 6) = false := by simp; omega
    have e7 : (t == 7) = false := by simp; omega
    have e8 : (t == 8) = false := by simp; omega
    clear h9 hk h0
    go_enter Tryd.func18, Tryd.ntmps18
    go_wp2_with fail
    go_ret
    exact ⟨rfl, rfl⟩
end Go.Proofs.YtnmdplefedffnaaDoor
