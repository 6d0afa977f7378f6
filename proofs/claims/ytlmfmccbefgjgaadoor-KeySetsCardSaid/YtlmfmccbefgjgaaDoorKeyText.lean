/- A key told as a text, by the program and by the document's answer; a text read as a key. -/
import Derived.Test.YtlmfmccbefgjgaaDoorKeyCut
import Derived.Laws.Concat
import Derived.Laws.ResultCell
namespace Go.Proofs.YtlmfmccbefgjgaaDoor
open Go.RowKit Go.ChangeShapes Go.WideShapes
set_option linter.unusedVariables false

/-- A key's text. -/
def textL (k : K) : List UInt8 :=
  if k.1 = 1 ∨ k.1 = 2 then ((wordL k.1 ++ [32]) ++ digL k.2.1.toNat) ++ ([32] ++ digL k.2.2.toNat)
  else if k.1 = 3 ∨ k.1 = 4 then (wordL k.1 ++ [32]) ++ digL k.2.1.toNat else []
theorem word_len (a : Int) : (wordL a).length ≤ 5 := by
  unfold wordL
  repeat' split
  all_goals simp
theorem text_len (k : K) : (textL k).length ≤ 13 := by
  have h1 := word_len k.1
  have h2 := dig_len k.2.1.toNat
  have h3 := dig_len k.2.2.toNat
  unfold textL
  repeat' split
  all_goals simp only [List.length_append, List.length_cons, List.length_nil]
  all_goals omega

theorem text_two (a : Int) (ha : a = 1 ∨ a = 2) (b c : Int) (hb : 0 ≤ b ∧ b ≤ 255) (hc : 0 ≤ c ∧ c ≤ 255) (W : World) (hv : Vars W) :
    Calls Tryd.prog 12 #[.agg #[.int .u8 a, .int .u8 b, .int .u8 c]] W fun e w' => e = .returned (.string ⟨(textL (a, b, c)).toArray⟩) ∧ Gr W w' := by
  obtain ⟨hb0, hb1⟩ := hb
  obtain ⟨hc0, hc1⟩ := hc
  have hT : (⟨(textL (a, b, c)).toArray⟩ : ByteArray) = ((⟨(wordL a).toArray⟩ : ByteArray) ++ ⟨#[32]⟩ ++ ⟨(digL b.toNat).toArray⟩) ++ (⟨#[32]⟩ ++ ⟨(digL c.toNat).toArray⟩) := by
    rw [ByteArray.mk_append_mk, ByteArray.mk_append_mk, ByteArray.mk_append_mk, ByteArray.mk_append_mk]
    unfold textL
    rw [if_pos ha]
  have hwl := word_len a
  have hne : (⟨(wordL a).toArray⟩ : ByteArray).toList.isEmpty = false := by rw [ByteArray.toList_eq]; rcases ha with rfl | rfl <;> rfl
  have hne2 : ((⟨(wordL a).toArray⟩ : ByteArray) == ByteArray.empty) = false := by rcases ha with rfl | rfl <;> rfl
  have hne3 : ((⟨(wordL a).toArray⟩ : ByteArray).toList == []) = false := by rw [ByteArray.toList_eq]; rcases ha with rfl | rfl <;> rfl
  have hho := fun W => housed_any a W
  have hhb : housedB a = true := by rcases ha with rfl | rfl <;> rfl
  rw [hhb] at hho
  have hwo := fun W => word_any a W
  have hd1 := (dig_len b.toNat).2
  have hd2 := (dig_len c.toNat).2
  have hi1 := itoa_any b hb0 hb1
  have hi2 := itoa_any c hc0 hc1
  have HT := Lib.hid hT
  have HI1 := Lib.hid hi1
  have HI2 := Lib.hid hi2
  have HV := Lib.hid hv
  clear hT hi1 hi2 hhb hv
  have s1 : ((⟨(wordL a).toArray⟩ : ByteArray).size : Int) ≤ 5 := by rw [size_arr]; omega
  have s2 : ((⟨(digL b.toNat).toArray⟩ : ByteArray).size : Int) ≤ 3 := by rw [size_arr]; omega
  have s3 : ((⟨(digL c.toNat).toArray⟩ : ByteArray).size : Int) ≤ 3 := by rw [size_arr]; omega
  clear hwl hd1 hd2
  generalize (⟨(wordL a).toArray⟩ : ByteArray) = A at *
  generalize (⟨(digL b.toNat).toArray⟩ : ByteArray) = B at *
  generalize (⟨(digL c.toNat).toArray⟩ : ByteArray) = C at *
  go_enter Tryd.func12, Tryd.ntmps12
  go_wp2_with fail
  refine (hwo _).mono ?_
  rintro e w' ⟨rfl, rfl⟩
  have HG := Lib.hid ((Gr.refl W).alloc (.cells #[.int .u8 a, .int .u8 b, .int .u8 c] 30))
  have e0 : (W.alloc (.cells #[.int .u8 a, .int .u8 b, .int .u8 c] 30)).cell? ⟨W.heap.size, 0, none⟩ = some (.int .u8 a) := by simp
  have e1 : (W.alloc (.cells #[.int .u8 a, .int .u8 b, .int .u8 c] 30)).cell? ⟨W.heap.size, 1, none⟩ = some (.int .u8 b) := by simp
  have e2 : (W.alloc (.cells #[.int .u8 a, .int .u8 b, .int .u8 c] 30)).cell? ⟨W.heap.size, 2, none⟩ = some (.int .u8 c) := by simp
  have hX : W.heap.size < (W.alloc (.cells #[.int .u8 a, .int .u8 b, .int .u8 c] 30)).heap.size := by simp
  generalize W.alloc (.cells #[.int .u8 a, .int .u8 b, .int .u8 c] 30) = W1 at *
  generalize W.heap.size = X at *
  go_wp2_with fail
  refine (HI1.out _ (HV.out.gr HG.out)).mono ?_
  rintro e W2 ⟨rfl, h2⟩
  have HG2 := Lib.hid (HG.out.trans h2)
  have f0 := (h2.below.cell (p := ⟨X, 0, none⟩) hX).trans e0
  have f2 := (h2.below.cell (p := ⟨X, 2, none⟩) hX).trans e2
  clear h2 e0 e1 e2 hX
  go_wp2_with fail
  refine (hho _).mono ?_
  rintro e w' ⟨rfl, rfl⟩
  go_wp2_with fail
  refine (HI2.out _ (HV.out.gr HG2.out)).mono ?_
  rintro e W3 ⟨rfl, h3⟩
  have HG3 := Lib.hid (HG2.out.trans h3)
  clear h3 f0 f2
  go_wp2_with fail
  go_ret
  exact ⟨by rw [HT.out]; rfl, HG3.out⟩
theorem text_one (a : Int) (ha : a = 3 ∨ a = 4) (b c : Int) (hb : 0 ≤ b ∧ b ≤ 255) (W : World) (hv : Vars W) :
    Calls Tryd.prog 12 #[.agg #[.int .u8 a, .int .u8 b, .int .u8 c]] W fun e w' => e = .returned (.string ⟨(textL (a, b, c)).toArray⟩) ∧ Gr W w' := by
  obtain ⟨hb0, hb1⟩ := hb
  have hT : (⟨(textL (a, b, c)).toArray⟩ : ByteArray) = (⟨(wordL a).toArray⟩ : ByteArray) ++ ⟨#[32]⟩ ++ ⟨(digL b.toNat).toArray⟩ := by
    rw [ByteArray.mk_append_mk, ByteArray.mk_append_mk]
    unfold textL
    rw [if_neg (by omega), if_pos ha]
  have hwl := word_len a
  have hne : (⟨(wordL a).toArray⟩ : ByteArray).toList.isEmpty = false := by rw [ByteArray.toList_eq]; rcases ha with rfl | rfl <;> rfl
  have hne2 : ((⟨(wordL a).toArray⟩ : ByteArray) == ByteArray.empty) = false := by rcases ha with rfl | rfl <;> rfl
  have hne3 : ((⟨(wordL a).toArray⟩ : ByteArray).toList == []) = false := by rw [ByteArray.toList_eq]; rcases ha with rfl | rfl <;> rfl
  have hho := fun W => housed_any a W
  have hhb : housedB a = false := by rcases ha with rfl | rfl <;> rfl
  rw [hhb] at hho
  have hwo := fun W => word_any a W
  have hd1 := (dig_len b.toNat).2
  have hi1 := itoa_any b hb0 hb1
  have HT := Lib.hid hT
  have HI1 := Lib.hid hi1
  have HV := Lib.hid hv
  clear hT hi1 hhb hv
  have s1 : ((⟨(wordL a).toArray⟩ : ByteArray).size : Int) ≤ 5 := by rw [size_arr]; omega
  have s2 : ((⟨(digL b.toNat).toArray⟩ : ByteArray).size : Int) ≤ 3 := by rw [size_arr]; omega
  clear hwl hd1
  generalize (⟨(wordL a).toArray⟩ : ByteArray) = A at *
  generalize (⟨(digL b.toNat).toArray⟩ : ByteArray) = B at *
  go_enter Tryd.func12, Tryd.ntmps12
  go_wp2_with fail
  refine (hwo _).mono ?_
  rintro e w' ⟨rfl, rfl⟩
  have HG := Lib.hid ((Gr.refl W).alloc (.cells #[.int .u8 a, .int .u8 b, .int .u8 c] 30))
  have e0 : (W.alloc (.cells #[.int .u8 a, .int .u8 b, .int .u8 c] 30)).cell? ⟨W.heap.size, 0, none⟩ = some (.int .u8 a) := by simp
  have e1 : (W.alloc (.cells #[.int .u8 a, .int .u8 b, .int .u8 c] 30)).cell? ⟨W.heap.size, 1, none⟩ = some (.int .u8 b) := by simp
  have hX : W.heap.size < (W.alloc (.cells #[.int .u8 a, .int .u8 b, .int .u8 c] 30)).heap.size := by simp
  generalize W.alloc (.cells #[.int .u8 a, .int .u8 b, .int .u8 c] 30) = W1 at *
  generalize W.heap.size = X at *
  go_wp2_with fail
  refine (HI1.out _ (HV.out.gr HG.out)).mono ?_
  rintro e W2 ⟨rfl, h2⟩
  have HG2 := Lib.hid (HG.out.trans h2)
  have f0 := (h2.below.cell (p := ⟨X, 0, none⟩) hX).trans e0
  clear h2 e0 e1 hX
  go_wp2_with fail
  refine (hho _).mono ?_
  rintro e w' ⟨rfl, rfl⟩
  go_wp2_with fail
  go_ret
  exact ⟨by rw [HT.out]; rfl, HG2.out⟩
theorem text_none (a : Int) (ha : ¬ (a = 1 ∨ a = 2) ∧ ¬ (a = 3 ∨ a = 4)) (b c : Int) (W : World) :
    Calls Tryd.prog 12 #[.agg #[.int .u8 a, .int .u8 b, .int .u8 c]] W fun e w' => e = .returned (.string ⟨(textL (a, b, c)).toArray⟩) ∧ Gr W w' := by
  have hT : textL (a, b, c) = [] := by unfold textL; rw [if_neg ha.1, if_neg ha.2]
  rw [hT]
  have hwo := fun W => word_any a W
  have hw : wordL a = [] := by unfold wordL; rw [if_neg (by omega), if_neg (by omega), if_neg (by omega), if_neg (by omega)]
  rw [hw] at hwo
  go_enter Tryd.func12, Tryd.ntmps12
  go_wp2_with fail
  refine (hwo _).mono ?_
  rintro e w' ⟨rfl, rfl⟩
  go_wp2_with fail
  go_ret
  exact ⟨rfl, (Gr.refl _).alloc _⟩
theorem text_any (k : K) (hk : Kok k) (W : World) (hv : Vars W) :
    Calls Tryd.prog 12 #[.agg #[.int .u8 k.1, .int .u8 k.2.1, .int .u8 k.2.2]] W fun e w' => e = .returned (.string ⟨(textL k).toArray⟩) ∧ Gr W w' := by
  obtain ⟨a, b, c⟩ := k
  by_cases h1 : a = 1 ∨ a = 2
  · exact text_two a h1 b c hk.2.1 hk.2.2 W hv
  · by_cases h2 : a = 3 ∨ a = 4
    · exact text_one a h2 b c hk.2.1 W hv
    · exact text_none a ⟨h1, h2⟩ b c W
end Go.Proofs.YtlmfmccbefgjgaaDoor
