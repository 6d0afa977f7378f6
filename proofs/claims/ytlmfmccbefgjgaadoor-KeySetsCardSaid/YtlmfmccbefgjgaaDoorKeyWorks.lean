/- Each key's text is read as the key; the chapter's example. -/
import Derived.Test.YtlmfmccbefgjgaaDoorKeyParse
namespace Go.Proofs.YtlmfmccbefgjgaaDoor
open Go.RowKit Go.ChangeShapes Go.WideShapes
set_option linter.unusedVariables false

theorem index_blank : ∀ (A B : List UInt8), (∀ x ∈ A, x ≠ 32) → Lib.indexByte (A ++ 32 :: B) 32 = A.length
  | [], B, _ => by simp [Lib.indexByte]
  | a :: A, B, h => by
    have ih := index_blank A B fun x hx => h x (List.mem_cons_of_mem _ hx)
    have ha : (a == 32) = false := beq_eq_false_iff_ne.2 (h a (List.mem_cons_self ..))
    rw [List.cons_append, Lib.indexByte, ha, ih, if_neg (by simp), if_neg (by simp)]
    simp
theorem index_no : ∀ (A : List UInt8), (∀ x ∈ A, x ≠ 32) → Lib.indexByte A 32 = -1
  | [], _ => rfl
  | a :: A, h => by
    have ih := index_no A fun x hx => h x (List.mem_cons_of_mem _ hx)
    have ha : (a == 32) = false := beq_eq_false_iff_ne.2 (h a (List.mem_cons_self ..))
    rw [Lib.indexByte, ha, ih, if_neg (by simp), if_pos (by rfl)]
theorem cut_blank (A B : List UInt8) (h : ∀ x ∈ A, x ≠ 32) : cutL (A ++ 32 :: B) = (A, B, true) := by
  unfold cutL Lib.cut
  rw [Lib.index_one, index_blank A B h, if_pos (by omega)]
  simp
theorem cut_no (A : List UInt8) (h : ∀ x ∈ A, x ≠ 32) : cutL A = (A, [], false) := by
  unfold cutL Lib.cut
  rw [Lib.index_one, index_no A h, if_neg (by omega)]
theorem dig_all : ((List.range 256).all fun n => numN (digL n) == n && (digL n).all fun x => x != 32) = true := by kernel_rfl
theorem dig_num (n : Nat) (h : n < 256) : numN (digL n) = n := by
  have := List.all_eq_true.1 dig_all n (List.mem_range.2 h)
  simp only [Bool.and_eq_true, beq_iff_eq] at this
  exact this.1
theorem dig_blank (n : Nat) (h : n < 256) : ∀ x ∈ digL n, x ≠ 32 := by
  have := List.all_eq_true.1 dig_all n (List.mem_range.2 h)
  simp only [Bool.and_eq_true, List.all_eq_true, bne_iff_ne] at this
  exact this.2
theorem word_blank (a : Int) : ∀ x ∈ wordL a, x ≠ 32 := by
  intro x hx
  unfold wordL at hx
  repeat' split at hx
  all_goals simp only [List.mem_cons, List.not_mem_nil, or_false] at hx
  all_goals rcases hx with rfl | rfl | rfl | rfl | rfl
  all_goals decide
theorem kind_word (a : Int) (h : 1 ≤ a ∧ a ≤ 4) : kindN (wordL a) = a := by
  rcases (by omega : a = 1 ∨ a = 2 ∨ a = 3 ∨ a = 4) with rfl | rfl | rfl | rfl <;> rfl
theorem pick_text (k : K) (h : Canon k) : pickK (textL k) = k := by
  obtain ⟨a, b, c⟩ := k
  obtain ⟨h1, h2, h3, h4⟩ := h
  dsimp only at h1 h2 h3 h4
  unfold textL
  dsimp only
  by_cases ha : a = 1 ∨ a = 2
  · rw [if_pos ha]
    have e1 : ((wordL a ++ [32]) ++ digL b.toNat) ++ ([32] ++ digL c.toNat) = wordL a ++ 32 :: (digL b.toNat ++ 32 :: digL c.toNat) := by simp
    rw [e1]
    unfold pickK
    rw [cut_blank _ _ (word_blank a)]
    dsimp only
    rw [cut_blank _ _ (dig_blank _ (by omega)), kind_word a h1]
    dsimp only
    rw [dig_num _ (by omega), dig_num _ (by omega), Int.toNat_of_nonneg h2.1, Int.toNat_of_nonneg h3.1]
  · rw [if_neg ha, if_pos (by omega)]
    have e1 : (wordL a ++ [32]) ++ digL b.toNat = wordL a ++ 32 :: digL b.toNat := by simp
    rw [e1]
    unfold pickK
    rw [cut_blank _ _ (word_blank a)]
    dsimp only
    rw [cut_no _ (dig_blank _ (by omega)), kind_word a h1]
    dsimp only
    rw [dig_num _ (by omega), Int.toNat_of_nonneg h2.1]
    have : c = 0 := h4 (by omega)
    subst this
    rfl
theorem parse_text (k : K) (h : Canon k) : parseK (textL k) = some k := by
  unfold parseK
  rw [pick_text k h, if_neg]
  obtain ⟨h1, _⟩ := h
  simp only [not_or, Decidable.not_not]
  exact ⟨by omega, trivial⟩
/-- The key of a text, its warehouse left out where the text doesn't tell it. -/
theorem parse_canon (L : List UInt8) (k : K) (h : parseK L = some k) : Canon k ∧ textL k = L := by
  unfold parseK at h
  split at h
  · cases h
  · next hn =>
    simp only [not_or, Decidable.not_not] at hn
    obtain rfl : pickK L = k := Option.some.inj h
    refine ⟨?_, hn.2⟩
    have hk := pick_ok L
    have hb := kind_bounds (cutL L).1
    have h1 : (pickK L).1 = kindN (cutL L).1 := rfl
    refine ⟨by omega, hk.2.1, hk.2.2, fun h3 => ?_⟩
    have hc : Canon ((pickK L).1, (pickK L).2.1, 0) := ⟨by dsimp only; omega, hk.2.1, by dsimp only; omega, fun _ => rfl⟩
    have ht : textL ((pickK L).1, (pickK L).2.1, 0) = textL (pickK L) := by
      have hn1 : ¬ ((pickK L).1 = 1 ∨ (pickK L).1 = 2) := by omega
      have hn2 : (pickK L).1 = 3 ∨ (pickK L).1 = 4 := by omega
      simp only [textL, if_neg hn1, if_pos hn2]
    have hp := pick_text _ hc
    rw [ht, hn.2] at hp
    rw [hp]
theorem text_inj (k l : K) (hk : Canon k) (hl : Canon l) (h : textL k = textL l) : k = l := by
  have h1 := pick_text k hk
  rw [h, pick_text l hl] at h1
  exact h1.symm

theorem example_parse : parseK [104, 101, 108, 100, 32, 50, 32, 49] = some (2, 2, 1) := parse_text (2, 2, 1) ⟨by decide, by decide, by decide, by decide⟩
theorem works_any (W : World) (hv : Vars W) : Calls Tryd.prog 7 #[] W fun e w' => e = .returned (.bool true) ∧ Below W.heap.size W w' := by
  have hp := fun W hv => parse_any [104, 101, 108, 100, 32, 50, 32, 49] (by decide) W hv
  rw [example_parse] at hp
  have HP := Lib.hid hp
  have HT := Lib.hid fun W hv => text_any (2, 2, 1) ⟨by decide, by decide, by decide⟩ W hv
  have HC := fun W => count_any 2 3 W
  have hc : (if sizedB 2 3 = true then belowI 2 3 5 else 0) = 16 := rfl
  rw [hc] at HC
  have HV := Lib.hid hv
  clear hp hv hc
  go_enter Tryd.func7, Tryd.ntmps7
  go_wp2_with fail
  refine (HP.out _ HV.out).mono ?_
  rintro e W1 ⟨rfl, h1⟩
  have HB1 := Lib.hid (h1.alloc h1.size (.cells #[.int .u8 2, .int .u8 2, .int .u8 1] 30))
  clear h1
  have hkv : kv ((some ((2, 2, 1) : K)).getD (0, 0, 0)) = .agg #[.int .u8 2, .int .u8 2, .int .u8 1] := rfl
  rw [hkv]
  clear hkv
  go_wp2_with fail
  refine (HT.out _ (HV.out.later HB1.out)).mono ?_
  rintro e W2 ⟨rfl, h2⟩
  have HB2 := Lib.hid (HB1.out.trans (h2.below.mono HB1.out.size))
  have ht : (⟨(textL (2, 2, 1)).toArray⟩ : ByteArray) = ⟨#[104, 101, 108, 100, 32, 50, 32, 49]⟩ := rfl
  rw [ht]
  clear h2 ht
  go_wp2_with fail
  refine (HC _).mono ?_
  rintro e w' ⟨rfl, rfl⟩
  go_wp2_with fail
  go_ret
  exact ⟨rfl, HB2.out⟩
end Go.Proofs.YtlmfmccbefgjgaaDoor
