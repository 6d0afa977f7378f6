/- The document's text of a key. -/
import Derived.Test.YthkfijgdopjjjaaDoorKeyDigits
namespace Go.Proofs.YthkfijgdopjjjaaDoor
open Go.RowKit Go.ChangeShapes Go.WideShapes
set_option linter.unusedVariables false

def Dig (x : Int) (D : ByteArray) : Prop := (0 ≤ x ∧ x ≤ 255) ∧ D = ⟨(digL x.toNat).toArray⟩
theorem digits_dig (x : Int) (D : ByteArray) (h : Hid (Dig x D)) (W : World) : Calls Tryd.prog 38 #[.int .u8 x] W fun e w' => e = .returned (.string D) ∧ Gr W w' := by
  obtain ⟨⟨h0, h1⟩, rfl⟩ := h.out
  exact digits_any x h0 h1 W
set_option maxRecDepth 100000 in
set_option maxHeartbeats 400000 in
theorem rtext_1 (b c : Int) (hb : 0 ≤ b ∧ b ≤ 255) (hc : 0 ≤ c ∧ c ≤ 255) (W : World) :
    Calls Tryd.prog 24 #[.agg #[.int .u8 1, .int .u8 b, .int .u8 c]] W fun e w' => e = .returned (.string ⟨(textL (1, b, c)).toArray⟩) ∧ Below W.heap.size W w' := by
  have hT : (⟨(textL (1, b, c)).toArray⟩ : ByteArray) = (((⟨#[115, 116, 111, 99, 107, 32]⟩ : ByteArray) ++ ⟨(digL b.toNat).toArray⟩) ++ ⟨#[32]⟩) ++ ⟨(digL c.toNat).toArray⟩ := by
    rw [ByteArray.mk_append_mk, ByteArray.mk_append_mk, ByteArray.mk_append_mk]
    simp [textL, wordL]
  have HD1 : Hid (Dig b ⟨(digL b.toNat).toArray⟩) := Lib.hid ⟨hb, rfl⟩
  have HD2 : Hid (Dig c ⟨(digL c.toNat).toArray⟩) := Lib.hid ⟨hc, rfl⟩
  have s2 : ((⟨(digL b.toNat).toArray⟩ : ByteArray).size : Int) ≤ 3 := by have := (dig_len b.toNat).2; rw [size_arr]; omega
  have s3 : ((⟨(digL c.toNat).toArray⟩ : ByteArray).size : Int) ≤ 3 := by have := (dig_len c.toNat).2; rw [size_arr]; omega
  have HT := Lib.hid hT
  clear hT hb hc
  generalize (⟨(digL b.toNat).toArray⟩ : ByteArray) = B at *
  generalize (⟨(digL c.toNat).toArray⟩ : ByteArray) = C at *
  go_enter Tryd.func24, Tryd.ntmps24
  go_wp2_with fail
  have HB := Lib.hid ((Below.refl W.heap.size W).alloc (Nat.le_refl _) (.cells #[.int .u8 1, .int .u8 b, .int .u8 c] 23))
  have HX : Hid ((W.alloc (.cells #[.int .u8 1, .int .u8 b, .int .u8 c] 23)).heap[W.heap.size]? = some (.cells #[.int .u8 1, .int .u8 b, .int .u8 c] 23 (0, 0))) := Lib.hid (alloc_block _ _)
  generalize W.alloc (.cells #[.int .u8 1, .int .u8 b, .int .u8 c] 23) = W1 at *
  generalize hX : W.heap.size = X at *
  have HXX := Lib.hid hX
  clear hX
  have y1 := fun p : After W1 => cell_after p (block_cell (j := 1) HX.out rfl)
  have y2 := fun p : After W1 => cell_after p (block_cell (j := 2) HX.out rfl)
  refine wp_region_after (by kernel_rfl) (by kernel_rfl) ?_
  repeat (go_big_quiet_step (first | (go_at_call 38; exact calls_after_gr _ (digits_dig _ _ (by assumption) _))))
  refine wpQuiet_nil ?_
  intro _ hw'
  obtain ⟨⟨w6, h6⟩, hw''⟩ := hw'
  subst hw''
  have HB6 := Lib.hid (HB.out.trans (h6.mono (by have := HB.out.size; rw [HXX.out] at this; exact this)))
  clear h6 y1 y2
  go_wp2_with fail
  go_ret
  exact ⟨by rw [HT.out]; rfl, by rw [HXX.out]; exact HB6.out⟩
set_option maxRecDepth 100000 in
set_option maxHeartbeats 400000 in
theorem rtext_2 (b c : Int) (hb : 0 ≤ b ∧ b ≤ 255) (hc : 0 ≤ c ∧ c ≤ 255) (W : World) :
    Calls Tryd.prog 24 #[.agg #[.int .u8 2, .int .u8 b, .int .u8 c]] W fun e w' => e = .returned (.string ⟨(textL (2, b, c)).toArray⟩) ∧ Below W.heap.size W w' := by
  have hT : (⟨(textL (2, b, c)).toArray⟩ : ByteArray) = (((⟨#[104, 101, 108, 100, 32]⟩ : ByteArray) ++ ⟨(digL b.toNat).toArray⟩) ++ ⟨#[32]⟩) ++ ⟨(digL c.toNat).toArray⟩ := by
    rw [ByteArray.mk_append_mk, ByteArray.mk_append_mk, ByteArray.mk_append_mk]
    simp [textL, wordL]
  have HD1 : Hid (Dig b ⟨(digL b.toNat).toArray⟩) := Lib.hid ⟨hb, rfl⟩
  have HD2 : Hid (Dig c ⟨(digL c.toNat).toArray⟩) := Lib.hid ⟨hc, rfl⟩
  have s2 : ((⟨(digL b.toNat).toArray⟩ : ByteArray).size : Int) ≤ 3 := by have := (dig_len b.toNat).2; rw [size_arr]; omega
  have s3 : ((⟨(digL c.toNat).toArray⟩ : ByteArray).size : Int) ≤ 3 := by have := (dig_len c.toNat).2; rw [size_arr]; omega
  have HT := Lib.hid hT
  clear hT hb hc
  generalize (⟨(digL b.toNat).toArray⟩ : ByteArray) = B at *
  generalize (⟨(digL c.toNat).toArray⟩ : ByteArray) = C at *
  go_enter Tryd.func24, Tryd.ntmps24
  go_wp2_with fail
  have HB := Lib.hid ((Below.refl W.heap.size W).alloc (Nat.le_refl _) (.cells #[.int .u8 2, .int .u8 b, .int .u8 c] 23))
  have HX : Hid ((W.alloc (.cells #[.int .u8 2, .int .u8 b, .int .u8 c] 23)).heap[W.heap.size]? = some (.cells #[.int .u8 2, .int .u8 b, .int .u8 c] 23 (0, 0))) := Lib.hid (alloc_block _ _)
  generalize W.alloc (.cells #[.int .u8 2, .int .u8 b, .int .u8 c] 23) = W1 at *
  generalize hX : W.heap.size = X at *
  have HXX := Lib.hid hX
  clear hX
  have y1 := fun p : After W1 => cell_after p (block_cell (j := 1) HX.out rfl)
  have y2 := fun p : After W1 => cell_after p (block_cell (j := 2) HX.out rfl)
  refine wp_region_after (by kernel_rfl) (by kernel_rfl) ?_
  repeat (go_big_quiet_step (first | (go_at_call 38; exact calls_after_gr _ (digits_dig _ _ (by assumption) _))))
  refine wpQuiet_nil ?_
  intro _ hw'
  obtain ⟨⟨w6, h6⟩, hw''⟩ := hw'
  subst hw''
  have HB6 := Lib.hid (HB.out.trans (h6.mono (by have := HB.out.size; rw [HXX.out] at this; exact this)))
  clear h6 y1 y2
  go_wp2_with fail
  go_ret
  exact ⟨by rw [HT.out]; rfl, by rw [HXX.out]; exact HB6.out⟩
theorem rtext_3 (b c : Int) (hb : 0 ≤ b ∧ b ≤ 255) (W : World) :
    Calls Tryd.prog 24 #[.agg #[.int .u8 3, .int .u8 b, .int .u8 c]] W fun e w' => e = .returned (.string ⟨(textL (3, b, c)).toArray⟩) ∧ Below W.heap.size W w' := by
  have hT : (⟨(textL (3, b, c)).toArray⟩ : ByteArray) = (⟨#[111, 117, 116, 32]⟩ : ByteArray) ++ ⟨(digL b.toNat).toArray⟩ := by
    rw [ByteArray.mk_append_mk]
    simp [textL, wordL]
  have HD1 := Lib.hid fun W => digits_any b hb.1 hb.2 W
  have s2 : ((⟨(digL b.toNat).toArray⟩ : ByteArray).size : Int) ≤ 3 := by have := (dig_len b.toNat).2; rw [size_arr]; omega
  have HT := Lib.hid hT
  clear hT hb
  generalize (⟨(digL b.toNat).toArray⟩ : ByteArray) = B at *
  go_enter Tryd.func24, Tryd.ntmps24
  go_wp2_with fail
  refine (HD1.out _).mono ?_
  rintro e w1 ⟨rfl, h⟩
  have HB := Lib.hid (((Gr.refl W).alloc _).trans h)
  clear h
  go_wp2_with fail
  go_ret
  exact ⟨by rw [HT.out]; rfl, HB.out.below⟩
theorem rtext_4 (b c : Int) (hb : 0 ≤ b ∧ b ≤ 255) (W : World) :
    Calls Tryd.prog 24 #[.agg #[.int .u8 4, .int .u8 b, .int .u8 c]] W fun e w' => e = .returned (.string ⟨(textL (4, b, c)).toArray⟩) ∧ Below W.heap.size W w' := by
  have hT : (⟨(textL (4, b, c)).toArray⟩ : ByteArray) = (⟨#[111, 119, 101, 100, 32]⟩ : ByteArray) ++ ⟨(digL b.toNat).toArray⟩ := by
    rw [ByteArray.mk_append_mk]
    simp [textL, wordL]
  have HD1 := Lib.hid fun W => digits_any b hb.1 hb.2 W
  have s2 : ((⟨(digL b.toNat).toArray⟩ : ByteArray).size : Int) ≤ 3 := by have := (dig_len b.toNat).2; rw [size_arr]; omega
  have HT := Lib.hid hT
  clear hT hb
  generalize (⟨(digL b.toNat).toArray⟩ : ByteArray) = B at *
  go_enter Tryd.func24, Tryd.ntmps24
  go_wp2_with fail
  refine (HD1.out _).mono ?_
  rintro e w1 ⟨rfl, h⟩
  have HB := Lib.hid (((Gr.refl W).alloc _).trans h)
  clear h
  go_wp2_with fail
  go_ret
  exact ⟨by rw [HT.out]; rfl, HB.out.below⟩
theorem rtext_off (a b c : Int) (ha : ¬ (a = 1 ∨ a = 2) ∧ ¬ (a = 3 ∨ a = 4)) (W : World) :
    Calls Tryd.prog 24 #[.agg #[.int .u8 a, .int .u8 b, .int .u8 c]] W fun e w' => e = .returned (.string ⟨(textL (a, b, c)).toArray⟩) ∧ Below W.heap.size W w' := by
  have hT : textL (a, b, c) = [] := by unfold textL; rw [if_neg ha.1, if_neg ha.2]
  rw [hT]
  have n1 : (a == 1) = false := by simp; omega
  have n2 : (a == 2) = false := by simp; omega
  have n3 : (a == 3) = false := by simp; omega
  have n4 : (a == 4) = false := by simp; omega
  clear ha hT
  go_enter Tryd.func24, Tryd.ntmps24
  go_wp2_with fail
  go_ret
  exact ⟨rfl, ((Gr.refl _).alloc _).below⟩
theorem rtext_any (k : K) (hk : Kok k) (W : World) :
    Calls Tryd.prog 24 #[.agg #[.int .u8 k.1, .int .u8 k.2.1, .int .u8 k.2.2]] W fun e w' => e = .returned (.string ⟨(textL k).toArray⟩) ∧ Below W.heap.size W w' := by
  obtain ⟨a, b, c⟩ := k
  by_cases h1 : a = 1
  · subst h1; exact rtext_1 b c hk.2.1 hk.2.2 W
  by_cases h2 : a = 2
  · subst h2; exact rtext_2 b c hk.2.1 hk.2.2 W
  by_cases h3 : a = 3
  · subst h3; exact rtext_3 b c hk.2.1 W
  by_cases h4 : a = 4
  · subst h4; exact rtext_4 b c hk.2.1 W
  exact rtext_off a b c (by omega) W
end Go.Proofs.YthkfijgdopjjjaaDoor
