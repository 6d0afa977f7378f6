/- A text read as a key, by the program; the chapter's example. -/
import Derived.Test.YtlmfmccbefgjgaaDoorKeyText
import Derived.Test.YtlmfmccbefgjgaaDoorKeyBlocks
import Derived.Laws.StructEq
namespace Go.Proofs.YtlmfmccbefgjgaaDoor
open Go.RowKit Go.ChangeShapes Go.WideShapes
set_option linter.unusedVariables false

/-- The key that the program finds in a text. -/
def pickK (L : List UInt8) : K := (kindN (cutL L).1, ((numN (cutL (cutL L).2.1).1 : Nat) : Int), ((numN (cutL (cutL L).2.1).2.1 : Nat) : Int))
def parseK (L : List UInt8) : Option K := if (pickK L).1 = 0 ∨ ¬ textL (pickK L) = L then none else some (pickK L)
theorem kind_bounds (L : List UInt8) : 0 ≤ kindN L ∧ kindN L ≤ 4 := by
  unfold kindN
  repeat' split
  all_goals omega
theorem pick_ok (L : List UInt8) : Kok (pickK L) := by
  have h1 := kind_bounds (cutL L).1
  have h2 := numN_lt (cutL (cutL L).2.1).1
  have h3 := numN_lt (cutL (cutL L).2.1).2.1
  unfold pickK Kok
  dsimp only
  omega
theorem bytes_ne (a b : ByteArray) (h : ¬ a = b) : (a == b) = false := by
  obtain ⟨⟨x⟩⟩ := a
  obtain ⟨⟨y⟩⟩ := b
  show ((⟨x⟩ : Array UInt8) == ⟨y⟩) = false
  simp
  intro e
  exact h (by rw [e])
set_option maxHeartbeats 1000000 in
theorem parse_any (L : List UInt8) (hl : L.length ≤ 1000) (W : World) (hv : Vars W) :
    Calls Tryd.prog 11 #[.string ⟨L.toArray⟩] W fun e w' => e = .returned (.tuple #[kv ((parseK L).getD (0, 0, 0)), .bool (parseK L).isSome]) ∧ Below W.heap.size W w' := by
  have hl1 := cut_lens L
  have hl2 := cut_lens (cutL L).2.1
  have HC1 := Lib.hid fun W => cut_any L hl W
  have HC2 := Lib.hid fun W => cut_any (cutL L).2.1 (by omega) W
  have HK := Lib.hid fun W => kind_any (cutL L).1 W
  have HN1 := Lib.hid fun W hv => number_any (cutL (cutL L).2.1).1 (by omega) W hv
  have HN2 := Lib.hid fun W hv => number_any (cutL (cutL L).2.1).2.1 (by omega) W hv
  have HV := Lib.hid hv
  have hpo := pick_ok L
  have HTX := Lib.hid fun W hv => text_any (pickK L) hpo W hv
  have hpk : kindN (cutL L).1 = (pickK L).1 := rfl
  have hpa : ((numN (cutL (cutL L).2.1).1 : Nat) : Int) = (pickK L).2.1 := rfl
  have hpb : ((numN (cutL (cutL L).2.1).2.1 : Nat) : Int) = (pickK L).2.2 := rfl
  rw [hpk] at HK
  rw [hpa] at HN1
  rw [hpb] at HN2
  have hq : parseK L = if (pickK L).1 = 0 ∨ ¬ textL (pickK L) = L then none else some (pickK L) := rfl
  have hq2 : (textL (pickK L) = L) ↔ ((⟨(textL (pickK L)).toArray⟩ : ByteArray) = ⟨L.toArray⟩) := by
    constructor
    · intro h; rw [h]
    · intro h; have := congrArg (fun b : ByteArray => b.data.toList) h; simpa using this
  have HQ := Lib.hid hq
  have HQ2 := Lib.hid hq2
  clear hq hq2 hpk hpa hpb hl1 hl2 hv hl hpo
  generalize parseK L = pk at *
  generalize pickK L = k at *
  generalize (cutL (cutL L).2.1).1 = S at *
  generalize (cutL (cutL L).2.1).2.1 = T at *
  generalize (cutL (cutL L).2.1).2.2 = bT at *
  generalize (cutL L).1 = N at *
  generalize (cutL L).2.1 = R at *
  generalize (cutL L).2.2 = bR at *
  obtain ⟨a, b, c⟩ := k
  generalize ht : (⟨(textL (a, b, c)).toArray⟩ : ByteArray) = t at *
  clear ht
  have HQ' : Hid (pk = if a = 0 ∨ ¬ t = ⟨L.toArray⟩ then none else some (a, b, c)) := Lib.hid (by rw [HQ.out]; simp only [HQ2.out])
  clear HQ HQ2
  generalize (⟨L.toArray⟩ : ByteArray) = l at *
  generalize (⟨S.toArray⟩ : ByteArray) = s' at *
  generalize (⟨T.toArray⟩ : ByteArray) = t' at *
  generalize (⟨N.toArray⟩ : ByteArray) = n' at *
  generalize (⟨R.toArray⟩ : ByteArray) = r' at *
  go_enter Tryd.func11, Tryd.ntmps11
  go_wp2_with fail
  have HB1 := Lib.hid ((Gr.refl W).alloc (.cells #[.int .u8 0, .int .u8 0, .int .u8 0] 30))
  have HR1 : Hid ((W.alloc (.cells #[.int .u8 0, .int .u8 0, .int .u8 0] 30)).heap[W.heap.size]? = some (.cells #[.int .u8 0, .int .u8 0, .int .u8 0] 30 (0, 0))) := Lib.hid (alloc_block _ _)
  generalize W.alloc (.cells #[.int .u8 0, .int .u8 0, .int .u8 0] 30) = W1 at *
  generalize hX : W.heap.size = X at *
  have HX := Lib.hid hX
  clear hX
  refine (HC1.out _).mono ?_
  rintro e W2 ⟨rfl, h2⟩
  have HB2 := Lib.hid (HB1.out.trans h2)
  have HR2 := Lib.hid ((h2.below.block X (block_lt HR1.out)).trans HR1.out)
  clear h2 HB1 HR1 HC1
  go_wp2_with fail
  refine (HC2.out _).mono ?_
  rintro e W3 ⟨rfl, h3⟩
  have HB3 := Lib.hid (HB2.out.trans h3)
  have HR3 := Lib.hid ((h3.below.block X (block_lt HR2.out)).trans HR2.out)
  clear h3 HB2 HR2 HC2
  go_wp2_with fail
  refine (HK.out _).mono ?_
  rintro e w' ⟨rfl, rfl⟩
  go_wp2_with fail
  refine (HN1.out _ (HV.out.gr HB3.out)).mono ?_
  rintro e W4 ⟨rfl, h4⟩
  have HB4 := Lib.hid (HB3.out.below.trans (h4.mono HB3.out.below.size))
  have HR4 := Lib.hid ((h4.block X (block_lt HR3.out)).trans HR3.out)
  clear h4 HB3 HR3 HN1
  go_wp2_with fail
  refine (HN2.out _ (HV.out.later HB4.out)).mono ?_
  rintro e W5 ⟨rfl, h5⟩
  have HB5 := Lib.hid (HB4.out.trans (h5.mono HB4.out.size))
  have HR5 := Lib.hid ((h5.block X (block_lt HR4.out)).trans HR4.out)
  clear h5 HB4 HR4 HN2
  have hx := block_lt HR5.out
  have o0 : W5.cell? ⟨X, 0, none⟩ = some (.int .u8 0) := block_cell HR5.out rfl
  have o1 : W5.cell? ⟨X, 1, none⟩ = some (.int .u8 0) := block_cell HR5.out rfl
  have o2 : W5.cell? ⟨X, 2, none⟩ = some (.int .u8 0) := block_cell HR5.out rfl
  have z0 : W5.frozen? ⟨X, 0, none⟩ = false := block_free 0 HR5.out
  have z1 : W5.frozen? ⟨X, 1, none⟩ = false := block_free 1 HR5.out
  have z2 : W5.frozen? ⟨X, 2, none⟩ = false := block_free 2 HR5.out
  have hxne : ¬ W5.heap.size = X := by omega
  have hxne2 : ¬ X = W5.heap.size := by omega
  by_cases ha : a = 0
  · subst ha
    have hpk : pk = none := by rw [HQ'.out, if_pos (.inl rfl)]
    subst hpk
    have HF := block_later (key_put (.int .u8 0) (.int .u8 0) (.int .u8 0) HR5.out) ((Below.refl _ _).alloc (Nat.le_refl _) (.cells #[.int .u8 0, .int .u8 b, .int .u8 c] 30))
    replace HF := Lib.hid HF
    go_wp2_with fail
    replace HF := HF.out
    (try simp only [Exit.inBlock, Exit.then]); refine bodyPost_ret (results_key rfl _ _ X 0 0 0 _ rfl rfl (block_cell HF rfl) (block_cell HF rfl) (block_cell HF rfl)) rfl ?_
    exact ⟨rfl, (((HB5.out.setCell (p := ⟨X, 0, none⟩) (by rw [HX.out]; exact Nat.le_refl _) _).setCell (p := ⟨X, 1, none⟩) (by rw [HX.out]; exact Nat.le_refl _) _).setCell (p := ⟨X, 2, none⟩) (by rw [HX.out]; exact Nat.le_refl _) _).alloc (by simpa using HB5.out.size) _⟩
  · have ha' : (a == 0) = false := by simpa using ha
    go_wp2_with fail
    have HB6 := Lib.hid (HB5.out.alloc HB5.out.size (.cells #[.int .u8 a, .int .u8 b, .int .u8 c] 30))
    have HR6 := Lib.hid ((((Below.refl W5.heap.size W5).alloc (Nat.le_refl _) (.cells #[.int .u8 a, .int .u8 b, .int .u8 c] 30)).block X hx).trans HR5.out)
    have HY6 : Hid ((W5.alloc (.cells #[.int .u8 a, .int .u8 b, .int .u8 c] 30)).heap[W5.heap.size]? = some (.cells #[.int .u8 a, .int .u8 b, .int .u8 c] 30 (0, 0))) := Lib.hid (alloc_block _ _)
    clear o0 o1 o2 z0 z1 z2 hx HB5 HR5
    generalize W5.alloc (.cells #[.int .u8 a, .int .u8 b, .int .u8 c] 30) = W6 at *
    generalize W5.heap.size = Y at *
    refine (HTX.out _ (HV.out.later HB6.out)).mono ?_
    rintro e W7 ⟨rfl, h7⟩
    have HB7 := Lib.hid (HB6.out.trans (h7.below.mono HB6.out.size))
    have HR7 := Lib.hid ((h7.below.block X (block_lt HR6.out)).trans HR6.out)
    have HY7 := Lib.hid ((h7.below.block Y (block_lt HY6.out)).trans HY6.out)
    clear h7 HB6 HR6 HY6
    have o0 : W7.cell? ⟨X, 0, none⟩ = some (.int .u8 0) := block_cell HR7.out rfl
    have o1 : W7.cell? ⟨X, 1, none⟩ = some (.int .u8 0) := block_cell HR7.out rfl
    have o2 : W7.cell? ⟨X, 2, none⟩ = some (.int .u8 0) := block_cell HR7.out rfl
    have z0 : W7.frozen? ⟨X, 0, none⟩ = false := block_free 0 HR7.out
    have z1 : W7.frozen? ⟨X, 1, none⟩ = false := block_free 1 HR7.out
    have z2 : W7.frozen? ⟨X, 2, none⟩ = false := block_free 2 HR7.out
    by_cases htl : t = l
    · subst htl
      have hpk : pk = some (a, b, c) := by rw [HQ'.out, if_neg (by simpa using ha)]
      subst hpk
      have y0 : W7.cell? ⟨Y, 0, none⟩ = some (.int .u8 a) := block_cell HY7.out rfl
      have y1 : W7.cell? ⟨Y, 1, none⟩ = some (.int .u8 b) := block_cell HY7.out rfl
      have y2 : W7.cell? ⟨Y, 2, none⟩ = some (.int .u8 c) := block_cell HY7.out rfl
      go_wp2_with fail
      have HF := key_put (.int .u8 a) (.int .u8 b) (.int .u8 c) HR7.out
      (try simp only [Exit.inBlock, Exit.then]); refine bodyPost_ret (results_key rfl _ _ X a b c _ rfl rfl (block_cell HF rfl) (block_cell HF rfl) (block_cell HF rfl)) rfl ?_
      exact ⟨rfl, ((HB7.out.setCell (p := ⟨X, 0, none⟩) (by rw [HX.out]; exact Nat.le_refl _) _).setCell (p := ⟨X, 1, none⟩) (by rw [HX.out]; exact Nat.le_refl _) _).setCell (p := ⟨X, 2, none⟩) (by rw [HX.out]; exact Nat.le_refl _) _⟩
    · have hpk : pk = none := by rw [HQ'.out, if_pos (.inr htl)]
      subst hpk
      have hne : (t == l) = false := bytes_ne _ _ htl
      have hne' : (t.toList == l.toList) = false := by rw [← beq_toListBytes]; exact hne
      clear htl
      go_wp2_with fail
      have HF := key_put (.int .u8 0) (.int .u8 0) (.int .u8 0) HR7.out
      (try simp only [Exit.inBlock, Exit.then]); refine bodyPost_ret (results_key rfl _ _ X 0 0 0 _ rfl rfl (block_cell HF rfl) (block_cell HF rfl) (block_cell HF rfl)) rfl ?_
      exact ⟨rfl, ((HB7.out.setCell (p := ⟨X, 0, none⟩) (by rw [HX.out]; exact Nat.le_refl _) _).setCell (p := ⟨X, 1, none⟩) (by rw [HX.out]; exact Nat.le_refl _) _).setCell (p := ⟨X, 2, none⟩) (by rw [HX.out]; exact Nat.le_refl _) _⟩
end Go.Proofs.YtlmfmccbefgjgaaDoor
