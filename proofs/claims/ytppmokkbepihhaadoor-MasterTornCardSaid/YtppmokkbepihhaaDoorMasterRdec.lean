/- The document's Decode of a master. (Written by tools/src/mkmasterrdec.py.) -/
import Derived.Test.YtppmokkbepihhaaDoorMasterDec
import Derived.StillTailTactics
import Derived.Test.YtppmokkbepihhaaDoorHand
namespace Go.Proofs.YtppmokkbepihhaaDoor
open Go.RowKit Go.ChangeShapes Go.WideShapes
set_option linter.unusedVariables false
set_option linter.unusedSimpArgs false
set_option maxRecDepth 10000

theorem numR_cut8 (L : List Nat) (h : 8 ≤ L.length) : numR (0, L) 8 = ((0, L.drop 8), un (L.take 8)) := numR_cut L 8 (by omega) (by omega) h
theorem numR_cut4 (L : List Nat) (h : 4 ≤ L.length) : numR (0, L) 4 = ((0, L.drop 4), un (L.take 4)) := numR_cut L 4 (by omega) (by omega) h
theorem un_at (L : List Nat) (k : Nat) (h : k < L.length) : un ((L.drop k).take 1) = L.getD k 0 := by
  rw [List.drop_eq_getElem_cons h]
  rw [List.getD, List.getElem?_eq_getElem h]
  rfl
theorem mnum_any (p : Option Addr) (n c : Nat) (L : List Nat) (w : World) (hS : Sl w p n c L) (hc : c ≤ maxLen) (h8 : 8 ≤ n) :
    Calls Tryd.prog 27 #[.slice p n c] w fun e w' => e = .returned (.int .u64 ((un (L.take 8) : Nat) : Int)) ∧ ∃ m, w' = w.drewN m := by
  have hg := getnum_any p n c L 8 w hS hc
  rw [numR_cut8 L (by rw [hS.len]; exact h8)] at hg
  have HG := Lib.hid hg
  clear hg hS
  generalize un (L.take 8) = x at *
  go_enter Tryd.func27, Tryd.ntmps27
  go_wp2_with fail
  refine HG.out.mono ?_
  rintro e w1 ⟨q, m, d, k, rfl, hp, rfl⟩
  clear hp
  go_wp2_with fail
  go_ret
  exact ⟨rfl, k, rfl⟩
theorem mother {w : World} {B R : Nat} {o : Obj} {a' b' c' d' e' : Value} (h : w.heap[R]? = some o) (hne : R ≠ B) :
    (((((w.setCell ⟨B, 0, none⟩ a').setCell ⟨B, 1, none⟩ b').setCell ⟨B, 2, none⟩ c').setCell ⟨B, 3, none⟩ d').setCell ⟨B, 4, none⟩ e').heap[R]? = some o := by
  rw [Below.heap_setCell _ _ _ _ hne, Below.heap_setCell _ _ _ _ hne, Below.heap_setCell _ _ _ _ hne, Below.heap_setCell _ _ _ _ hne, Below.heap_setCell _ _ _ _ hne]
  exact h
set_option maxHeartbeats 2000000 in
theorem mrdec_short (p : Option Addr) (n c : Nat) (L : List Nat) (w : World) (hS : Sl w p n c L) (hc : c ≤ maxLen) (hn : n ≤ 1000000) (h45 : n < 45) :
    Calls Tryd.prog 11 #[.slice p n c] w (GivesMM w (dV L) (dE L)) := by
  have hl := hS.len
  have hz := mtwo w #[.int .u64 0, .int .u8 0, .int .i64 0, .int .i64 0, .int .i64 0] #[.int .u64 0, .int .u8 0, .int .i64 0, .int .i64 0, .int .i64 0] 24 24
  have hr := alloc_block w (.cells #[.int .u64 0, .int .u8 0, .int .i64 0, .int .i64 0, .int .i64 0] 24)
  have hr2 := block_later hr ((Below.refl _ _).alloc (Nat.le_refl _) (.cells #[.int .u64 0, .int .u8 0, .int .i64 0, .int .i64 0, .int .i64 0] 24))
  obtain ⟨hb2, hx2⟩ := hz
  obtain ⟨W2, hW2⟩ : ∃ W2, W2 = (w.alloc (.cells #[.int .u64 0, .int .u8 0, .int .i64 0, .int .i64 0, .int .i64 0] 24)).alloc (.cells #[.int .u64 0, .int .u8 0, .int .i64 0, .int .i64 0, .int .i64 0] 24) := ⟨_, rfl⟩
  rw [← hW2] at hb2 hx2 hr2
  have HW2 := Lib.hid hW2
  clear hW2 hr
  have he := dE_short (L := L) (by omega)
  rw [he, dV_bad (by rw [he]; omega)]
  clear he hl hS
  obtain ⟨X, hX⟩ : ∃ X, w.heap.size = X := ⟨_, rfl⟩
  rw [hX] at hx2 hr2
  have HX := Lib.hid hX
  have HB2 := Lib.hid hb2
  have HX2 := Lib.hid hx2
  have HR2 := Lib.hid hr2
  clear hb2 hx2 hr2
  go_enter Tryd.func11, Tryd.ntmps11
  go_upto_region 2 with (fail)
  rw [← HW2.out]
  obtain ⟨x0, x1, x2, x3, x4⟩ := mcells HX2.out
  clear hX
  obtain ⟨r0, r1, r2, r3, r4⟩ := mcells HR2.out
  obtain ⟨q0, q1, q2, q3, q4⟩ := mfree HR2.out
  have HF := Lib.hid (mstored (a' := .int .u64 0) (b' := .int .u8 0) (c' := .int .i64 0) (d' := .int .i64 0) (e' := .int .i64 0) HR2.out)
  have HG := Lib.hid (mkept HB2.out (Nat.le_of_eq HX.out) (.int .u64 0) (.int .u8 0) (.int .i64 0) (.int .i64 0) (.int .i64 0))
  go_wp2_with fail
  refine bodyPost_ret (v := .tuple #[.agg #[.int .u64 0, .int .u8 0, .int .i64 0, .int .i64 0, .int .i64 0], .int .i64 6]) ?_ rfl ⟨rfl, HG.out⟩
  exact results_mm rfl _ _ X _ rfl _ rfl rfl HF.out
set_option maxHeartbeats 2000000 in
theorem mrdec_torn (b off n c : Nat) (L : List Nat) (w : World) (hS : Sl w (some ⟨b, off, none⟩) n c L) (hc : c ≤ maxLen) (hn : n ≤ 1000000) (h45 : ¬ n < 45) (ht : ¬ un (L.take 8) = dH L) :
    Calls Tryd.prog 11 #[.slice (some ⟨b, off, none⟩) n c] w (GivesMM w (dV L) (dE L)) := by
  have hl := hS.len
  have hz := mtwo w #[.int .u64 0, .int .u8 0, .int .i64 0, .int .i64 0, .int .i64 0] #[.int .u64 0, .int .u8 0, .int .i64 0, .int .i64 0, .int .i64 0] 24 24
  have hr := alloc_block w (.cells #[.int .u64 0, .int .u8 0, .int .i64 0, .int .i64 0, .int .i64 0] 24)
  have hr2 := block_later hr ((Below.refl _ _).alloc (Nat.le_refl _) (.cells #[.int .u64 0, .int .u8 0, .int .i64 0, .int .i64 0, .int .i64 0] 24))
  obtain ⟨hb2, hx2⟩ := hz
  obtain ⟨W2, hW2⟩ : ∃ W2, W2 = (w.alloc (.cells #[.int .u64 0, .int .u8 0, .int .i64 0, .int .i64 0, .int .i64 0] 24)).alloc (.cells #[.int .u64 0, .int .u8 0, .int .i64 0, .int .i64 0, .int .i64 0] 24) := ⟨_, rfl⟩
  rw [← hW2] at hb2 hx2 hr2
  have HW2 := Lib.hid hW2
  clear hW2 hr
  have hlt := hS.lt
  have hcap := hS.cap
  have hc63 : c ≤ 9223372036854775807 := hc
  have hsl : ∀ (w' : World) (k : Nat), Below w.heap.size w w' → k ≤ n → Sl w' (some ⟨b, off + k, none⟩) (n - k) (c - k) (L.drop k) := fun w' k hb hk => by
    have := sl_mid (hS.later hb) k (n - k) (by omega)
    rwa [List.take_of_length_le (by rw [List.length_drop]; omega)] at this
  have hnum : ∀ (w' : World) (k : Nat), Below w.heap.size w w' → k + 8 ≤ n → Calls Tryd.prog 27 #[.slice (some ⟨b, off + k, none⟩) (n - k) (c - k)] w' fun e w'' => e = .returned (.int .u64 ((un ((L.drop k).take 8) : Nat) : Int)) ∧ ∃ m, w'' = w'.drewN m :=
    fun w' k hb hk => mnum_any _ _ _ _ w' (hsl w' k hb (by omega)) (by omega) (by omega)
  have hget : ∀ (w' : World), Below w.heap.size w w' → Calls Tryd.prog 28 #[.slice (some ⟨b, off + 33, none⟩) (n - 33) (c - 33), .int .i64 4] w' (GotNum w' (some ⟨b, off + 33, none⟩) ((0, (L.drop 33).drop 4), un ((L.drop 33).take 4))) := fun w' hb => by
    have := getnum_any (some ⟨b, off + 33, none⟩) (n - 33) (c - 33) (L.drop 33) 4 w' (hsl w' 33 hb (by omega)) (by omega)
    rwa [numR_cut4 _ (by rw [List.length_drop]; omega)] at this
  have hsum : ∀ (w' : World), Below w.heap.size w w' → Calls Tryd.prog 23 #[.slice (some ⟨b, off, none⟩) 33 c] w' fun e w'' => e = .returned (.int .u32 ((sumL (L.take 33) : Nat) : Int)) ∧ w' = w'' :=
    fun w' hb => rsum_sl _ _ _ (L.take 33) w' ((hS.later hb).take 33 (by omega)) (by omega)
  have hcell : ∀ (w' : World), Below w.heap.size w w' → w'.cell? ⟨b, off + 8, none⟩ = some (.int .u8 ((L.getD 8 0 : Nat) : Int)) := fun w' hb => by
    obtain ⟨b', off', hp, hh⟩ := (hS.later hb).cell (by omega)
    cases hp
    exact hh 8 (by omega)
  have h0 : ∀ (w' : World), Below w.heap.size w w' → Calls Tryd.prog 27 #[.slice (some ⟨b, off, none⟩) n c] w' fun e w'' => e = .returned (.int .u64 ((un (L.take 8) : Nat) : Int)) ∧ ∃ m, w'' = w'.drewN m := fun w' hb => by
    have := hnum w' 0 hb (by omega)
    simpa only [Nat.add_zero, Nat.sub_zero, List.drop_zero] using this
  have h37 := fun w' hb => hnum w' 37 hb (by omega)
  have h9 := fun w' hb => hnum w' 9 hb (by omega)
  have h17 := fun w' hb => hnum w' 17 hb (by omega)
  have h25 := fun w' hb => hnum w' 25 hb (by omega)
  have hs32 : un ((L.drop 33).take 4) < 4294967296 := un_take_lt hlt 33 4
  have ht37 : (un (L.take 8) = un ((L.drop 37).take 8)) = (un (L.take 8) = dH L) := rfl
  have ht33 : (sumL (L.take 33) = un ((L.drop 33).take 4)) = (sumL (L.take 33) = dS L) := rfl
  rw [← ht37] at ht
  have he := dE_torn (L := L) (by omega) ht
  rw [he, dV_bad (by rw [he]; omega)]
  have hne : (((un (L.take 8) : Nat) : Int) != ((un ((L.drop 37).take 8) : Nat) : Int)) = true := by simpa using fun h => ht (by exact_mod_cast h)
  clear he ht
  have HH37 := Lib.hid h37
  have HH0 := Lib.hid h0
  have HH9 := Lib.hid h9
  have HH17 := Lib.hid h17
  have HH25 := Lib.hid h25
  have HGET := Lib.hid hget
  have HSUM := Lib.hid hsum
  have HCELL := Lib.hid hcell
  have HS32 := Lib.hid hs32
  clear hnum hsl hS hlt hl h0 h37 h9 h17 h25 hget hsum hcell ht37 ht33 hs32
  generalize un (L.take 8) = g at *
  generalize un ((L.drop 37).take 8) = z at *
  generalize un ((L.drop 33).take 4) = sm at *
  generalize sumL (L.take 33) = su at *
  obtain ⟨X, hX⟩ : ∃ X, w.heap.size = X := ⟨_, rfl⟩
  rw [hX] at hx2 hr2
  have HX := Lib.hid hX
  have HB2 := Lib.hid hb2
  have HX2 := Lib.hid hx2
  have HR2 := Lib.hid hr2
  clear hb2 hx2 hr2
  have e1 : (37 : Int) ≤ (n : Int) := by omega
  have e2 : (37 : Int) ≤ (c : Int) := by omega
  have e3 : ¬ c = 37 := by omega
  have e4 : ¬ c = 33 := by omega
  have e5 : (33 : Int) ≤ (n : Int) := by omega
  have e6 : (33 : Int) ≤ (c : Int) := by omega
  have e7 : (8 : Int) < (n : Int) := by omega
  have f1 : (9 : Int) ≤ (n : Int) ∧ (9 : Int) ≤ (c : Int) ∧ ¬ c = 9 := by omega
  have f2 : (17 : Int) ≤ (n : Int) ∧ (17 : Int) ≤ (c : Int) ∧ ¬ c = 17 := by omega
  have f3 : (25 : Int) ≤ (n : Int) ∧ (25 : Int) ≤ (c : Int) ∧ ¬ c = 25 := by omega
  obtain ⟨f1, f1b, f1c⟩ := f1
  obtain ⟨f2, f2b, f2c⟩ := f2
  obtain ⟨f3, f3b, f3c⟩ := f3
  have h0 := fun q => HH0.out (W2.drewN q) (below_drewN HB2.out q)
  have h37 := fun q => HH37.out (W2.drewN q) (below_drewN HB2.out q)
  go_enter Tryd.func11, Tryd.ntmps11
  go_upto_region 4 with (fail)
  rw [← HW2.out]
  clear hX
  go_quiet (first | (go_at_call 27; with_reducible exact Calls.quiet_of (h0 _)) | (go_at_call 27; with_reducible exact Calls.quiet_of (h37 _)))
  have HR3 := Lib.hid (show (W2.drewN nq).heap[X]? = _ from HR2.out)
  have HX3 := Lib.hid (show (W2.drewN nq).heap[X + 1]? = _ from HX2.out)
  have HB3 := Lib.hid (below_drewN HB2.out nq)
  clear h0 h37 HR2 HX2 HB2 HW2
  generalize W2.drewN nq = W3 at *
  obtain ⟨x0, x1, x2, x3, x4⟩ := mcells HX3.out
  obtain ⟨r0, r1, r2, r3, r4⟩ := mcells HR3.out
  obtain ⟨q0, q1, q2, q3, q4⟩ := mfree HR3.out
  have HF := Lib.hid (mstored (a' := .int .u64 0) (b' := .int .u8 0) (c' := .int .i64 0) (d' := .int .i64 0) (e' := .int .i64 0) HR3.out)
  have HG := Lib.hid (mkept HB3.out (Nat.le_of_eq HX.out) (.int .u64 0) (.int .u8 0) (.int .i64 0) (.int .i64 0) (.int .i64 0))
  go_wp2_with fail
  refine bodyPost_ret (v := .tuple #[.agg #[.int .u64 0, .int .u8 0, .int .i64 0, .int .i64 0, .int .i64 0], .int .i64 8]) ?_ rfl ⟨rfl, HG.out⟩
  exact results_mm rfl _ _ X _ rfl _ rfl rfl HF.out
set_option maxHeartbeats 2000000 in
theorem mrdec_sum (b off n c : Nat) (L : List Nat) (w : World) (hS : Sl w (some ⟨b, off, none⟩) n c L) (hc : c ≤ maxLen) (hn : n ≤ 1000000) (h45 : ¬ n < 45) (ht : un (L.take 8) = dH L) (hs : ¬ sumL (L.take 33) = dS L) :
    Calls Tryd.prog 11 #[.slice (some ⟨b, off, none⟩) n c] w (GivesMM w (dV L) (dE L)) := by
  have hl := hS.len
  have hz := mtwo w #[.int .u64 0, .int .u8 0, .int .i64 0, .int .i64 0, .int .i64 0] #[.int .u64 0, .int .u8 0, .int .i64 0, .int .i64 0, .int .i64 0] 24 24
  have hr := alloc_block w (.cells #[.int .u64 0, .int .u8 0, .int .i64 0, .int .i64 0, .int .i64 0] 24)
  have hr2 := block_later hr ((Below.refl _ _).alloc (Nat.le_refl _) (.cells #[.int .u64 0, .int .u8 0, .int .i64 0, .int .i64 0, .int .i64 0] 24))
  obtain ⟨hb2, hx2⟩ := hz
  obtain ⟨W2, hW2⟩ : ∃ W2, W2 = (w.alloc (.cells #[.int .u64 0, .int .u8 0, .int .i64 0, .int .i64 0, .int .i64 0] 24)).alloc (.cells #[.int .u64 0, .int .u8 0, .int .i64 0, .int .i64 0, .int .i64 0] 24) := ⟨_, rfl⟩
  rw [← hW2] at hb2 hx2 hr2
  have HW2 := Lib.hid hW2
  clear hW2 hr
  have hlt := hS.lt
  have hcap := hS.cap
  have hc63 : c ≤ 9223372036854775807 := hc
  have hsl : ∀ (w' : World) (k : Nat), Below w.heap.size w w' → k ≤ n → Sl w' (some ⟨b, off + k, none⟩) (n - k) (c - k) (L.drop k) := fun w' k hb hk => by
    have := sl_mid (hS.later hb) k (n - k) (by omega)
    rwa [List.take_of_length_le (by rw [List.length_drop]; omega)] at this
  have hnum : ∀ (w' : World) (k : Nat), Below w.heap.size w w' → k + 8 ≤ n → Calls Tryd.prog 27 #[.slice (some ⟨b, off + k, none⟩) (n - k) (c - k)] w' fun e w'' => e = .returned (.int .u64 ((un ((L.drop k).take 8) : Nat) : Int)) ∧ ∃ m, w'' = w'.drewN m :=
    fun w' k hb hk => mnum_any _ _ _ _ w' (hsl w' k hb (by omega)) (by omega) (by omega)
  have hget : ∀ (w' : World), Below w.heap.size w w' → Calls Tryd.prog 28 #[.slice (some ⟨b, off + 33, none⟩) (n - 33) (c - 33), .int .i64 4] w' (GotNum w' (some ⟨b, off + 33, none⟩) ((0, (L.drop 33).drop 4), un ((L.drop 33).take 4))) := fun w' hb => by
    have := getnum_any (some ⟨b, off + 33, none⟩) (n - 33) (c - 33) (L.drop 33) 4 w' (hsl w' 33 hb (by omega)) (by omega)
    rwa [numR_cut4 _ (by rw [List.length_drop]; omega)] at this
  have hsum : ∀ (w' : World), Below w.heap.size w w' → Calls Tryd.prog 23 #[.slice (some ⟨b, off, none⟩) 33 c] w' fun e w'' => e = .returned (.int .u32 ((sumL (L.take 33) : Nat) : Int)) ∧ w' = w'' :=
    fun w' hb => rsum_sl _ _ _ (L.take 33) w' ((hS.later hb).take 33 (by omega)) (by omega)
  have hcell : ∀ (w' : World), Below w.heap.size w w' → w'.cell? ⟨b, off + 8, none⟩ = some (.int .u8 ((L.getD 8 0 : Nat) : Int)) := fun w' hb => by
    obtain ⟨b', off', hp, hh⟩ := (hS.later hb).cell (by omega)
    cases hp
    exact hh 8 (by omega)
  have h0 : ∀ (w' : World), Below w.heap.size w w' → Calls Tryd.prog 27 #[.slice (some ⟨b, off, none⟩) n c] w' fun e w'' => e = .returned (.int .u64 ((un (L.take 8) : Nat) : Int)) ∧ ∃ m, w'' = w'.drewN m := fun w' hb => by
    have := hnum w' 0 hb (by omega)
    simpa only [Nat.add_zero, Nat.sub_zero, List.drop_zero] using this
  have h37 := fun w' hb => hnum w' 37 hb (by omega)
  have h9 := fun w' hb => hnum w' 9 hb (by omega)
  have h17 := fun w' hb => hnum w' 17 hb (by omega)
  have h25 := fun w' hb => hnum w' 25 hb (by omega)
  have hs32 : un ((L.drop 33).take 4) < 4294967296 := un_take_lt hlt 33 4
  have ht37 : (un (L.take 8) = un ((L.drop 37).take 8)) = (un (L.take 8) = dH L) := rfl
  have ht33 : (sumL (L.take 33) = un ((L.drop 33).take 4)) = (sumL (L.take 33) = dS L) := rfl
  rw [← ht37] at ht
  have he := dE_sum (L := L) (by omega) ht hs
  rw [he, dV_bad (by rw [he]; omega)]
  have hne : (((un (L.take 8) : Nat) : Int) != ((un ((L.drop 37).take 8) : Nat) : Int)) = false := by rw [ht]; simp
  have hsu : (((un ((L.drop 33).take 4) : Nat) : Int) != ((sumL (L.take 33) : Nat) : Int)) = true := by simpa using fun h => hs (by rw [← ht33]; exact_mod_cast h.symm)
  clear he ht hs
  have HH37 := Lib.hid h37
  have HH0 := Lib.hid h0
  have HH9 := Lib.hid h9
  have HH17 := Lib.hid h17
  have HH25 := Lib.hid h25
  have HGET := Lib.hid hget
  have HSUM := Lib.hid hsum
  have HCELL := Lib.hid hcell
  have HS32 := Lib.hid hs32
  clear hnum hsl hS hlt hl h0 h37 h9 h17 h25 hget hsum hcell ht37 ht33 hs32
  generalize un (L.take 8) = g at *
  generalize un ((L.drop 37).take 8) = z at *
  generalize un ((L.drop 33).take 4) = sm at *
  generalize sumL (L.take 33) = su at *
  obtain ⟨X, hX⟩ : ∃ X, w.heap.size = X := ⟨_, rfl⟩
  rw [hX] at hx2 hr2
  have HX := Lib.hid hX
  have HB2 := Lib.hid hb2
  have HX2 := Lib.hid hx2
  have HR2 := Lib.hid hr2
  clear hb2 hx2 hr2
  have e1 : (37 : Int) ≤ (n : Int) := by omega
  have e2 : (37 : Int) ≤ (c : Int) := by omega
  have e3 : ¬ c = 37 := by omega
  have e4 : ¬ c = 33 := by omega
  have e5 : (33 : Int) ≤ (n : Int) := by omega
  have e6 : (33 : Int) ≤ (c : Int) := by omega
  have e7 : (8 : Int) < (n : Int) := by omega
  have f1 : (9 : Int) ≤ (n : Int) ∧ (9 : Int) ≤ (c : Int) ∧ ¬ c = 9 := by omega
  have f2 : (17 : Int) ≤ (n : Int) ∧ (17 : Int) ≤ (c : Int) ∧ ¬ c = 17 := by omega
  have f3 : (25 : Int) ≤ (n : Int) ∧ (25 : Int) ≤ (c : Int) ∧ ¬ c = 25 := by omega
  obtain ⟨f1, f1b, f1c⟩ := f1
  obtain ⟨f2, f2b, f2c⟩ := f2
  obtain ⟨f3, f3b, f3c⟩ := f3
  have h0 := fun q => HH0.out (W2.drewN q) (below_drewN HB2.out q)
  have h37 := fun q => HH37.out (W2.drewN q) (below_drewN HB2.out q)
  go_enter Tryd.func11, Tryd.ntmps11
  go_upto_region 4 with (fail)
  rw [← HW2.out]
  clear hX
  go_quiet (first | (go_at_call 27; with_reducible exact Calls.quiet_of (h0 _)) | (go_at_call 27; with_reducible exact Calls.quiet_of (h37 _)))
  have HR3 := Lib.hid (show (W2.drewN nq).heap[X]? = _ from HR2.out)
  have HX3 := Lib.hid (show (W2.drewN nq).heap[X + 1]? = _ from HX2.out)
  have HB3 := Lib.hid (below_drewN HB2.out nq)
  clear h0 h37 HR2 HX2 HB2 HW2
  generalize W2.drewN nq = W3 at *
  have hw1 : (sm : Int) % 4294967296 = (sm : Int) := by have := HS32.out; omega
  have hw2 : IntKind.u32.wrap (sm : Int) = (sm : Int) := by have := HS32.out; simp [IntKind.wrap, IntKind.bits, IntKind.signed]; omega
  go_wp2_with fail
  refine (HGET.out _ HB3.out).mono ?_
  rintro e w4 ⟨q4, m4, d4, k4, rfl, hp, rfl⟩
  clear hp
  have HR4 := Lib.hid (show (W3.drewN k4).heap[X]? = _ from HR3.out)
  have HX4 := Lib.hid (show (W3.drewN k4).heap[X + 1]? = _ from HX3.out)
  have HB4 := Lib.hid (below_drewN HB3.out k4)
  clear HR3 HX3 HB3 HGET
  generalize W3.drewN k4 = W4 at *
  go_wp2_with fail
  refine (HSUM.out _ HB4.out).mono ?_
  rintro e w5 ⟨rfl, rfl⟩
  clear hw1 hw2 HSUM
  obtain ⟨x0, x1, x2, x3, x4⟩ := mcells HX4.out
  obtain ⟨r0, r1, r2, r3, r4⟩ := mcells HR4.out
  obtain ⟨q0, q1, q2, q3, q4⟩ := mfree HR4.out
  have HF := Lib.hid (mstored (a' := .int .u64 0) (b' := .int .u8 0) (c' := .int .i64 0) (d' := .int .i64 0) (e' := .int .i64 0) HR4.out)
  have HG := Lib.hid (mkept HB4.out (Nat.le_of_eq HX.out) (.int .u64 0) (.int .u8 0) (.int .i64 0) (.int .i64 0) (.int .i64 0))
  go_wp2_with fail
  refine bodyPost_ret (v := .tuple #[.agg #[.int .u64 0, .int .u8 0, .int .i64 0, .int .i64 0, .int .i64 0], .int .i64 9]) ?_ rfl ⟨rfl, HG.out⟩
  exact results_mm rfl _ _ X _ rfl _ rfl rfl HF.out
set_option maxHeartbeats 2000000 in
theorem mrdec_form (b off n c : Nat) (L : List Nat) (w : World) (hS : Sl w (some ⟨b, off, none⟩) n c L) (hc : c ≤ maxLen) (hn : n ≤ 1000000) (h45 : ¬ n < 45) (ht : un (L.take 8) = dH L) (hs : sumL (L.take 33) = dS L) (hg : goodM (dM L) = false) :
    Calls Tryd.prog 11 #[.slice (some ⟨b, off, none⟩) n c] w (GivesMM w (dV L) (dE L)) := by
  have hl := hS.len
  have hz := mtwo w #[.int .u64 0, .int .u8 0, .int .i64 0, .int .i64 0, .int .i64 0] #[.int .u64 0, .int .u8 0, .int .i64 0, .int .i64 0, .int .i64 0] 24 24
  have hr := alloc_block w (.cells #[.int .u64 0, .int .u8 0, .int .i64 0, .int .i64 0, .int .i64 0] 24)
  have hr2 := block_later hr ((Below.refl _ _).alloc (Nat.le_refl _) (.cells #[.int .u64 0, .int .u8 0, .int .i64 0, .int .i64 0, .int .i64 0] 24))
  obtain ⟨hb2, hx2⟩ := hz
  obtain ⟨W2, hW2⟩ : ∃ W2, W2 = (w.alloc (.cells #[.int .u64 0, .int .u8 0, .int .i64 0, .int .i64 0, .int .i64 0] 24)).alloc (.cells #[.int .u64 0, .int .u8 0, .int .i64 0, .int .i64 0, .int .i64 0] 24) := ⟨_, rfl⟩
  rw [← hW2] at hb2 hx2 hr2
  have HW2 := Lib.hid hW2
  clear hW2 hr
  have hlt := hS.lt
  have hcap := hS.cap
  have hc63 : c ≤ 9223372036854775807 := hc
  have hsl : ∀ (w' : World) (k : Nat), Below w.heap.size w w' → k ≤ n → Sl w' (some ⟨b, off + k, none⟩) (n - k) (c - k) (L.drop k) := fun w' k hb hk => by
    have := sl_mid (hS.later hb) k (n - k) (by omega)
    rwa [List.take_of_length_le (by rw [List.length_drop]; omega)] at this
  have hnum : ∀ (w' : World) (k : Nat), Below w.heap.size w w' → k + 8 ≤ n → Calls Tryd.prog 27 #[.slice (some ⟨b, off + k, none⟩) (n - k) (c - k)] w' fun e w'' => e = .returned (.int .u64 ((un ((L.drop k).take 8) : Nat) : Int)) ∧ ∃ m, w'' = w'.drewN m :=
    fun w' k hb hk => mnum_any _ _ _ _ w' (hsl w' k hb (by omega)) (by omega) (by omega)
  have hget : ∀ (w' : World), Below w.heap.size w w' → Calls Tryd.prog 28 #[.slice (some ⟨b, off + 33, none⟩) (n - 33) (c - 33), .int .i64 4] w' (GotNum w' (some ⟨b, off + 33, none⟩) ((0, (L.drop 33).drop 4), un ((L.drop 33).take 4))) := fun w' hb => by
    have := getnum_any (some ⟨b, off + 33, none⟩) (n - 33) (c - 33) (L.drop 33) 4 w' (hsl w' 33 hb (by omega)) (by omega)
    rwa [numR_cut4 _ (by rw [List.length_drop]; omega)] at this
  have hsum : ∀ (w' : World), Below w.heap.size w w' → Calls Tryd.prog 23 #[.slice (some ⟨b, off, none⟩) 33 c] w' fun e w'' => e = .returned (.int .u32 ((sumL (L.take 33) : Nat) : Int)) ∧ w' = w'' :=
    fun w' hb => rsum_sl _ _ _ (L.take 33) w' ((hS.later hb).take 33 (by omega)) (by omega)
  have hcell : ∀ (w' : World), Below w.heap.size w w' → w'.cell? ⟨b, off + 8, none⟩ = some (.int .u8 ((L.getD 8 0 : Nat) : Int)) := fun w' hb => by
    obtain ⟨b', off', hp, hh⟩ := (hS.later hb).cell (by omega)
    cases hp
    exact hh 8 (by omega)
  have h0 : ∀ (w' : World), Below w.heap.size w w' → Calls Tryd.prog 27 #[.slice (some ⟨b, off, none⟩) n c] w' fun e w'' => e = .returned (.int .u64 ((un (L.take 8) : Nat) : Int)) ∧ ∃ m, w'' = w'.drewN m := fun w' hb => by
    have := hnum w' 0 hb (by omega)
    simpa only [Nat.add_zero, Nat.sub_zero, List.drop_zero] using this
  have h37 := fun w' hb => hnum w' 37 hb (by omega)
  have h9 := fun w' hb => hnum w' 9 hb (by omega)
  have h17 := fun w' hb => hnum w' 17 hb (by omega)
  have h25 := fun w' hb => hnum w' 25 hb (by omega)
  have hs32 : un ((L.drop 33).take 4) < 4294967296 := un_take_lt hlt 33 4
  have ht37 : (un (L.take 8) = un ((L.drop 37).take 8)) = (un (L.take 8) = dH L) := rfl
  have ht33 : (sumL (L.take 33) = un ((L.drop 33).take 4)) = (sumL (L.take 33) = dS L) := rfl
  rw [← ht37] at ht
  have he := dE_form (L := L) (by omega) ht hs hg
  rw [he, dV_bad (by rw [he]; omega)]
  have hne : (((un (L.take 8) : Nat) : Int) != ((un ((L.drop 37).take 8) : Nat) : Int)) = false := by rw [ht]; simp
  have hsu : (((un ((L.drop 33).take 4) : Nat) : Int) != ((sumL (L.take 33) : Nat) : Int)) = false := by rw [hs, ← show un ((L.drop 33).take 4) = dS L from rfl]; simp
  have hma : (dM L).a = L.getD 8 0 := un_at L 8 (by omega)
  have hgm := goodI_m (dM L)
  rw [hg, hma] at hgm
  have hpost : GivesMM w (dM L) = GivesMM w ⟨un (L.take 8), L.getD 8 0, un ((L.drop 9).take 8), un ((L.drop 17).take 8), un ((L.drop 25).take 8)⟩ := by rw [← hma]; rfl
  replace hgm : goodI ((un (L.take 8) : Nat) : Int) ((L.getD 8 0 : Nat) : Int) (sgn (un ((L.drop 9).take 8))) (sgn (un ((L.drop 17).take 8))) (sgn (un ((L.drop 25).take 8))) = false := hgm
  have hx9 : un ((L.drop 9).take 8) < 18446744073709551616 := un_take_lt hlt 9 8
  have hx17 : un ((L.drop 17).take 8) < 18446744073709551616 := un_take_lt hlt 17 8
  have hx25 : un ((L.drop 25).take 8) < 18446744073709551616 := un_take_lt hlt 25 8
  clear he ht hs hg hma hpost
  have HH37 := Lib.hid h37
  have HH0 := Lib.hid h0
  have HH9 := Lib.hid h9
  have HH17 := Lib.hid h17
  have HH25 := Lib.hid h25
  have HGET := Lib.hid hget
  have HSUM := Lib.hid hsum
  have HCELL := Lib.hid hcell
  have HS32 := Lib.hid hs32
  clear hnum hsl hS hlt hl h0 h37 h9 h17 h25 hget hsum hcell ht37 ht33 hs32
  generalize un (L.take 8) = g at *
  generalize un ((L.drop 37).take 8) = z at *
  generalize un ((L.drop 9).take 8) = x9 at *
  generalize un ((L.drop 17).take 8) = x17 at *
  generalize un ((L.drop 25).take 8) = x25 at *
  generalize L.getD 8 0 = a at *
  generalize un ((L.drop 33).take 4) = sm at *
  generalize sumL (L.take 33) = su at *
  obtain ⟨X, hX⟩ : ∃ X, w.heap.size = X := ⟨_, rfl⟩
  rw [hX] at hx2 hr2
  have HX := Lib.hid hX
  have HB2 := Lib.hid hb2
  have HX2 := Lib.hid hx2
  have HR2 := Lib.hid hr2
  clear hb2 hx2 hr2
  have e1 : (37 : Int) ≤ (n : Int) := by omega
  have e2 : (37 : Int) ≤ (c : Int) := by omega
  have e3 : ¬ c = 37 := by omega
  have e4 : ¬ c = 33 := by omega
  have e5 : (33 : Int) ≤ (n : Int) := by omega
  have e6 : (33 : Int) ≤ (c : Int) := by omega
  have e7 : (8 : Int) < (n : Int) := by omega
  have f1 : (9 : Int) ≤ (n : Int) ∧ (9 : Int) ≤ (c : Int) ∧ ¬ c = 9 := by omega
  have f2 : (17 : Int) ≤ (n : Int) ∧ (17 : Int) ≤ (c : Int) ∧ ¬ c = 17 := by omega
  have f3 : (25 : Int) ≤ (n : Int) ∧ (25 : Int) ≤ (c : Int) ∧ ¬ c = 25 := by omega
  obtain ⟨f1, f1b, f1c⟩ := f1
  obtain ⟨f2, f2b, f2c⟩ := f2
  obtain ⟨f3, f3b, f3c⟩ := f3
  have h0 := fun q => HH0.out (W2.drewN q) (below_drewN HB2.out q)
  have h37 := fun q => HH37.out (W2.drewN q) (below_drewN HB2.out q)
  go_enter Tryd.func11, Tryd.ntmps11
  go_upto_region 4 with (fail)
  rw [← HW2.out]
  clear hX
  go_quiet (first | (go_at_call 27; with_reducible exact Calls.quiet_of (h0 _)) | (go_at_call 27; with_reducible exact Calls.quiet_of (h37 _)))
  have HR3 := Lib.hid (show (W2.drewN nq).heap[X]? = _ from HR2.out)
  have HX3 := Lib.hid (show (W2.drewN nq).heap[X + 1]? = _ from HX2.out)
  have HB3 := Lib.hid (below_drewN HB2.out nq)
  clear h0 h37 HR2 HX2 HB2 HW2
  generalize W2.drewN nq = W3 at *
  have hw1 : (sm : Int) % 4294967296 = (sm : Int) := by have := HS32.out; omega
  have hw2 : IntKind.u32.wrap (sm : Int) = (sm : Int) := by have := HS32.out; simp [IntKind.wrap, IntKind.bits, IntKind.signed]; omega
  go_wp2_with fail
  refine (HGET.out _ HB3.out).mono ?_
  rintro e w4 ⟨q4, m4, d4, k4, rfl, hp, rfl⟩
  clear hp
  have HR4 := Lib.hid (show (W3.drewN k4).heap[X]? = _ from HR3.out)
  have HX4 := Lib.hid (show (W3.drewN k4).heap[X + 1]? = _ from HX3.out)
  have HB4 := Lib.hid (below_drewN HB3.out k4)
  clear HR3 HX3 HB3 HGET
  generalize W3.drewN k4 = W4 at *
  go_wp2_with fail
  refine (HSUM.out _ HB4.out).mono ?_
  rintro e w5 ⟨rfl, rfl⟩
  clear hw1 hw2 HSUM
  go_upto_region 9 with (fail)
  have hbd : Below w.heap.size w W4.drew := below_drewN HB4.out 1
  have hi9 : IntKind.i64.wrap (x9 : Int) = sgn x9 := sgn_wrap2 x9 hx9
  have hi17 : IntKind.i64.wrap (x17 : Int) = sgn x17 := sgn_wrap2 x17 hx17
  have hi25 : IntKind.i64.wrap (x25 : Int) = sgn x25 := sgn_wrap2 x25 hx25
  refine wp_region_held_drew (S := fun w' => Hid (Below w.heap.size w w')) (by kernel_rfl) (Lib.hid hbd) (fun hHeld => ?_)
  have HRV0 := Lib.hid (show W4.drew.heap[X]? = _ from HR4.out)
  have HXV0 := Lib.hid (show W4.drew.heap[X + 1]? = _ from HX4.out)
  have HBV0 := Lib.hid hbd
  clear hbd HR4 HX4 HB4
  generalize W4.drew = V0 at *
  refine wpAnyH_take (i := 0) (oi := ⟨some 35, _, _, _, _, _⟩) (v := .slice (some ⟨b, off, none⟩) n c) rfl (by kernel_rfl) (by kernel_rfl) (by kernel_rfl) (fun _ _ _ h => h) (Or.inl ⟨by rfl, fun w' hw' => ?_⟩) (by assumption) ?_
  · skip
    clear hHeld
    go_simp
  try simp only [Act.put, List.setIfInBounds_toArray, List.set_cons_zero, List.set_cons_succ]
  refine wpAnyH_take (i := 2) (oi := ⟨some 37, _, _, _, _, _⟩) (v := .slice (some ⟨b, off, none⟩) n c) rfl (by kernel_rfl) (by kernel_rfl) (by kernel_rfl) (fun _ _ _ h => h) (Or.inl ⟨by rfl, fun w' hw' => ?_⟩) (by assumption) ?_
  · skip
    clear hHeld
    go_simp
  try simp only [Act.put, List.setIfInBounds_toArray, List.set_cons_zero, List.set_cons_succ]
  refine wpAnyH_take (i := 3) (oi := ⟨some 38, _, _, _, _, _⟩) (v := .pointer (some ⟨b, off + 8, none⟩)) rfl (by kernel_rfl) (by kernel_rfl) (by kernel_rfl) (fun _ _ _ h => h) (Or.inl ⟨by rfl, fun w' hw' => ?_⟩) (by assumption) ?_
  · skip
    clear hHeld
    go_simp
  try simp only [Act.put, List.setIfInBounds_toArray, List.set_cons_zero, List.set_cons_succ]
  refine wpAnyH_take (i := 4) (oi := ⟨some 39, _, _, _, _, _⟩) (v := .int .u8 (a : Int)) rfl (by kernel_rfl) (by kernel_rfl) (by kernel_rfl) (fun _ _ _ h => h) (Or.inl ⟨by rfl, fun w' hw' => ?_⟩) (by assumption) ?_
  · have g := HCELL.out w' hw'.out
    clear hHeld
    go_simp
  try simp only [Act.put, List.setIfInBounds_toArray, List.set_cons_zero, List.set_cons_succ]
  refine wpAnyH_take (i := 5) (oi := ⟨some 40, _, _, _, _, _⟩) (v := .slice (some ⟨b, off, none⟩) n c) rfl (by kernel_rfl) (by kernel_rfl) (by kernel_rfl) (fun _ _ _ h => h) (Or.inl ⟨by rfl, fun w' hw' => ?_⟩) (by assumption) ?_
  · skip
    clear hHeld
    go_simp
  try simp only [Act.put, List.setIfInBounds_toArray, List.set_cons_zero, List.set_cons_succ]
  refine wpAnyH_take (i := 6) (oi := ⟨some 41, _, _, _, _, _⟩) (v := .slice (some ⟨b, off + 9, none⟩) (n - 9) (c - 9)) rfl (by kernel_rfl) (by kernel_rfl) (by kernel_rfl) (fun _ _ _ h => h) (Or.inl ⟨by rfl, fun w' hw' => ?_⟩) (by assumption) ?_
  · skip
    clear hHeld
    go_simp
  try simp only [Act.put, List.setIfInBounds_toArray, List.set_cons_zero, List.set_cons_succ]
  refine wpAnyH_take (i := 9) (oi := ⟨some 44, _, _, _, _, _⟩) (v := .slice (some ⟨b, off, none⟩) n c) rfl (by kernel_rfl) (by kernel_rfl) (by kernel_rfl) (fun _ _ _ h => h) (Or.inl ⟨by rfl, fun w' hw' => ?_⟩) (by assumption) ?_
  · skip
    clear hHeld
    go_simp
  try simp only [Act.put, List.setIfInBounds_toArray, List.set_cons_zero, List.set_cons_succ]
  refine wpAnyH_take (i := 10) (oi := ⟨some 45, _, _, _, _, _⟩) (v := .slice (some ⟨b, off + 17, none⟩) (n - 17) (c - 17)) rfl (by kernel_rfl) (by kernel_rfl) (by kernel_rfl) (fun _ _ _ h => h) (Or.inl ⟨by rfl, fun w' hw' => ?_⟩) (by assumption) ?_
  · skip
    clear hHeld
    go_simp
  try simp only [Act.put, List.setIfInBounds_toArray, List.set_cons_zero, List.set_cons_succ]
  refine wpAnyH_take (i := 13) (oi := ⟨some 48, _, _, _, _, _⟩) (v := .slice (some ⟨b, off, none⟩) n c) rfl (by kernel_rfl) (by kernel_rfl) (by kernel_rfl) (fun _ _ _ h => h) (Or.inl ⟨by rfl, fun w' hw' => ?_⟩) (by assumption) ?_
  · skip
    clear hHeld
    go_simp
  try simp only [Act.put, List.setIfInBounds_toArray, List.set_cons_zero, List.set_cons_succ]
  refine wpAnyH_take (i := 14) (oi := ⟨some 49, _, _, _, _, _⟩) (v := .slice (some ⟨b, off + 25, none⟩) (n - 25) (c - 25)) rfl (by kernel_rfl) (by kernel_rfl) (by kernel_rfl) (fun _ _ _ h => h) (Or.inl ⟨by rfl, fun w' hw' => ?_⟩) (by assumption) ?_
  · skip
    clear hHeld
    go_simp
  try simp only [Act.put, List.setIfInBounds_toArray, List.set_cons_zero, List.set_cons_succ]
  refine wpAnyH_ready (rs := [1, 18]) (by kernel_rfl) (by simp) (AllReadyH.cons rfl (fun K hK => ?_) (AllReadyH.cons rfl (fun K hK => ?_) AllReadyH.nil))
  · go_simp
    go_wp2_with fail
    refine (HH0.out _ HBV0.out).mono ?_
    rintro e wV1 ⟨rfl, mV1, rfl⟩
    go_wp2_with fail
    refine hK.out _ _ (Lib.hid (below_drewN HBV0.out mV1)) (fun hHeld2 => ?_)
    clear hK K hHeld
    have hHeld := hHeld2
    clear hHeld2
    have HRV1 := Lib.hid (show (V0.drewN mV1).heap[X]? = _ from HRV0.out)
    have HXV1 := Lib.hid (show (V0.drewN mV1).heap[X + 1]? = _ from HXV0.out)
    have HBV1 := Lib.hid (below_drewN HBV0.out mV1)
    clear HRV0 HXV0 HBV0
    generalize V0.drewN mV1 = V1 at *
    try simp only [Act.put, List.setIfInBounds_toArray, List.set_cons_zero, List.set_cons_succ]
    refine wpAnyH_ready (rs := [7, 18]) (by kernel_rfl) (by simp) (AllReadyH.cons rfl (fun K hK => ?_) (AllReadyH.cons rfl (fun K hK => ?_) AllReadyH.nil))
    · go_simp
      go_wp2_with fail
      refine (HH9.out _ HBV1.out).mono ?_
      rintro e wV2 ⟨rfl, mV2, rfl⟩
      go_wp2_with fail
      refine hK.out _ _ (Lib.hid (below_drewN HBV1.out mV2)) (fun hHeld2 => ?_)
      clear hK K hHeld
      have hHeld := hHeld2
      clear hHeld2
      have HRV2 := Lib.hid (show (V1.drewN mV2).heap[X]? = _ from HRV1.out)
      have HXV2 := Lib.hid (show (V1.drewN mV2).heap[X + 1]? = _ from HXV1.out)
      have HBV2 := Lib.hid (below_drewN HBV1.out mV2)
      clear HRV1 HXV1 HBV1
      generalize V1.drewN mV2 = V2 at *
      try simp only [Act.put, List.setIfInBounds_toArray, List.set_cons_zero, List.set_cons_succ]
      refine wpAnyH_take (i := 8) (oi := ⟨some 43, _, _, _, _, _⟩) (v := .int .i64 (sgn x9)) rfl (by kernel_rfl) (by kernel_rfl) (by kernel_rfl) (fun _ _ _ h => h) (Or.inl ⟨by rfl, fun w' hw' => ?_⟩) (by assumption) ?_
      · skip
        clear hHeld
        go_simp
      try simp only [Act.put, List.setIfInBounds_toArray, List.set_cons_zero, List.set_cons_succ]
      refine wpAnyH_ready (rs := [11, 18]) (by kernel_rfl) (by simp) (AllReadyH.cons rfl (fun K hK => ?_) (AllReadyH.cons rfl (fun K hK => ?_) AllReadyH.nil))
      · go_simp
        go_wp2_with fail
        refine (HH17.out _ HBV2.out).mono ?_
        rintro e wV3 ⟨rfl, mV3, rfl⟩
        go_wp2_with fail
        refine hK.out _ _ (Lib.hid (below_drewN HBV2.out mV3)) (fun hHeld2 => ?_)
        clear hK K hHeld
        have hHeld := hHeld2
        clear hHeld2
        have HRV3 := Lib.hid (show (V2.drewN mV3).heap[X]? = _ from HRV2.out)
        have HXV3 := Lib.hid (show (V2.drewN mV3).heap[X + 1]? = _ from HXV2.out)
        have HBV3 := Lib.hid (below_drewN HBV2.out mV3)
        clear HRV2 HXV2 HBV2
        generalize V2.drewN mV3 = V3 at *
        try simp only [Act.put, List.setIfInBounds_toArray, List.set_cons_zero, List.set_cons_succ]
        refine wpAnyH_take (i := 12) (oi := ⟨some 47, _, _, _, _, _⟩) (v := .int .i64 (sgn x17)) rfl (by kernel_rfl) (by kernel_rfl) (by kernel_rfl) (fun _ _ _ h => h) (Or.inl ⟨by rfl, fun w' hw' => ?_⟩) (by assumption) ?_
        · skip
          clear hHeld
          go_simp
        try simp only [Act.put, List.setIfInBounds_toArray, List.set_cons_zero, List.set_cons_succ]
        refine wpAnyH_ready (rs := [15, 18]) (by kernel_rfl) (by simp) (AllReadyH.cons rfl (fun K hK => ?_) (AllReadyH.cons rfl (fun K hK => ?_) AllReadyH.nil))
        · go_simp
          go_wp2_with fail
          refine (HH25.out _ HBV3.out).mono ?_
          rintro e wV4 ⟨rfl, mV4, rfl⟩
          go_wp2_with fail
          refine hK.out _ _ (Lib.hid (below_drewN HBV3.out mV4)) (fun hHeld2 => ?_)
          clear hK K hHeld
          have hHeld := hHeld2
          clear hHeld2
          have HRV4 := Lib.hid (show (V3.drewN mV4).heap[X]? = _ from HRV3.out)
          have HXV4 := Lib.hid (show (V3.drewN mV4).heap[X + 1]? = _ from HXV3.out)
          have HBV4 := Lib.hid (below_drewN HBV3.out mV4)
          clear HRV3 HXV3 HBV3
          generalize V3.drewN mV4 = V4 at *
          try simp only [Act.put, List.setIfInBounds_toArray, List.set_cons_zero, List.set_cons_succ]
          refine wpAnyH_take (i := 16) (oi := ⟨some 51, _, _, _, _, _⟩) (v := .int .i64 (sgn x25)) rfl (by kernel_rfl) (by kernel_rfl) (by kernel_rfl) (fun _ _ _ h => h) (Or.inl ⟨by rfl, fun w' hw' => ?_⟩) (by assumption) ?_
          · skip
            clear hHeld
            go_simp
          try simp only [Act.put, List.setIfInBounds_toArray, List.set_cons_zero, List.set_cons_succ]
          refine wpAnyH_take (i := 17) (oi := ⟨some 52, _, _, _, _, _⟩) (v := .agg #[.int .u64 (g : Int), .int .u8 (a : Int), .int .i64 (sgn x9), .int .i64 (sgn x17), .int .i64 (sgn x25)]) rfl (by kernel_rfl) (by kernel_rfl) (by kernel_rfl) (fun _ _ _ h => h) (Or.inl ⟨by rfl, fun w' hw' => ?_⟩) (by assumption) ?_
          · skip
            clear hHeld
            go_simp
          try simp only [Act.put, List.setIfInBounds_toArray, List.set_cons_zero, List.set_cons_succ]
          refine wpAnyH_ready (rs := [18]) (by kernel_rfl) (by simp) (AllReadyH.cons rfl (fun K hK => ?_) AllReadyH.nil)
          go_simp
          have hbn := ((Below.refl V4.heap.size V4).alloc (Nat.le_refl _) (.cells #[.int .u64 0, .int .u8 0, .int .i64 0, .int .i64 0, .int .i64 0] 24))
          refine hK.out _ _ (Lib.hid (HBV4.out.trans (hbn.mono HBV4.out.size))) (fun hHeld2 => ?_)
          clear hK K hHeld
          have hHeld := hHeld2
          clear hHeld2
          have HYV5 := Lib.hid (alloc_block V4 (.cells #[.int .u64 0, .int .u8 0, .int .i64 0, .int .i64 0, .int .i64 0] 24))
          have HRV5 := Lib.hid (block_later HRV4.out hbn)
          have HXV5 := Lib.hid (block_later HXV4.out hbn)
          have HBV5 := Lib.hid (HBV4.out.trans (hbn.mono HBV4.out.size))
          have HZ : Hid (X < V4.heap.size ∧ X + 1 < V4.heap.size ∧ w.heap.size ≤ V4.heap.size) := Lib.hid ⟨block_lt HRV4.out, block_lt HXV4.out, HBV4.out.size⟩
          clear hbn HRV4 HXV4 HBV4
          generalize V4.alloc (.cells #[.int .u64 0, .int .u8 0, .int .i64 0, .int .i64 0, .int .i64 0] 24) = V5 at *
          generalize V4.heap.size = Z at *
          try simp only [Act.put, List.setIfInBounds_toArray, List.set_cons_zero, List.set_cons_succ]
          refine wpAnyH_ready (rs := [19]) (by kernel_rfl) (by simp) (AllReadyH.cons rfl (fun K hK => ?_) AllReadyH.nil)
          obtain ⟨y0, y1, y2, y3, y4⟩ := mcells HYV5.out
          obtain ⟨z0, z1, z2, z3, z4⟩ := mfree HYV5.out
          have HYV6 := Lib.hid (mstored (a' := .int .u64 (g : Int)) (b' := .int .u8 (a : Int)) (c' := .int .i64 (sgn x9)) (d' := .int .i64 (sgn x17)) (e' := .int .i64 (sgn x25)) HYV5.out)
          have HBV6 := Lib.hid (mkept HBV5.out HZ.out.2.2 (.int .u64 (g : Int)) (.int .u8 (a : Int)) (.int .i64 (sgn x9)) (.int .i64 (sgn x17)) (.int .i64 (sgn x25)))
          have HRV6 := Lib.hid (mother (a' := .int .u64 (g : Int)) (b' := .int .u8 (a : Int)) (c' := .int .i64 (sgn x9)) (d' := .int .i64 (sgn x17)) (e' := .int .i64 (sgn x25)) HRV5.out (by have := HZ.out; omega : X ≠ Z))
          have HXV6 := Lib.hid (mother (a' := .int .u64 (g : Int)) (b' := .int .u8 (a : Int)) (c' := .int .i64 (sgn x9)) (d' := .int .i64 (sgn x17)) (e' := .int .i64 (sgn x25)) HXV5.out (by have := HZ.out; omega : X + 1 ≠ Z))
          go_simp
          refine hK.out _ _ HBV6 (fun hHeld2 => ?_)
          clear hK K hHeld hHeld2
          clear y0 y1 y2 y3 y4 z0 z1 z2 z3 z4 HYV5 HRV5 HXV5 HBV5
          generalize (((((V5.setCell ⟨Z, 0, none⟩ (.int .u64 (g : Int))).setCell ⟨Z, 1, none⟩ (.int .u8 (a : Int))).setCell ⟨Z, 2, none⟩ (.int .i64 (sgn x9))).setCell ⟨Z, 3, none⟩ (.int .i64 (sgn x17))).setCell ⟨Z, 4, none⟩ (.int .i64 (sgn x25))) = V6 at *
          refine wpAnyH_done (by kernel_rfl) ?_ _
          obtain ⟨y0, y1, y2, y3, y4⟩ := mcells HYV6.out
          go_wp2_with fail
          refine (mrgood_any (g : Int) (a : Int) (sgn x9) (sgn x17) (sgn x25) _).mono ?_
          rw [hgm]
          rintro e w8 ⟨rfl, hb8⟩
          have HR8 := Lib.hid (block_later HRV6.out hb8)
          have HX8 := Lib.hid (block_later HXV6.out hb8)
          have HY8 := Lib.hid (block_later HYV6.out hb8)
          have HB8 := Lib.hid (HBV6.out.trans (hb8.mono HBV6.out.size))
          clear hb8 HRV6 HXV6 HYV6 HBV6 y0 y1 y2 y3 y4
          obtain ⟨y0, y1, y2, y3, y4⟩ := mcells HX8.out
          obtain ⟨r0, r1, r2, r3, r4⟩ := mcells HR8.out
          obtain ⟨q0, q1, q2, q3, q4⟩ := mfree HR8.out
          have HF := Lib.hid (mstored (a' := .int .u64 0) (b' := .int .u8 0) (c' := .int .i64 0) (d' := .int .i64 0) (e' := .int .i64 0) HR8.out)
          have HG := Lib.hid (mkept HB8.out (Nat.le_of_eq HX.out) (.int .u64 0) (.int .u8 0) (.int .i64 0) (.int .i64 0) (.int .i64 0))
          go_wp2_with fail
          refine bodyPost_ret (v := .tuple #[.agg #[.int .u64 0, .int .u8 0, .int .i64 0, .int .i64 0, .int .i64 0], .int .i64 8]) ?_ rfl ⟨rfl, HG.out⟩
          exact results_mm rfl _ _ X _ rfl _ rfl rfl HF.out
        · go_simp
          have hbn := ((Below.refl V3.heap.size V3).alloc (Nat.le_refl _) (.cells #[.int .u64 0, .int .u8 0, .int .i64 0, .int .i64 0, .int .i64 0] 24))
          refine hK.out _ _ (Lib.hid (HBV3.out.trans (hbn.mono HBV3.out.size))) (fun hHeld2 => ?_)
          clear hK K hHeld
          have hHeld := hHeld2
          clear hHeld2
          have HYV7 := Lib.hid (alloc_block V3 (.cells #[.int .u64 0, .int .u8 0, .int .i64 0, .int .i64 0, .int .i64 0] 24))
          have HRV7 := Lib.hid (block_later HRV3.out hbn)
          have HXV7 := Lib.hid (block_later HXV3.out hbn)
          have HBV7 := Lib.hid (HBV3.out.trans (hbn.mono HBV3.out.size))
          have HZ : Hid (X < V3.heap.size ∧ X + 1 < V3.heap.size ∧ w.heap.size ≤ V3.heap.size) := Lib.hid ⟨block_lt HRV3.out, block_lt HXV3.out, HBV3.out.size⟩
          clear hbn HRV3 HXV3 HBV3
          generalize V3.alloc (.cells #[.int .u64 0, .int .u8 0, .int .i64 0, .int .i64 0, .int .i64 0] 24) = V7 at *
          generalize V3.heap.size = Z at *
          try simp only [Act.put, List.setIfInBounds_toArray, List.set_cons_zero, List.set_cons_succ]
          refine wpAnyH_ready (rs := [15]) (by kernel_rfl) (by simp) (AllReadyH.cons rfl (fun K hK => ?_) AllReadyH.nil)
          go_simp
          go_wp2_with fail
          refine (HH25.out _ HBV7.out).mono ?_
          rintro e wV8 ⟨rfl, mV8, rfl⟩
          go_wp2_with fail
          refine hK.out _ _ (Lib.hid (below_drewN HBV7.out mV8)) (fun hHeld2 => ?_)
          clear hK K hHeld
          have hHeld := hHeld2
          clear hHeld2
          have HRV8 := Lib.hid (show (V7.drewN mV8).heap[X]? = _ from HRV7.out)
          have HXV8 := Lib.hid (show (V7.drewN mV8).heap[X + 1]? = _ from HXV7.out)
          have HBV8 := Lib.hid (below_drewN HBV7.out mV8)
          have HYV8 := Lib.hid (show (V7.drewN mV8).heap[Z]? = _ from HYV7.out)
          clear HRV7 HXV7 HBV7 HYV7
          generalize V7.drewN mV8 = V8 at *
          try simp only [Act.put, List.setIfInBounds_toArray, List.set_cons_zero, List.set_cons_succ]
          refine wpAnyH_take (i := 16) (oi := ⟨some 51, _, _, _, _, _⟩) (v := .int .i64 (sgn x25)) rfl (by kernel_rfl) (by kernel_rfl) (by kernel_rfl) (fun _ _ _ h => h) (Or.inl ⟨by rfl, fun w' hw' => ?_⟩) (by assumption) ?_
          · skip
            clear hHeld
            go_simp
          try simp only [Act.put, List.setIfInBounds_toArray, List.set_cons_zero, List.set_cons_succ]
          refine wpAnyH_take (i := 17) (oi := ⟨some 52, _, _, _, _, _⟩) (v := .agg #[.int .u64 (g : Int), .int .u8 (a : Int), .int .i64 (sgn x9), .int .i64 (sgn x17), .int .i64 (sgn x25)]) rfl (by kernel_rfl) (by kernel_rfl) (by kernel_rfl) (fun _ _ _ h => h) (Or.inl ⟨by rfl, fun w' hw' => ?_⟩) (by assumption) ?_
          · skip
            clear hHeld
            go_simp
          try simp only [Act.put, List.setIfInBounds_toArray, List.set_cons_zero, List.set_cons_succ]
          refine wpAnyH_ready (rs := [19]) (by kernel_rfl) (by simp) (AllReadyH.cons rfl (fun K hK => ?_) AllReadyH.nil)
          obtain ⟨y0, y1, y2, y3, y4⟩ := mcells HYV8.out
          obtain ⟨z0, z1, z2, z3, z4⟩ := mfree HYV8.out
          have HYV9 := Lib.hid (mstored (a' := .int .u64 (g : Int)) (b' := .int .u8 (a : Int)) (c' := .int .i64 (sgn x9)) (d' := .int .i64 (sgn x17)) (e' := .int .i64 (sgn x25)) HYV8.out)
          have HBV9 := Lib.hid (mkept HBV8.out HZ.out.2.2 (.int .u64 (g : Int)) (.int .u8 (a : Int)) (.int .i64 (sgn x9)) (.int .i64 (sgn x17)) (.int .i64 (sgn x25)))
          have HRV9 := Lib.hid (mother (a' := .int .u64 (g : Int)) (b' := .int .u8 (a : Int)) (c' := .int .i64 (sgn x9)) (d' := .int .i64 (sgn x17)) (e' := .int .i64 (sgn x25)) HRV8.out (by have := HZ.out; omega : X ≠ Z))
          have HXV9 := Lib.hid (mother (a' := .int .u64 (g : Int)) (b' := .int .u8 (a : Int)) (c' := .int .i64 (sgn x9)) (d' := .int .i64 (sgn x17)) (e' := .int .i64 (sgn x25)) HXV8.out (by have := HZ.out; omega : X + 1 ≠ Z))
          go_simp
          refine hK.out _ _ HBV9 (fun hHeld2 => ?_)
          clear hK K hHeld hHeld2
          clear y0 y1 y2 y3 y4 z0 z1 z2 z3 z4 HYV8 HRV8 HXV8 HBV8
          generalize (((((V8.setCell ⟨Z, 0, none⟩ (.int .u64 (g : Int))).setCell ⟨Z, 1, none⟩ (.int .u8 (a : Int))).setCell ⟨Z, 2, none⟩ (.int .i64 (sgn x9))).setCell ⟨Z, 3, none⟩ (.int .i64 (sgn x17))).setCell ⟨Z, 4, none⟩ (.int .i64 (sgn x25))) = V9 at *
          refine wpAnyH_done (by kernel_rfl) ?_ _
          obtain ⟨y0, y1, y2, y3, y4⟩ := mcells HYV9.out
          go_wp2_with fail
          refine (mrgood_any (g : Int) (a : Int) (sgn x9) (sgn x17) (sgn x25) _).mono ?_
          rw [hgm]
          rintro e w8 ⟨rfl, hb8⟩
          have HR8 := Lib.hid (block_later HRV9.out hb8)
          have HX8 := Lib.hid (block_later HXV9.out hb8)
          have HY8 := Lib.hid (block_later HYV9.out hb8)
          have HB8 := Lib.hid (HBV9.out.trans (hb8.mono HBV9.out.size))
          clear hb8 HRV9 HXV9 HYV9 HBV9 y0 y1 y2 y3 y4
          obtain ⟨y0, y1, y2, y3, y4⟩ := mcells HX8.out
          obtain ⟨r0, r1, r2, r3, r4⟩ := mcells HR8.out
          obtain ⟨q0, q1, q2, q3, q4⟩ := mfree HR8.out
          have HF := Lib.hid (mstored (a' := .int .u64 0) (b' := .int .u8 0) (c' := .int .i64 0) (d' := .int .i64 0) (e' := .int .i64 0) HR8.out)
          have HG := Lib.hid (mkept HB8.out (Nat.le_of_eq HX.out) (.int .u64 0) (.int .u8 0) (.int .i64 0) (.int .i64 0) (.int .i64 0))
          go_wp2_with fail
          refine bodyPost_ret (v := .tuple #[.agg #[.int .u64 0, .int .u8 0, .int .i64 0, .int .i64 0, .int .i64 0], .int .i64 8]) ?_ rfl ⟨rfl, HG.out⟩
          exact results_mm rfl _ _ X _ rfl _ rfl rfl HF.out
      · go_simp
        have hbn := ((Below.refl V2.heap.size V2).alloc (Nat.le_refl _) (.cells #[.int .u64 0, .int .u8 0, .int .i64 0, .int .i64 0, .int .i64 0] 24))
        refine hK.out _ _ (Lib.hid (HBV2.out.trans (hbn.mono HBV2.out.size))) (fun hHeld2 => ?_)
        clear hK K hHeld
        have hHeld := hHeld2
        clear hHeld2
        have HYV10 := Lib.hid (alloc_block V2 (.cells #[.int .u64 0, .int .u8 0, .int .i64 0, .int .i64 0, .int .i64 0] 24))
        have HRV10 := Lib.hid (block_later HRV2.out hbn)
        have HXV10 := Lib.hid (block_later HXV2.out hbn)
        have HBV10 := Lib.hid (HBV2.out.trans (hbn.mono HBV2.out.size))
        have HZ : Hid (X < V2.heap.size ∧ X + 1 < V2.heap.size ∧ w.heap.size ≤ V2.heap.size) := Lib.hid ⟨block_lt HRV2.out, block_lt HXV2.out, HBV2.out.size⟩
        clear hbn HRV2 HXV2 HBV2
        generalize V2.alloc (.cells #[.int .u64 0, .int .u8 0, .int .i64 0, .int .i64 0, .int .i64 0] 24) = V10 at *
        generalize V2.heap.size = Z at *
        try simp only [Act.put, List.setIfInBounds_toArray, List.set_cons_zero, List.set_cons_succ]
        refine wpAnyH_ready (rs := [11]) (by kernel_rfl) (by simp) (AllReadyH.cons rfl (fun K hK => ?_) AllReadyH.nil)
        go_simp
        go_wp2_with fail
        refine (HH17.out _ HBV10.out).mono ?_
        rintro e wV11 ⟨rfl, mV11, rfl⟩
        go_wp2_with fail
        refine hK.out _ _ (Lib.hid (below_drewN HBV10.out mV11)) (fun hHeld2 => ?_)
        clear hK K hHeld
        have hHeld := hHeld2
        clear hHeld2
        have HRV11 := Lib.hid (show (V10.drewN mV11).heap[X]? = _ from HRV10.out)
        have HXV11 := Lib.hid (show (V10.drewN mV11).heap[X + 1]? = _ from HXV10.out)
        have HBV11 := Lib.hid (below_drewN HBV10.out mV11)
        have HYV11 := Lib.hid (show (V10.drewN mV11).heap[Z]? = _ from HYV10.out)
        clear HRV10 HXV10 HBV10 HYV10
        generalize V10.drewN mV11 = V11 at *
        try simp only [Act.put, List.setIfInBounds_toArray, List.set_cons_zero, List.set_cons_succ]
        refine wpAnyH_take (i := 12) (oi := ⟨some 47, _, _, _, _, _⟩) (v := .int .i64 (sgn x17)) rfl (by kernel_rfl) (by kernel_rfl) (by kernel_rfl) (fun _ _ _ h => h) (Or.inl ⟨by rfl, fun w' hw' => ?_⟩) (by assumption) ?_
        · skip
          clear hHeld
          go_simp
        try simp only [Act.put, List.setIfInBounds_toArray, List.set_cons_zero, List.set_cons_succ]
        refine wpAnyH_ready (rs := [15]) (by kernel_rfl) (by simp) (AllReadyH.cons rfl (fun K hK => ?_) AllReadyH.nil)
        go_simp
        go_wp2_with fail
        refine (HH25.out _ HBV11.out).mono ?_
        rintro e wV12 ⟨rfl, mV12, rfl⟩
        go_wp2_with fail
        refine hK.out _ _ (Lib.hid (below_drewN HBV11.out mV12)) (fun hHeld2 => ?_)
        clear hK K hHeld
        have hHeld := hHeld2
        clear hHeld2
        have HRV12 := Lib.hid (show (V11.drewN mV12).heap[X]? = _ from HRV11.out)
        have HXV12 := Lib.hid (show (V11.drewN mV12).heap[X + 1]? = _ from HXV11.out)
        have HBV12 := Lib.hid (below_drewN HBV11.out mV12)
        have HYV12 := Lib.hid (show (V11.drewN mV12).heap[Z]? = _ from HYV11.out)
        clear HRV11 HXV11 HBV11 HYV11
        generalize V11.drewN mV12 = V12 at *
        try simp only [Act.put, List.setIfInBounds_toArray, List.set_cons_zero, List.set_cons_succ]
        refine wpAnyH_take (i := 16) (oi := ⟨some 51, _, _, _, _, _⟩) (v := .int .i64 (sgn x25)) rfl (by kernel_rfl) (by kernel_rfl) (by kernel_rfl) (fun _ _ _ h => h) (Or.inl ⟨by rfl, fun w' hw' => ?_⟩) (by assumption) ?_
        · skip
          clear hHeld
          go_simp
        try simp only [Act.put, List.setIfInBounds_toArray, List.set_cons_zero, List.set_cons_succ]
        refine wpAnyH_take (i := 17) (oi := ⟨some 52, _, _, _, _, _⟩) (v := .agg #[.int .u64 (g : Int), .int .u8 (a : Int), .int .i64 (sgn x9), .int .i64 (sgn x17), .int .i64 (sgn x25)]) rfl (by kernel_rfl) (by kernel_rfl) (by kernel_rfl) (fun _ _ _ h => h) (Or.inl ⟨by rfl, fun w' hw' => ?_⟩) (by assumption) ?_
        · skip
          clear hHeld
          go_simp
        try simp only [Act.put, List.setIfInBounds_toArray, List.set_cons_zero, List.set_cons_succ]
        refine wpAnyH_ready (rs := [19]) (by kernel_rfl) (by simp) (AllReadyH.cons rfl (fun K hK => ?_) AllReadyH.nil)
        obtain ⟨y0, y1, y2, y3, y4⟩ := mcells HYV12.out
        obtain ⟨z0, z1, z2, z3, z4⟩ := mfree HYV12.out
        have HYV13 := Lib.hid (mstored (a' := .int .u64 (g : Int)) (b' := .int .u8 (a : Int)) (c' := .int .i64 (sgn x9)) (d' := .int .i64 (sgn x17)) (e' := .int .i64 (sgn x25)) HYV12.out)
        have HBV13 := Lib.hid (mkept HBV12.out HZ.out.2.2 (.int .u64 (g : Int)) (.int .u8 (a : Int)) (.int .i64 (sgn x9)) (.int .i64 (sgn x17)) (.int .i64 (sgn x25)))
        have HRV13 := Lib.hid (mother (a' := .int .u64 (g : Int)) (b' := .int .u8 (a : Int)) (c' := .int .i64 (sgn x9)) (d' := .int .i64 (sgn x17)) (e' := .int .i64 (sgn x25)) HRV12.out (by have := HZ.out; omega : X ≠ Z))
        have HXV13 := Lib.hid (mother (a' := .int .u64 (g : Int)) (b' := .int .u8 (a : Int)) (c' := .int .i64 (sgn x9)) (d' := .int .i64 (sgn x17)) (e' := .int .i64 (sgn x25)) HXV12.out (by have := HZ.out; omega : X + 1 ≠ Z))
        go_simp
        refine hK.out _ _ HBV13 (fun hHeld2 => ?_)
        clear hK K hHeld hHeld2
        clear y0 y1 y2 y3 y4 z0 z1 z2 z3 z4 HYV12 HRV12 HXV12 HBV12
        generalize (((((V12.setCell ⟨Z, 0, none⟩ (.int .u64 (g : Int))).setCell ⟨Z, 1, none⟩ (.int .u8 (a : Int))).setCell ⟨Z, 2, none⟩ (.int .i64 (sgn x9))).setCell ⟨Z, 3, none⟩ (.int .i64 (sgn x17))).setCell ⟨Z, 4, none⟩ (.int .i64 (sgn x25))) = V13 at *
        refine wpAnyH_done (by kernel_rfl) ?_ _
        obtain ⟨y0, y1, y2, y3, y4⟩ := mcells HYV13.out
        go_wp2_with fail
        refine (mrgood_any (g : Int) (a : Int) (sgn x9) (sgn x17) (sgn x25) _).mono ?_
        rw [hgm]
        rintro e w8 ⟨rfl, hb8⟩
        have HR8 := Lib.hid (block_later HRV13.out hb8)
        have HX8 := Lib.hid (block_later HXV13.out hb8)
        have HY8 := Lib.hid (block_later HYV13.out hb8)
        have HB8 := Lib.hid (HBV13.out.trans (hb8.mono HBV13.out.size))
        clear hb8 HRV13 HXV13 HYV13 HBV13 y0 y1 y2 y3 y4
        obtain ⟨y0, y1, y2, y3, y4⟩ := mcells HX8.out
        obtain ⟨r0, r1, r2, r3, r4⟩ := mcells HR8.out
        obtain ⟨q0, q1, q2, q3, q4⟩ := mfree HR8.out
        have HF := Lib.hid (mstored (a' := .int .u64 0) (b' := .int .u8 0) (c' := .int .i64 0) (d' := .int .i64 0) (e' := .int .i64 0) HR8.out)
        have HG := Lib.hid (mkept HB8.out (Nat.le_of_eq HX.out) (.int .u64 0) (.int .u8 0) (.int .i64 0) (.int .i64 0) (.int .i64 0))
        go_wp2_with fail
        refine bodyPost_ret (v := .tuple #[.agg #[.int .u64 0, .int .u8 0, .int .i64 0, .int .i64 0, .int .i64 0], .int .i64 8]) ?_ rfl ⟨rfl, HG.out⟩
        exact results_mm rfl _ _ X _ rfl _ rfl rfl HF.out
    · go_simp
      have hbn := ((Below.refl V1.heap.size V1).alloc (Nat.le_refl _) (.cells #[.int .u64 0, .int .u8 0, .int .i64 0, .int .i64 0, .int .i64 0] 24))
      refine hK.out _ _ (Lib.hid (HBV1.out.trans (hbn.mono HBV1.out.size))) (fun hHeld2 => ?_)
      clear hK K hHeld
      have hHeld := hHeld2
      clear hHeld2
      have HYV14 := Lib.hid (alloc_block V1 (.cells #[.int .u64 0, .int .u8 0, .int .i64 0, .int .i64 0, .int .i64 0] 24))
      have HRV14 := Lib.hid (block_later HRV1.out hbn)
      have HXV14 := Lib.hid (block_later HXV1.out hbn)
      have HBV14 := Lib.hid (HBV1.out.trans (hbn.mono HBV1.out.size))
      have HZ : Hid (X < V1.heap.size ∧ X + 1 < V1.heap.size ∧ w.heap.size ≤ V1.heap.size) := Lib.hid ⟨block_lt HRV1.out, block_lt HXV1.out, HBV1.out.size⟩
      clear hbn HRV1 HXV1 HBV1
      generalize V1.alloc (.cells #[.int .u64 0, .int .u8 0, .int .i64 0, .int .i64 0, .int .i64 0] 24) = V14 at *
      generalize V1.heap.size = Z at *
      try simp only [Act.put, List.setIfInBounds_toArray, List.set_cons_zero, List.set_cons_succ]
      refine wpAnyH_ready (rs := [7]) (by kernel_rfl) (by simp) (AllReadyH.cons rfl (fun K hK => ?_) AllReadyH.nil)
      go_simp
      go_wp2_with fail
      refine (HH9.out _ HBV14.out).mono ?_
      rintro e wV15 ⟨rfl, mV15, rfl⟩
      go_wp2_with fail
      refine hK.out _ _ (Lib.hid (below_drewN HBV14.out mV15)) (fun hHeld2 => ?_)
      clear hK K hHeld
      have hHeld := hHeld2
      clear hHeld2
      have HRV15 := Lib.hid (show (V14.drewN mV15).heap[X]? = _ from HRV14.out)
      have HXV15 := Lib.hid (show (V14.drewN mV15).heap[X + 1]? = _ from HXV14.out)
      have HBV15 := Lib.hid (below_drewN HBV14.out mV15)
      have HYV15 := Lib.hid (show (V14.drewN mV15).heap[Z]? = _ from HYV14.out)
      clear HRV14 HXV14 HBV14 HYV14
      generalize V14.drewN mV15 = V15 at *
      try simp only [Act.put, List.setIfInBounds_toArray, List.set_cons_zero, List.set_cons_succ]
      refine wpAnyH_take (i := 8) (oi := ⟨some 43, _, _, _, _, _⟩) (v := .int .i64 (sgn x9)) rfl (by kernel_rfl) (by kernel_rfl) (by kernel_rfl) (fun _ _ _ h => h) (Or.inl ⟨by rfl, fun w' hw' => ?_⟩) (by assumption) ?_
      · skip
        clear hHeld
        go_simp
      try simp only [Act.put, List.setIfInBounds_toArray, List.set_cons_zero, List.set_cons_succ]
      refine wpAnyH_ready (rs := [11]) (by kernel_rfl) (by simp) (AllReadyH.cons rfl (fun K hK => ?_) AllReadyH.nil)
      go_simp
      go_wp2_with fail
      refine (HH17.out _ HBV15.out).mono ?_
      rintro e wV16 ⟨rfl, mV16, rfl⟩
      go_wp2_with fail
      refine hK.out _ _ (Lib.hid (below_drewN HBV15.out mV16)) (fun hHeld2 => ?_)
      clear hK K hHeld
      have hHeld := hHeld2
      clear hHeld2
      have HRV16 := Lib.hid (show (V15.drewN mV16).heap[X]? = _ from HRV15.out)
      have HXV16 := Lib.hid (show (V15.drewN mV16).heap[X + 1]? = _ from HXV15.out)
      have HBV16 := Lib.hid (below_drewN HBV15.out mV16)
      have HYV16 := Lib.hid (show (V15.drewN mV16).heap[Z]? = _ from HYV15.out)
      clear HRV15 HXV15 HBV15 HYV15
      generalize V15.drewN mV16 = V16 at *
      try simp only [Act.put, List.setIfInBounds_toArray, List.set_cons_zero, List.set_cons_succ]
      refine wpAnyH_take (i := 12) (oi := ⟨some 47, _, _, _, _, _⟩) (v := .int .i64 (sgn x17)) rfl (by kernel_rfl) (by kernel_rfl) (by kernel_rfl) (fun _ _ _ h => h) (Or.inl ⟨by rfl, fun w' hw' => ?_⟩) (by assumption) ?_
      · skip
        clear hHeld
        go_simp
      try simp only [Act.put, List.setIfInBounds_toArray, List.set_cons_zero, List.set_cons_succ]
      refine wpAnyH_ready (rs := [15]) (by kernel_rfl) (by simp) (AllReadyH.cons rfl (fun K hK => ?_) AllReadyH.nil)
      go_simp
      go_wp2_with fail
      refine (HH25.out _ HBV16.out).mono ?_
      rintro e wV17 ⟨rfl, mV17, rfl⟩
      go_wp2_with fail
      refine hK.out _ _ (Lib.hid (below_drewN HBV16.out mV17)) (fun hHeld2 => ?_)
      clear hK K hHeld
      have hHeld := hHeld2
      clear hHeld2
      have HRV17 := Lib.hid (show (V16.drewN mV17).heap[X]? = _ from HRV16.out)
      have HXV17 := Lib.hid (show (V16.drewN mV17).heap[X + 1]? = _ from HXV16.out)
      have HBV17 := Lib.hid (below_drewN HBV16.out mV17)
      have HYV17 := Lib.hid (show (V16.drewN mV17).heap[Z]? = _ from HYV16.out)
      clear HRV16 HXV16 HBV16 HYV16
      generalize V16.drewN mV17 = V17 at *
      try simp only [Act.put, List.setIfInBounds_toArray, List.set_cons_zero, List.set_cons_succ]
      refine wpAnyH_take (i := 16) (oi := ⟨some 51, _, _, _, _, _⟩) (v := .int .i64 (sgn x25)) rfl (by kernel_rfl) (by kernel_rfl) (by kernel_rfl) (fun _ _ _ h => h) (Or.inl ⟨by rfl, fun w' hw' => ?_⟩) (by assumption) ?_
      · skip
        clear hHeld
        go_simp
      try simp only [Act.put, List.setIfInBounds_toArray, List.set_cons_zero, List.set_cons_succ]
      refine wpAnyH_take (i := 17) (oi := ⟨some 52, _, _, _, _, _⟩) (v := .agg #[.int .u64 (g : Int), .int .u8 (a : Int), .int .i64 (sgn x9), .int .i64 (sgn x17), .int .i64 (sgn x25)]) rfl (by kernel_rfl) (by kernel_rfl) (by kernel_rfl) (fun _ _ _ h => h) (Or.inl ⟨by rfl, fun w' hw' => ?_⟩) (by assumption) ?_
      · skip
        clear hHeld
        go_simp
      try simp only [Act.put, List.setIfInBounds_toArray, List.set_cons_zero, List.set_cons_succ]
      refine wpAnyH_ready (rs := [19]) (by kernel_rfl) (by simp) (AllReadyH.cons rfl (fun K hK => ?_) AllReadyH.nil)
      obtain ⟨y0, y1, y2, y3, y4⟩ := mcells HYV17.out
      obtain ⟨z0, z1, z2, z3, z4⟩ := mfree HYV17.out
      have HYV18 := Lib.hid (mstored (a' := .int .u64 (g : Int)) (b' := .int .u8 (a : Int)) (c' := .int .i64 (sgn x9)) (d' := .int .i64 (sgn x17)) (e' := .int .i64 (sgn x25)) HYV17.out)
      have HBV18 := Lib.hid (mkept HBV17.out HZ.out.2.2 (.int .u64 (g : Int)) (.int .u8 (a : Int)) (.int .i64 (sgn x9)) (.int .i64 (sgn x17)) (.int .i64 (sgn x25)))
      have HRV18 := Lib.hid (mother (a' := .int .u64 (g : Int)) (b' := .int .u8 (a : Int)) (c' := .int .i64 (sgn x9)) (d' := .int .i64 (sgn x17)) (e' := .int .i64 (sgn x25)) HRV17.out (by have := HZ.out; omega : X ≠ Z))
      have HXV18 := Lib.hid (mother (a' := .int .u64 (g : Int)) (b' := .int .u8 (a : Int)) (c' := .int .i64 (sgn x9)) (d' := .int .i64 (sgn x17)) (e' := .int .i64 (sgn x25)) HXV17.out (by have := HZ.out; omega : X + 1 ≠ Z))
      go_simp
      refine hK.out _ _ HBV18 (fun hHeld2 => ?_)
      clear hK K hHeld hHeld2
      clear y0 y1 y2 y3 y4 z0 z1 z2 z3 z4 HYV17 HRV17 HXV17 HBV17
      generalize (((((V17.setCell ⟨Z, 0, none⟩ (.int .u64 (g : Int))).setCell ⟨Z, 1, none⟩ (.int .u8 (a : Int))).setCell ⟨Z, 2, none⟩ (.int .i64 (sgn x9))).setCell ⟨Z, 3, none⟩ (.int .i64 (sgn x17))).setCell ⟨Z, 4, none⟩ (.int .i64 (sgn x25))) = V18 at *
      refine wpAnyH_done (by kernel_rfl) ?_ _
      obtain ⟨y0, y1, y2, y3, y4⟩ := mcells HYV18.out
      go_wp2_with fail
      refine (mrgood_any (g : Int) (a : Int) (sgn x9) (sgn x17) (sgn x25) _).mono ?_
      rw [hgm]
      rintro e w8 ⟨rfl, hb8⟩
      have HR8 := Lib.hid (block_later HRV18.out hb8)
      have HX8 := Lib.hid (block_later HXV18.out hb8)
      have HY8 := Lib.hid (block_later HYV18.out hb8)
      have HB8 := Lib.hid (HBV18.out.trans (hb8.mono HBV18.out.size))
      clear hb8 HRV18 HXV18 HYV18 HBV18 y0 y1 y2 y3 y4
      obtain ⟨y0, y1, y2, y3, y4⟩ := mcells HX8.out
      obtain ⟨r0, r1, r2, r3, r4⟩ := mcells HR8.out
      obtain ⟨q0, q1, q2, q3, q4⟩ := mfree HR8.out
      have HF := Lib.hid (mstored (a' := .int .u64 0) (b' := .int .u8 0) (c' := .int .i64 0) (d' := .int .i64 0) (e' := .int .i64 0) HR8.out)
      have HG := Lib.hid (mkept HB8.out (Nat.le_of_eq HX.out) (.int .u64 0) (.int .u8 0) (.int .i64 0) (.int .i64 0) (.int .i64 0))
      go_wp2_with fail
      refine bodyPost_ret (v := .tuple #[.agg #[.int .u64 0, .int .u8 0, .int .i64 0, .int .i64 0, .int .i64 0], .int .i64 8]) ?_ rfl ⟨rfl, HG.out⟩
      exact results_mm rfl _ _ X _ rfl _ rfl rfl HF.out
  · go_simp
    have hbn := ((Below.refl V0.heap.size V0).alloc (Nat.le_refl _) (.cells #[.int .u64 0, .int .u8 0, .int .i64 0, .int .i64 0, .int .i64 0] 24))
    refine hK.out _ _ (Lib.hid (HBV0.out.trans (hbn.mono HBV0.out.size))) (fun hHeld2 => ?_)
    clear hK K hHeld
    have hHeld := hHeld2
    clear hHeld2
    have HYV19 := Lib.hid (alloc_block V0 (.cells #[.int .u64 0, .int .u8 0, .int .i64 0, .int .i64 0, .int .i64 0] 24))
    have HRV19 := Lib.hid (block_later HRV0.out hbn)
    have HXV19 := Lib.hid (block_later HXV0.out hbn)
    have HBV19 := Lib.hid (HBV0.out.trans (hbn.mono HBV0.out.size))
    have HZ : Hid (X < V0.heap.size ∧ X + 1 < V0.heap.size ∧ w.heap.size ≤ V0.heap.size) := Lib.hid ⟨block_lt HRV0.out, block_lt HXV0.out, HBV0.out.size⟩
    clear hbn HRV0 HXV0 HBV0
    generalize V0.alloc (.cells #[.int .u64 0, .int .u8 0, .int .i64 0, .int .i64 0, .int .i64 0] 24) = V19 at *
    generalize V0.heap.size = Z at *
    try simp only [Act.put, List.setIfInBounds_toArray, List.set_cons_zero, List.set_cons_succ]
    refine wpAnyH_ready (rs := [1]) (by kernel_rfl) (by simp) (AllReadyH.cons rfl (fun K hK => ?_) AllReadyH.nil)
    go_simp
    go_wp2_with fail
    refine (HH0.out _ HBV19.out).mono ?_
    rintro e wV20 ⟨rfl, mV20, rfl⟩
    go_wp2_with fail
    refine hK.out _ _ (Lib.hid (below_drewN HBV19.out mV20)) (fun hHeld2 => ?_)
    clear hK K hHeld
    have hHeld := hHeld2
    clear hHeld2
    have HRV20 := Lib.hid (show (V19.drewN mV20).heap[X]? = _ from HRV19.out)
    have HXV20 := Lib.hid (show (V19.drewN mV20).heap[X + 1]? = _ from HXV19.out)
    have HBV20 := Lib.hid (below_drewN HBV19.out mV20)
    have HYV20 := Lib.hid (show (V19.drewN mV20).heap[Z]? = _ from HYV19.out)
    clear HRV19 HXV19 HBV19 HYV19
    generalize V19.drewN mV20 = V20 at *
    try simp only [Act.put, List.setIfInBounds_toArray, List.set_cons_zero, List.set_cons_succ]
    refine wpAnyH_ready (rs := [7]) (by kernel_rfl) (by simp) (AllReadyH.cons rfl (fun K hK => ?_) AllReadyH.nil)
    go_simp
    go_wp2_with fail
    refine (HH9.out _ HBV20.out).mono ?_
    rintro e wV21 ⟨rfl, mV21, rfl⟩
    go_wp2_with fail
    refine hK.out _ _ (Lib.hid (below_drewN HBV20.out mV21)) (fun hHeld2 => ?_)
    clear hK K hHeld
    have hHeld := hHeld2
    clear hHeld2
    have HRV21 := Lib.hid (show (V20.drewN mV21).heap[X]? = _ from HRV20.out)
    have HXV21 := Lib.hid (show (V20.drewN mV21).heap[X + 1]? = _ from HXV20.out)
    have HBV21 := Lib.hid (below_drewN HBV20.out mV21)
    have HYV21 := Lib.hid (show (V20.drewN mV21).heap[Z]? = _ from HYV20.out)
    clear HRV20 HXV20 HBV20 HYV20
    generalize V20.drewN mV21 = V21 at *
    try simp only [Act.put, List.setIfInBounds_toArray, List.set_cons_zero, List.set_cons_succ]
    refine wpAnyH_take (i := 8) (oi := ⟨some 43, _, _, _, _, _⟩) (v := .int .i64 (sgn x9)) rfl (by kernel_rfl) (by kernel_rfl) (by kernel_rfl) (fun _ _ _ h => h) (Or.inl ⟨by rfl, fun w' hw' => ?_⟩) (by assumption) ?_
    · skip
      clear hHeld
      go_simp
    try simp only [Act.put, List.setIfInBounds_toArray, List.set_cons_zero, List.set_cons_succ]
    refine wpAnyH_ready (rs := [11]) (by kernel_rfl) (by simp) (AllReadyH.cons rfl (fun K hK => ?_) AllReadyH.nil)
    go_simp
    go_wp2_with fail
    refine (HH17.out _ HBV21.out).mono ?_
    rintro e wV22 ⟨rfl, mV22, rfl⟩
    go_wp2_with fail
    refine hK.out _ _ (Lib.hid (below_drewN HBV21.out mV22)) (fun hHeld2 => ?_)
    clear hK K hHeld
    have hHeld := hHeld2
    clear hHeld2
    have HRV22 := Lib.hid (show (V21.drewN mV22).heap[X]? = _ from HRV21.out)
    have HXV22 := Lib.hid (show (V21.drewN mV22).heap[X + 1]? = _ from HXV21.out)
    have HBV22 := Lib.hid (below_drewN HBV21.out mV22)
    have HYV22 := Lib.hid (show (V21.drewN mV22).heap[Z]? = _ from HYV21.out)
    clear HRV21 HXV21 HBV21 HYV21
    generalize V21.drewN mV22 = V22 at *
    try simp only [Act.put, List.setIfInBounds_toArray, List.set_cons_zero, List.set_cons_succ]
    refine wpAnyH_take (i := 12) (oi := ⟨some 47, _, _, _, _, _⟩) (v := .int .i64 (sgn x17)) rfl (by kernel_rfl) (by kernel_rfl) (by kernel_rfl) (fun _ _ _ h => h) (Or.inl ⟨by rfl, fun w' hw' => ?_⟩) (by assumption) ?_
    · skip
      clear hHeld
      go_simp
    try simp only [Act.put, List.setIfInBounds_toArray, List.set_cons_zero, List.set_cons_succ]
    refine wpAnyH_ready (rs := [15]) (by kernel_rfl) (by simp) (AllReadyH.cons rfl (fun K hK => ?_) AllReadyH.nil)
    go_simp
    go_wp2_with fail
    refine (HH25.out _ HBV22.out).mono ?_
    rintro e wV23 ⟨rfl, mV23, rfl⟩
    go_wp2_with fail
    refine hK.out _ _ (Lib.hid (below_drewN HBV22.out mV23)) (fun hHeld2 => ?_)
    clear hK K hHeld
    have hHeld := hHeld2
    clear hHeld2
    have HRV23 := Lib.hid (show (V22.drewN mV23).heap[X]? = _ from HRV22.out)
    have HXV23 := Lib.hid (show (V22.drewN mV23).heap[X + 1]? = _ from HXV22.out)
    have HBV23 := Lib.hid (below_drewN HBV22.out mV23)
    have HYV23 := Lib.hid (show (V22.drewN mV23).heap[Z]? = _ from HYV22.out)
    clear HRV22 HXV22 HBV22 HYV22
    generalize V22.drewN mV23 = V23 at *
    try simp only [Act.put, List.setIfInBounds_toArray, List.set_cons_zero, List.set_cons_succ]
    refine wpAnyH_take (i := 16) (oi := ⟨some 51, _, _, _, _, _⟩) (v := .int .i64 (sgn x25)) rfl (by kernel_rfl) (by kernel_rfl) (by kernel_rfl) (fun _ _ _ h => h) (Or.inl ⟨by rfl, fun w' hw' => ?_⟩) (by assumption) ?_
    · skip
      clear hHeld
      go_simp
    try simp only [Act.put, List.setIfInBounds_toArray, List.set_cons_zero, List.set_cons_succ]
    refine wpAnyH_take (i := 17) (oi := ⟨some 52, _, _, _, _, _⟩) (v := .agg #[.int .u64 (g : Int), .int .u8 (a : Int), .int .i64 (sgn x9), .int .i64 (sgn x17), .int .i64 (sgn x25)]) rfl (by kernel_rfl) (by kernel_rfl) (by kernel_rfl) (fun _ _ _ h => h) (Or.inl ⟨by rfl, fun w' hw' => ?_⟩) (by assumption) ?_
    · skip
      clear hHeld
      go_simp
    try simp only [Act.put, List.setIfInBounds_toArray, List.set_cons_zero, List.set_cons_succ]
    refine wpAnyH_ready (rs := [19]) (by kernel_rfl) (by simp) (AllReadyH.cons rfl (fun K hK => ?_) AllReadyH.nil)
    obtain ⟨y0, y1, y2, y3, y4⟩ := mcells HYV23.out
    obtain ⟨z0, z1, z2, z3, z4⟩ := mfree HYV23.out
    have HYV24 := Lib.hid (mstored (a' := .int .u64 (g : Int)) (b' := .int .u8 (a : Int)) (c' := .int .i64 (sgn x9)) (d' := .int .i64 (sgn x17)) (e' := .int .i64 (sgn x25)) HYV23.out)
    have HBV24 := Lib.hid (mkept HBV23.out HZ.out.2.2 (.int .u64 (g : Int)) (.int .u8 (a : Int)) (.int .i64 (sgn x9)) (.int .i64 (sgn x17)) (.int .i64 (sgn x25)))
    have HRV24 := Lib.hid (mother (a' := .int .u64 (g : Int)) (b' := .int .u8 (a : Int)) (c' := .int .i64 (sgn x9)) (d' := .int .i64 (sgn x17)) (e' := .int .i64 (sgn x25)) HRV23.out (by have := HZ.out; omega : X ≠ Z))
    have HXV24 := Lib.hid (mother (a' := .int .u64 (g : Int)) (b' := .int .u8 (a : Int)) (c' := .int .i64 (sgn x9)) (d' := .int .i64 (sgn x17)) (e' := .int .i64 (sgn x25)) HXV23.out (by have := HZ.out; omega : X + 1 ≠ Z))
    go_simp
    refine hK.out _ _ HBV24 (fun hHeld2 => ?_)
    clear hK K hHeld hHeld2
    clear y0 y1 y2 y3 y4 z0 z1 z2 z3 z4 HYV23 HRV23 HXV23 HBV23
    generalize (((((V23.setCell ⟨Z, 0, none⟩ (.int .u64 (g : Int))).setCell ⟨Z, 1, none⟩ (.int .u8 (a : Int))).setCell ⟨Z, 2, none⟩ (.int .i64 (sgn x9))).setCell ⟨Z, 3, none⟩ (.int .i64 (sgn x17))).setCell ⟨Z, 4, none⟩ (.int .i64 (sgn x25))) = V24 at *
    refine wpAnyH_done (by kernel_rfl) ?_ _
    obtain ⟨y0, y1, y2, y3, y4⟩ := mcells HYV24.out
    go_wp2_with fail
    refine (mrgood_any (g : Int) (a : Int) (sgn x9) (sgn x17) (sgn x25) _).mono ?_
    rw [hgm]
    rintro e w8 ⟨rfl, hb8⟩
    have HR8 := Lib.hid (block_later HRV24.out hb8)
    have HX8 := Lib.hid (block_later HXV24.out hb8)
    have HY8 := Lib.hid (block_later HYV24.out hb8)
    have HB8 := Lib.hid (HBV24.out.trans (hb8.mono HBV24.out.size))
    clear hb8 HRV24 HXV24 HYV24 HBV24 y0 y1 y2 y3 y4
    obtain ⟨y0, y1, y2, y3, y4⟩ := mcells HX8.out
    obtain ⟨r0, r1, r2, r3, r4⟩ := mcells HR8.out
    obtain ⟨q0, q1, q2, q3, q4⟩ := mfree HR8.out
    have HF := Lib.hid (mstored (a' := .int .u64 0) (b' := .int .u8 0) (c' := .int .i64 0) (d' := .int .i64 0) (e' := .int .i64 0) HR8.out)
    have HG := Lib.hid (mkept HB8.out (Nat.le_of_eq HX.out) (.int .u64 0) (.int .u8 0) (.int .i64 0) (.int .i64 0) (.int .i64 0))
    go_wp2_with fail
    refine bodyPost_ret (v := .tuple #[.agg #[.int .u64 0, .int .u8 0, .int .i64 0, .int .i64 0, .int .i64 0], .int .i64 8]) ?_ rfl ⟨rfl, HG.out⟩
    exact results_mm rfl _ _ X _ rfl _ rfl rfl HF.out
set_option maxHeartbeats 2000000 in
theorem mrdec_ok (b off n c : Nat) (L : List Nat) (w : World) (hS : Sl w (some ⟨b, off, none⟩) n c L) (hc : c ≤ maxLen) (hn : n ≤ 1000000) (h45 : ¬ n < 45) (ht : un (L.take 8) = dH L) (hs : sumL (L.take 33) = dS L) (hg : goodM (dM L) = true) :
    Calls Tryd.prog 11 #[.slice (some ⟨b, off, none⟩) n c] w (GivesMM w (dV L) (dE L)) := by
  have hl := hS.len
  have hz := mtwo w #[.int .u64 0, .int .u8 0, .int .i64 0, .int .i64 0, .int .i64 0] #[.int .u64 0, .int .u8 0, .int .i64 0, .int .i64 0, .int .i64 0] 24 24
  have hr := alloc_block w (.cells #[.int .u64 0, .int .u8 0, .int .i64 0, .int .i64 0, .int .i64 0] 24)
  have hr2 := block_later hr ((Below.refl _ _).alloc (Nat.le_refl _) (.cells #[.int .u64 0, .int .u8 0, .int .i64 0, .int .i64 0, .int .i64 0] 24))
  obtain ⟨hb2, hx2⟩ := hz
  obtain ⟨W2, hW2⟩ : ∃ W2, W2 = (w.alloc (.cells #[.int .u64 0, .int .u8 0, .int .i64 0, .int .i64 0, .int .i64 0] 24)).alloc (.cells #[.int .u64 0, .int .u8 0, .int .i64 0, .int .i64 0, .int .i64 0] 24) := ⟨_, rfl⟩
  rw [← hW2] at hb2 hx2 hr2
  have HW2 := Lib.hid hW2
  clear hW2 hr
  have hlt := hS.lt
  have hcap := hS.cap
  have hc63 : c ≤ 9223372036854775807 := hc
  have hsl : ∀ (w' : World) (k : Nat), Below w.heap.size w w' → k ≤ n → Sl w' (some ⟨b, off + k, none⟩) (n - k) (c - k) (L.drop k) := fun w' k hb hk => by
    have := sl_mid (hS.later hb) k (n - k) (by omega)
    rwa [List.take_of_length_le (by rw [List.length_drop]; omega)] at this
  have hnum : ∀ (w' : World) (k : Nat), Below w.heap.size w w' → k + 8 ≤ n → Calls Tryd.prog 27 #[.slice (some ⟨b, off + k, none⟩) (n - k) (c - k)] w' fun e w'' => e = .returned (.int .u64 ((un ((L.drop k).take 8) : Nat) : Int)) ∧ ∃ m, w'' = w'.drewN m :=
    fun w' k hb hk => mnum_any _ _ _ _ w' (hsl w' k hb (by omega)) (by omega) (by omega)
  have hget : ∀ (w' : World), Below w.heap.size w w' → Calls Tryd.prog 28 #[.slice (some ⟨b, off + 33, none⟩) (n - 33) (c - 33), .int .i64 4] w' (GotNum w' (some ⟨b, off + 33, none⟩) ((0, (L.drop 33).drop 4), un ((L.drop 33).take 4))) := fun w' hb => by
    have := getnum_any (some ⟨b, off + 33, none⟩) (n - 33) (c - 33) (L.drop 33) 4 w' (hsl w' 33 hb (by omega)) (by omega)
    rwa [numR_cut4 _ (by rw [List.length_drop]; omega)] at this
  have hsum : ∀ (w' : World), Below w.heap.size w w' → Calls Tryd.prog 23 #[.slice (some ⟨b, off, none⟩) 33 c] w' fun e w'' => e = .returned (.int .u32 ((sumL (L.take 33) : Nat) : Int)) ∧ w' = w'' :=
    fun w' hb => rsum_sl _ _ _ (L.take 33) w' ((hS.later hb).take 33 (by omega)) (by omega)
  have hcell : ∀ (w' : World), Below w.heap.size w w' → w'.cell? ⟨b, off + 8, none⟩ = some (.int .u8 ((L.getD 8 0 : Nat) : Int)) := fun w' hb => by
    obtain ⟨b', off', hp, hh⟩ := (hS.later hb).cell (by omega)
    cases hp
    exact hh 8 (by omega)
  have h0 : ∀ (w' : World), Below w.heap.size w w' → Calls Tryd.prog 27 #[.slice (some ⟨b, off, none⟩) n c] w' fun e w'' => e = .returned (.int .u64 ((un (L.take 8) : Nat) : Int)) ∧ ∃ m, w'' = w'.drewN m := fun w' hb => by
    have := hnum w' 0 hb (by omega)
    simpa only [Nat.add_zero, Nat.sub_zero, List.drop_zero] using this
  have h37 := fun w' hb => hnum w' 37 hb (by omega)
  have h9 := fun w' hb => hnum w' 9 hb (by omega)
  have h17 := fun w' hb => hnum w' 17 hb (by omega)
  have h25 := fun w' hb => hnum w' 25 hb (by omega)
  have hs32 : un ((L.drop 33).take 4) < 4294967296 := un_take_lt hlt 33 4
  have ht37 : (un (L.take 8) = un ((L.drop 37).take 8)) = (un (L.take 8) = dH L) := rfl
  have ht33 : (sumL (L.take 33) = un ((L.drop 33).take 4)) = (sumL (L.take 33) = dS L) := rfl
  rw [← ht37] at ht
  have he := dE_ok (L := L) (by omega) ht hs hg
  rw [dV_ok he, he]
  have hne : (((un (L.take 8) : Nat) : Int) != ((un ((L.drop 37).take 8) : Nat) : Int)) = false := by rw [ht]; simp
  have hsu : (((un ((L.drop 33).take 4) : Nat) : Int) != ((sumL (L.take 33) : Nat) : Int)) = false := by rw [hs, ← show un ((L.drop 33).take 4) = dS L from rfl]; simp
  have hma : (dM L).a = L.getD 8 0 := un_at L 8 (by omega)
  have hgm := goodI_m (dM L)
  rw [hg, hma] at hgm
  have hpost : GivesMM w (dM L) = GivesMM w ⟨un (L.take 8), L.getD 8 0, un ((L.drop 9).take 8), un ((L.drop 17).take 8), un ((L.drop 25).take 8)⟩ := by rw [← hma]; rfl
  replace hgm : goodI ((un (L.take 8) : Nat) : Int) ((L.getD 8 0 : Nat) : Int) (sgn (un ((L.drop 9).take 8))) (sgn (un ((L.drop 17).take 8))) (sgn (un ((L.drop 25).take 8))) = true := hgm
  have hx9 : un ((L.drop 9).take 8) < 18446744073709551616 := un_take_lt hlt 9 8
  have hx17 : un ((L.drop 17).take 8) < 18446744073709551616 := un_take_lt hlt 17 8
  have hx25 : un ((L.drop 25).take 8) < 18446744073709551616 := un_take_lt hlt 25 8
  rw [hpost]
  clear he ht hs hg hma hpost
  have HH37 := Lib.hid h37
  have HH0 := Lib.hid h0
  have HH9 := Lib.hid h9
  have HH17 := Lib.hid h17
  have HH25 := Lib.hid h25
  have HGET := Lib.hid hget
  have HSUM := Lib.hid hsum
  have HCELL := Lib.hid hcell
  have HS32 := Lib.hid hs32
  clear hnum hsl hS hlt hl h0 h37 h9 h17 h25 hget hsum hcell ht37 ht33 hs32
  generalize un (L.take 8) = g at *
  generalize un ((L.drop 37).take 8) = z at *
  generalize un ((L.drop 9).take 8) = x9 at *
  generalize un ((L.drop 17).take 8) = x17 at *
  generalize un ((L.drop 25).take 8) = x25 at *
  generalize L.getD 8 0 = a at *
  generalize un ((L.drop 33).take 4) = sm at *
  generalize sumL (L.take 33) = su at *
  obtain ⟨X, hX⟩ : ∃ X, w.heap.size = X := ⟨_, rfl⟩
  rw [hX] at hx2 hr2
  have HX := Lib.hid hX
  have HB2 := Lib.hid hb2
  have HX2 := Lib.hid hx2
  have HR2 := Lib.hid hr2
  clear hb2 hx2 hr2
  have e1 : (37 : Int) ≤ (n : Int) := by omega
  have e2 : (37 : Int) ≤ (c : Int) := by omega
  have e3 : ¬ c = 37 := by omega
  have e4 : ¬ c = 33 := by omega
  have e5 : (33 : Int) ≤ (n : Int) := by omega
  have e6 : (33 : Int) ≤ (c : Int) := by omega
  have e7 : (8 : Int) < (n : Int) := by omega
  have f1 : (9 : Int) ≤ (n : Int) ∧ (9 : Int) ≤ (c : Int) ∧ ¬ c = 9 := by omega
  have f2 : (17 : Int) ≤ (n : Int) ∧ (17 : Int) ≤ (c : Int) ∧ ¬ c = 17 := by omega
  have f3 : (25 : Int) ≤ (n : Int) ∧ (25 : Int) ≤ (c : Int) ∧ ¬ c = 25 := by omega
  obtain ⟨f1, f1b, f1c⟩ := f1
  obtain ⟨f2, f2b, f2c⟩ := f2
  obtain ⟨f3, f3b, f3c⟩ := f3
  have h0 := fun q => HH0.out (W2.drewN q) (below_drewN HB2.out q)
  have h37 := fun q => HH37.out (W2.drewN q) (below_drewN HB2.out q)
  go_enter Tryd.func11, Tryd.ntmps11
  go_upto_region 4 with (fail)
  rw [← HW2.out]
  clear hX
  go_quiet (first | (go_at_call 27; with_reducible exact Calls.quiet_of (h0 _)) | (go_at_call 27; with_reducible exact Calls.quiet_of (h37 _)))
  have HR3 := Lib.hid (show (W2.drewN nq).heap[X]? = _ from HR2.out)
  have HX3 := Lib.hid (show (W2.drewN nq).heap[X + 1]? = _ from HX2.out)
  have HB3 := Lib.hid (below_drewN HB2.out nq)
  clear h0 h37 HR2 HX2 HB2 HW2
  generalize W2.drewN nq = W3 at *
  have hw1 : (sm : Int) % 4294967296 = (sm : Int) := by have := HS32.out; omega
  have hw2 : IntKind.u32.wrap (sm : Int) = (sm : Int) := by have := HS32.out; simp [IntKind.wrap, IntKind.bits, IntKind.signed]; omega
  go_wp2_with fail
  refine (HGET.out _ HB3.out).mono ?_
  rintro e w4 ⟨q4, m4, d4, k4, rfl, hp, rfl⟩
  clear hp
  have HR4 := Lib.hid (show (W3.drewN k4).heap[X]? = _ from HR3.out)
  have HX4 := Lib.hid (show (W3.drewN k4).heap[X + 1]? = _ from HX3.out)
  have HB4 := Lib.hid (below_drewN HB3.out k4)
  clear HR3 HX3 HB3 HGET
  generalize W3.drewN k4 = W4 at *
  go_wp2_with fail
  refine (HSUM.out _ HB4.out).mono ?_
  rintro e w5 ⟨rfl, rfl⟩
  clear hw1 hw2 HSUM
  go_upto_region 9 with (fail)
  have hbd : Below w.heap.size w W4.drew := below_drewN HB4.out 1
  have hi9 : IntKind.i64.wrap (x9 : Int) = sgn x9 := sgn_wrap2 x9 hx9
  have hi17 : IntKind.i64.wrap (x17 : Int) = sgn x17 := sgn_wrap2 x17 hx17
  have hi25 : IntKind.i64.wrap (x25 : Int) = sgn x25 := sgn_wrap2 x25 hx25
  refine wp_region_held_drew (S := fun w' => Hid (Below w.heap.size w w')) (by kernel_rfl) (Lib.hid hbd) (fun hHeld => ?_)
  have HRV0 := Lib.hid (show W4.drew.heap[X]? = _ from HR4.out)
  have HXV0 := Lib.hid (show W4.drew.heap[X + 1]? = _ from HX4.out)
  have HBV0 := Lib.hid hbd
  clear hbd HR4 HX4 HB4
  generalize W4.drew = V0 at *
  refine wpAnyH_take (i := 0) (oi := ⟨some 35, _, _, _, _, _⟩) (v := .slice (some ⟨b, off, none⟩) n c) rfl (by kernel_rfl) (by kernel_rfl) (by kernel_rfl) (fun _ _ _ h => h) (Or.inl ⟨by rfl, fun w' hw' => ?_⟩) (by assumption) ?_
  · skip
    clear hHeld
    go_simp
  try simp only [Act.put, List.setIfInBounds_toArray, List.set_cons_zero, List.set_cons_succ]
  refine wpAnyH_take (i := 2) (oi := ⟨some 37, _, _, _, _, _⟩) (v := .slice (some ⟨b, off, none⟩) n c) rfl (by kernel_rfl) (by kernel_rfl) (by kernel_rfl) (fun _ _ _ h => h) (Or.inl ⟨by rfl, fun w' hw' => ?_⟩) (by assumption) ?_
  · skip
    clear hHeld
    go_simp
  try simp only [Act.put, List.setIfInBounds_toArray, List.set_cons_zero, List.set_cons_succ]
  refine wpAnyH_take (i := 3) (oi := ⟨some 38, _, _, _, _, _⟩) (v := .pointer (some ⟨b, off + 8, none⟩)) rfl (by kernel_rfl) (by kernel_rfl) (by kernel_rfl) (fun _ _ _ h => h) (Or.inl ⟨by rfl, fun w' hw' => ?_⟩) (by assumption) ?_
  · skip
    clear hHeld
    go_simp
  try simp only [Act.put, List.setIfInBounds_toArray, List.set_cons_zero, List.set_cons_succ]
  refine wpAnyH_take (i := 4) (oi := ⟨some 39, _, _, _, _, _⟩) (v := .int .u8 (a : Int)) rfl (by kernel_rfl) (by kernel_rfl) (by kernel_rfl) (fun _ _ _ h => h) (Or.inl ⟨by rfl, fun w' hw' => ?_⟩) (by assumption) ?_
  · have g := HCELL.out w' hw'.out
    clear hHeld
    go_simp
  try simp only [Act.put, List.setIfInBounds_toArray, List.set_cons_zero, List.set_cons_succ]
  refine wpAnyH_take (i := 5) (oi := ⟨some 40, _, _, _, _, _⟩) (v := .slice (some ⟨b, off, none⟩) n c) rfl (by kernel_rfl) (by kernel_rfl) (by kernel_rfl) (fun _ _ _ h => h) (Or.inl ⟨by rfl, fun w' hw' => ?_⟩) (by assumption) ?_
  · skip
    clear hHeld
    go_simp
  try simp only [Act.put, List.setIfInBounds_toArray, List.set_cons_zero, List.set_cons_succ]
  refine wpAnyH_take (i := 6) (oi := ⟨some 41, _, _, _, _, _⟩) (v := .slice (some ⟨b, off + 9, none⟩) (n - 9) (c - 9)) rfl (by kernel_rfl) (by kernel_rfl) (by kernel_rfl) (fun _ _ _ h => h) (Or.inl ⟨by rfl, fun w' hw' => ?_⟩) (by assumption) ?_
  · skip
    clear hHeld
    go_simp
  try simp only [Act.put, List.setIfInBounds_toArray, List.set_cons_zero, List.set_cons_succ]
  refine wpAnyH_take (i := 9) (oi := ⟨some 44, _, _, _, _, _⟩) (v := .slice (some ⟨b, off, none⟩) n c) rfl (by kernel_rfl) (by kernel_rfl) (by kernel_rfl) (fun _ _ _ h => h) (Or.inl ⟨by rfl, fun w' hw' => ?_⟩) (by assumption) ?_
  · skip
    clear hHeld
    go_simp
  try simp only [Act.put, List.setIfInBounds_toArray, List.set_cons_zero, List.set_cons_succ]
  refine wpAnyH_take (i := 10) (oi := ⟨some 45, _, _, _, _, _⟩) (v := .slice (some ⟨b, off + 17, none⟩) (n - 17) (c - 17)) rfl (by kernel_rfl) (by kernel_rfl) (by kernel_rfl) (fun _ _ _ h => h) (Or.inl ⟨by rfl, fun w' hw' => ?_⟩) (by assumption) ?_
  · skip
    clear hHeld
    go_simp
  try simp only [Act.put, List.setIfInBounds_toArray, List.set_cons_zero, List.set_cons_succ]
  refine wpAnyH_take (i := 13) (oi := ⟨some 48, _, _, _, _, _⟩) (v := .slice (some ⟨b, off, none⟩) n c) rfl (by kernel_rfl) (by kernel_rfl) (by kernel_rfl) (fun _ _ _ h => h) (Or.inl ⟨by rfl, fun w' hw' => ?_⟩) (by assumption) ?_
  · skip
    clear hHeld
    go_simp
  try simp only [Act.put, List.setIfInBounds_toArray, List.set_cons_zero, List.set_cons_succ]
  refine wpAnyH_take (i := 14) (oi := ⟨some 49, _, _, _, _, _⟩) (v := .slice (some ⟨b, off + 25, none⟩) (n - 25) (c - 25)) rfl (by kernel_rfl) (by kernel_rfl) (by kernel_rfl) (fun _ _ _ h => h) (Or.inl ⟨by rfl, fun w' hw' => ?_⟩) (by assumption) ?_
  · skip
    clear hHeld
    go_simp
  try simp only [Act.put, List.setIfInBounds_toArray, List.set_cons_zero, List.set_cons_succ]
  refine wpAnyH_ready (rs := [1, 18]) (by kernel_rfl) (by simp) (AllReadyH.cons rfl (fun K hK => ?_) (AllReadyH.cons rfl (fun K hK => ?_) AllReadyH.nil))
  · go_simp
    go_wp2_with fail
    refine (HH0.out _ HBV0.out).mono ?_
    rintro e wV1 ⟨rfl, mV1, rfl⟩
    go_wp2_with fail
    refine hK.out _ _ (Lib.hid (below_drewN HBV0.out mV1)) (fun hHeld2 => ?_)
    clear hK K hHeld
    have hHeld := hHeld2
    clear hHeld2
    have HRV1 := Lib.hid (show (V0.drewN mV1).heap[X]? = _ from HRV0.out)
    have HXV1 := Lib.hid (show (V0.drewN mV1).heap[X + 1]? = _ from HXV0.out)
    have HBV1 := Lib.hid (below_drewN HBV0.out mV1)
    clear HRV0 HXV0 HBV0
    generalize V0.drewN mV1 = V1 at *
    try simp only [Act.put, List.setIfInBounds_toArray, List.set_cons_zero, List.set_cons_succ]
    refine wpAnyH_ready (rs := [7, 18]) (by kernel_rfl) (by simp) (AllReadyH.cons rfl (fun K hK => ?_) (AllReadyH.cons rfl (fun K hK => ?_) AllReadyH.nil))
    · go_simp
      go_wp2_with fail
      refine (HH9.out _ HBV1.out).mono ?_
      rintro e wV2 ⟨rfl, mV2, rfl⟩
      go_wp2_with fail
      refine hK.out _ _ (Lib.hid (below_drewN HBV1.out mV2)) (fun hHeld2 => ?_)
      clear hK K hHeld
      have hHeld := hHeld2
      clear hHeld2
      have HRV2 := Lib.hid (show (V1.drewN mV2).heap[X]? = _ from HRV1.out)
      have HXV2 := Lib.hid (show (V1.drewN mV2).heap[X + 1]? = _ from HXV1.out)
      have HBV2 := Lib.hid (below_drewN HBV1.out mV2)
      clear HRV1 HXV1 HBV1
      generalize V1.drewN mV2 = V2 at *
      try simp only [Act.put, List.setIfInBounds_toArray, List.set_cons_zero, List.set_cons_succ]
      refine wpAnyH_take (i := 8) (oi := ⟨some 43, _, _, _, _, _⟩) (v := .int .i64 (sgn x9)) rfl (by kernel_rfl) (by kernel_rfl) (by kernel_rfl) (fun _ _ _ h => h) (Or.inl ⟨by rfl, fun w' hw' => ?_⟩) (by assumption) ?_
      · skip
        clear hHeld
        go_simp
      try simp only [Act.put, List.setIfInBounds_toArray, List.set_cons_zero, List.set_cons_succ]
      refine wpAnyH_ready (rs := [11, 18]) (by kernel_rfl) (by simp) (AllReadyH.cons rfl (fun K hK => ?_) (AllReadyH.cons rfl (fun K hK => ?_) AllReadyH.nil))
      · go_simp
        go_wp2_with fail
        refine (HH17.out _ HBV2.out).mono ?_
        rintro e wV3 ⟨rfl, mV3, rfl⟩
        go_wp2_with fail
        refine hK.out _ _ (Lib.hid (below_drewN HBV2.out mV3)) (fun hHeld2 => ?_)
        clear hK K hHeld
        have hHeld := hHeld2
        clear hHeld2
        have HRV3 := Lib.hid (show (V2.drewN mV3).heap[X]? = _ from HRV2.out)
        have HXV3 := Lib.hid (show (V2.drewN mV3).heap[X + 1]? = _ from HXV2.out)
        have HBV3 := Lib.hid (below_drewN HBV2.out mV3)
        clear HRV2 HXV2 HBV2
        generalize V2.drewN mV3 = V3 at *
        try simp only [Act.put, List.setIfInBounds_toArray, List.set_cons_zero, List.set_cons_succ]
        refine wpAnyH_take (i := 12) (oi := ⟨some 47, _, _, _, _, _⟩) (v := .int .i64 (sgn x17)) rfl (by kernel_rfl) (by kernel_rfl) (by kernel_rfl) (fun _ _ _ h => h) (Or.inl ⟨by rfl, fun w' hw' => ?_⟩) (by assumption) ?_
        · skip
          clear hHeld
          go_simp
        try simp only [Act.put, List.setIfInBounds_toArray, List.set_cons_zero, List.set_cons_succ]
        refine wpAnyH_ready (rs := [15, 18]) (by kernel_rfl) (by simp) (AllReadyH.cons rfl (fun K hK => ?_) (AllReadyH.cons rfl (fun K hK => ?_) AllReadyH.nil))
        · go_simp
          go_wp2_with fail
          refine (HH25.out _ HBV3.out).mono ?_
          rintro e wV4 ⟨rfl, mV4, rfl⟩
          go_wp2_with fail
          refine hK.out _ _ (Lib.hid (below_drewN HBV3.out mV4)) (fun hHeld2 => ?_)
          clear hK K hHeld
          have hHeld := hHeld2
          clear hHeld2
          have HRV4 := Lib.hid (show (V3.drewN mV4).heap[X]? = _ from HRV3.out)
          have HXV4 := Lib.hid (show (V3.drewN mV4).heap[X + 1]? = _ from HXV3.out)
          have HBV4 := Lib.hid (below_drewN HBV3.out mV4)
          clear HRV3 HXV3 HBV3
          generalize V3.drewN mV4 = V4 at *
          try simp only [Act.put, List.setIfInBounds_toArray, List.set_cons_zero, List.set_cons_succ]
          refine wpAnyH_take (i := 16) (oi := ⟨some 51, _, _, _, _, _⟩) (v := .int .i64 (sgn x25)) rfl (by kernel_rfl) (by kernel_rfl) (by kernel_rfl) (fun _ _ _ h => h) (Or.inl ⟨by rfl, fun w' hw' => ?_⟩) (by assumption) ?_
          · skip
            clear hHeld
            go_simp
          try simp only [Act.put, List.setIfInBounds_toArray, List.set_cons_zero, List.set_cons_succ]
          refine wpAnyH_take (i := 17) (oi := ⟨some 52, _, _, _, _, _⟩) (v := .agg #[.int .u64 (g : Int), .int .u8 (a : Int), .int .i64 (sgn x9), .int .i64 (sgn x17), .int .i64 (sgn x25)]) rfl (by kernel_rfl) (by kernel_rfl) (by kernel_rfl) (fun _ _ _ h => h) (Or.inl ⟨by rfl, fun w' hw' => ?_⟩) (by assumption) ?_
          · skip
            clear hHeld
            go_simp
          try simp only [Act.put, List.setIfInBounds_toArray, List.set_cons_zero, List.set_cons_succ]
          refine wpAnyH_ready (rs := [18]) (by kernel_rfl) (by simp) (AllReadyH.cons rfl (fun K hK => ?_) AllReadyH.nil)
          go_simp
          have hbn := ((Below.refl V4.heap.size V4).alloc (Nat.le_refl _) (.cells #[.int .u64 0, .int .u8 0, .int .i64 0, .int .i64 0, .int .i64 0] 24))
          refine hK.out _ _ (Lib.hid (HBV4.out.trans (hbn.mono HBV4.out.size))) (fun hHeld2 => ?_)
          clear hK K hHeld
          have hHeld := hHeld2
          clear hHeld2
          have HYV5 := Lib.hid (alloc_block V4 (.cells #[.int .u64 0, .int .u8 0, .int .i64 0, .int .i64 0, .int .i64 0] 24))
          have HRV5 := Lib.hid (block_later HRV4.out hbn)
          have HXV5 := Lib.hid (block_later HXV4.out hbn)
          have HBV5 := Lib.hid (HBV4.out.trans (hbn.mono HBV4.out.size))
          have HZ : Hid (X < V4.heap.size ∧ X + 1 < V4.heap.size ∧ w.heap.size ≤ V4.heap.size) := Lib.hid ⟨block_lt HRV4.out, block_lt HXV4.out, HBV4.out.size⟩
          clear hbn HRV4 HXV4 HBV4
          generalize V4.alloc (.cells #[.int .u64 0, .int .u8 0, .int .i64 0, .int .i64 0, .int .i64 0] 24) = V5 at *
          generalize V4.heap.size = Z at *
          try simp only [Act.put, List.setIfInBounds_toArray, List.set_cons_zero, List.set_cons_succ]
          refine wpAnyH_ready (rs := [19]) (by kernel_rfl) (by simp) (AllReadyH.cons rfl (fun K hK => ?_) AllReadyH.nil)
          obtain ⟨y0, y1, y2, y3, y4⟩ := mcells HYV5.out
          obtain ⟨z0, z1, z2, z3, z4⟩ := mfree HYV5.out
          have HYV6 := Lib.hid (mstored (a' := .int .u64 (g : Int)) (b' := .int .u8 (a : Int)) (c' := .int .i64 (sgn x9)) (d' := .int .i64 (sgn x17)) (e' := .int .i64 (sgn x25)) HYV5.out)
          have HBV6 := Lib.hid (mkept HBV5.out HZ.out.2.2 (.int .u64 (g : Int)) (.int .u8 (a : Int)) (.int .i64 (sgn x9)) (.int .i64 (sgn x17)) (.int .i64 (sgn x25)))
          have HRV6 := Lib.hid (mother (a' := .int .u64 (g : Int)) (b' := .int .u8 (a : Int)) (c' := .int .i64 (sgn x9)) (d' := .int .i64 (sgn x17)) (e' := .int .i64 (sgn x25)) HRV5.out (by have := HZ.out; omega : X ≠ Z))
          have HXV6 := Lib.hid (mother (a' := .int .u64 (g : Int)) (b' := .int .u8 (a : Int)) (c' := .int .i64 (sgn x9)) (d' := .int .i64 (sgn x17)) (e' := .int .i64 (sgn x25)) HXV5.out (by have := HZ.out; omega : X + 1 ≠ Z))
          go_simp
          refine hK.out _ _ HBV6 (fun hHeld2 => ?_)
          clear hK K hHeld hHeld2
          clear y0 y1 y2 y3 y4 z0 z1 z2 z3 z4 HYV5 HRV5 HXV5 HBV5
          generalize (((((V5.setCell ⟨Z, 0, none⟩ (.int .u64 (g : Int))).setCell ⟨Z, 1, none⟩ (.int .u8 (a : Int))).setCell ⟨Z, 2, none⟩ (.int .i64 (sgn x9))).setCell ⟨Z, 3, none⟩ (.int .i64 (sgn x17))).setCell ⟨Z, 4, none⟩ (.int .i64 (sgn x25))) = V6 at *
          refine wpAnyH_done (by kernel_rfl) ?_ _
          obtain ⟨y0, y1, y2, y3, y4⟩ := mcells HYV6.out
          go_wp2_with fail
          refine (mrgood_any (g : Int) (a : Int) (sgn x9) (sgn x17) (sgn x25) _).mono ?_
          rw [hgm]
          rintro e w8 ⟨rfl, hb8⟩
          have HR8 := Lib.hid (block_later HRV6.out hb8)
          have HX8 := Lib.hid (block_later HXV6.out hb8)
          have HY8 := Lib.hid (block_later HYV6.out hb8)
          have HB8 := Lib.hid (HBV6.out.trans (hb8.mono HBV6.out.size))
          clear hb8 HRV6 HXV6 HYV6 HBV6 y0 y1 y2 y3 y4
          obtain ⟨y0, y1, y2, y3, y4⟩ := mcells HY8.out
          obtain ⟨r0, r1, r2, r3, r4⟩ := mcells HR8.out
          obtain ⟨q0, q1, q2, q3, q4⟩ := mfree HR8.out
          have HF := Lib.hid (mstored (a' := .int .u64 (g : Int)) (b' := .int .u8 (a : Int)) (c' := .int .i64 (sgn x9)) (d' := .int .i64 (sgn x17)) (e' := .int .i64 (sgn x25)) HR8.out)
          have HG := Lib.hid (mkept HB8.out (Nat.le_of_eq HX.out) (.int .u64 (g : Int)) (.int .u8 (a : Int)) (.int .i64 (sgn x9)) (.int .i64 (sgn x17)) (.int .i64 (sgn x25)))
          go_wp2_with fail
          refine bodyPost_ret (v := .tuple #[.agg #[.int .u64 (g : Int), .int .u8 (a : Int), .int .i64 (sgn x9), .int .i64 (sgn x17), .int .i64 (sgn x25)], .int .i64 0]) ?_ rfl ⟨rfl, HG.out⟩
          exact results_mm rfl _ _ X _ rfl _ rfl rfl HF.out
        · go_simp
          have hbn := ((Below.refl V3.heap.size V3).alloc (Nat.le_refl _) (.cells #[.int .u64 0, .int .u8 0, .int .i64 0, .int .i64 0, .int .i64 0] 24))
          refine hK.out _ _ (Lib.hid (HBV3.out.trans (hbn.mono HBV3.out.size))) (fun hHeld2 => ?_)
          clear hK K hHeld
          have hHeld := hHeld2
          clear hHeld2
          have HYV7 := Lib.hid (alloc_block V3 (.cells #[.int .u64 0, .int .u8 0, .int .i64 0, .int .i64 0, .int .i64 0] 24))
          have HRV7 := Lib.hid (block_later HRV3.out hbn)
          have HXV7 := Lib.hid (block_later HXV3.out hbn)
          have HBV7 := Lib.hid (HBV3.out.trans (hbn.mono HBV3.out.size))
          have HZ : Hid (X < V3.heap.size ∧ X + 1 < V3.heap.size ∧ w.heap.size ≤ V3.heap.size) := Lib.hid ⟨block_lt HRV3.out, block_lt HXV3.out, HBV3.out.size⟩
          clear hbn HRV3 HXV3 HBV3
          generalize V3.alloc (.cells #[.int .u64 0, .int .u8 0, .int .i64 0, .int .i64 0, .int .i64 0] 24) = V7 at *
          generalize V3.heap.size = Z at *
          try simp only [Act.put, List.setIfInBounds_toArray, List.set_cons_zero, List.set_cons_succ]
          refine wpAnyH_ready (rs := [15]) (by kernel_rfl) (by simp) (AllReadyH.cons rfl (fun K hK => ?_) AllReadyH.nil)
          go_simp
          go_wp2_with fail
          refine (HH25.out _ HBV7.out).mono ?_
          rintro e wV8 ⟨rfl, mV8, rfl⟩
          go_wp2_with fail
          refine hK.out _ _ (Lib.hid (below_drewN HBV7.out mV8)) (fun hHeld2 => ?_)
          clear hK K hHeld
          have hHeld := hHeld2
          clear hHeld2
          have HRV8 := Lib.hid (show (V7.drewN mV8).heap[X]? = _ from HRV7.out)
          have HXV8 := Lib.hid (show (V7.drewN mV8).heap[X + 1]? = _ from HXV7.out)
          have HBV8 := Lib.hid (below_drewN HBV7.out mV8)
          have HYV8 := Lib.hid (show (V7.drewN mV8).heap[Z]? = _ from HYV7.out)
          clear HRV7 HXV7 HBV7 HYV7
          generalize V7.drewN mV8 = V8 at *
          try simp only [Act.put, List.setIfInBounds_toArray, List.set_cons_zero, List.set_cons_succ]
          refine wpAnyH_take (i := 16) (oi := ⟨some 51, _, _, _, _, _⟩) (v := .int .i64 (sgn x25)) rfl (by kernel_rfl) (by kernel_rfl) (by kernel_rfl) (fun _ _ _ h => h) (Or.inl ⟨by rfl, fun w' hw' => ?_⟩) (by assumption) ?_
          · skip
            clear hHeld
            go_simp
          try simp only [Act.put, List.setIfInBounds_toArray, List.set_cons_zero, List.set_cons_succ]
          refine wpAnyH_take (i := 17) (oi := ⟨some 52, _, _, _, _, _⟩) (v := .agg #[.int .u64 (g : Int), .int .u8 (a : Int), .int .i64 (sgn x9), .int .i64 (sgn x17), .int .i64 (sgn x25)]) rfl (by kernel_rfl) (by kernel_rfl) (by kernel_rfl) (fun _ _ _ h => h) (Or.inl ⟨by rfl, fun w' hw' => ?_⟩) (by assumption) ?_
          · skip
            clear hHeld
            go_simp
          try simp only [Act.put, List.setIfInBounds_toArray, List.set_cons_zero, List.set_cons_succ]
          refine wpAnyH_ready (rs := [19]) (by kernel_rfl) (by simp) (AllReadyH.cons rfl (fun K hK => ?_) AllReadyH.nil)
          obtain ⟨y0, y1, y2, y3, y4⟩ := mcells HYV8.out
          obtain ⟨z0, z1, z2, z3, z4⟩ := mfree HYV8.out
          have HYV9 := Lib.hid (mstored (a' := .int .u64 (g : Int)) (b' := .int .u8 (a : Int)) (c' := .int .i64 (sgn x9)) (d' := .int .i64 (sgn x17)) (e' := .int .i64 (sgn x25)) HYV8.out)
          have HBV9 := Lib.hid (mkept HBV8.out HZ.out.2.2 (.int .u64 (g : Int)) (.int .u8 (a : Int)) (.int .i64 (sgn x9)) (.int .i64 (sgn x17)) (.int .i64 (sgn x25)))
          have HRV9 := Lib.hid (mother (a' := .int .u64 (g : Int)) (b' := .int .u8 (a : Int)) (c' := .int .i64 (sgn x9)) (d' := .int .i64 (sgn x17)) (e' := .int .i64 (sgn x25)) HRV8.out (by have := HZ.out; omega : X ≠ Z))
          have HXV9 := Lib.hid (mother (a' := .int .u64 (g : Int)) (b' := .int .u8 (a : Int)) (c' := .int .i64 (sgn x9)) (d' := .int .i64 (sgn x17)) (e' := .int .i64 (sgn x25)) HXV8.out (by have := HZ.out; omega : X + 1 ≠ Z))
          go_simp
          refine hK.out _ _ HBV9 (fun hHeld2 => ?_)
          clear hK K hHeld hHeld2
          clear y0 y1 y2 y3 y4 z0 z1 z2 z3 z4 HYV8 HRV8 HXV8 HBV8
          generalize (((((V8.setCell ⟨Z, 0, none⟩ (.int .u64 (g : Int))).setCell ⟨Z, 1, none⟩ (.int .u8 (a : Int))).setCell ⟨Z, 2, none⟩ (.int .i64 (sgn x9))).setCell ⟨Z, 3, none⟩ (.int .i64 (sgn x17))).setCell ⟨Z, 4, none⟩ (.int .i64 (sgn x25))) = V9 at *
          refine wpAnyH_done (by kernel_rfl) ?_ _
          obtain ⟨y0, y1, y2, y3, y4⟩ := mcells HYV9.out
          go_wp2_with fail
          refine (mrgood_any (g : Int) (a : Int) (sgn x9) (sgn x17) (sgn x25) _).mono ?_
          rw [hgm]
          rintro e w8 ⟨rfl, hb8⟩
          have HR8 := Lib.hid (block_later HRV9.out hb8)
          have HX8 := Lib.hid (block_later HXV9.out hb8)
          have HY8 := Lib.hid (block_later HYV9.out hb8)
          have HB8 := Lib.hid (HBV9.out.trans (hb8.mono HBV9.out.size))
          clear hb8 HRV9 HXV9 HYV9 HBV9 y0 y1 y2 y3 y4
          obtain ⟨y0, y1, y2, y3, y4⟩ := mcells HY8.out
          obtain ⟨r0, r1, r2, r3, r4⟩ := mcells HR8.out
          obtain ⟨q0, q1, q2, q3, q4⟩ := mfree HR8.out
          have HF := Lib.hid (mstored (a' := .int .u64 (g : Int)) (b' := .int .u8 (a : Int)) (c' := .int .i64 (sgn x9)) (d' := .int .i64 (sgn x17)) (e' := .int .i64 (sgn x25)) HR8.out)
          have HG := Lib.hid (mkept HB8.out (Nat.le_of_eq HX.out) (.int .u64 (g : Int)) (.int .u8 (a : Int)) (.int .i64 (sgn x9)) (.int .i64 (sgn x17)) (.int .i64 (sgn x25)))
          go_wp2_with fail
          refine bodyPost_ret (v := .tuple #[.agg #[.int .u64 (g : Int), .int .u8 (a : Int), .int .i64 (sgn x9), .int .i64 (sgn x17), .int .i64 (sgn x25)], .int .i64 0]) ?_ rfl ⟨rfl, HG.out⟩
          exact results_mm rfl _ _ X _ rfl _ rfl rfl HF.out
      · go_simp
        have hbn := ((Below.refl V2.heap.size V2).alloc (Nat.le_refl _) (.cells #[.int .u64 0, .int .u8 0, .int .i64 0, .int .i64 0, .int .i64 0] 24))
        refine hK.out _ _ (Lib.hid (HBV2.out.trans (hbn.mono HBV2.out.size))) (fun hHeld2 => ?_)
        clear hK K hHeld
        have hHeld := hHeld2
        clear hHeld2
        have HYV10 := Lib.hid (alloc_block V2 (.cells #[.int .u64 0, .int .u8 0, .int .i64 0, .int .i64 0, .int .i64 0] 24))
        have HRV10 := Lib.hid (block_later HRV2.out hbn)
        have HXV10 := Lib.hid (block_later HXV2.out hbn)
        have HBV10 := Lib.hid (HBV2.out.trans (hbn.mono HBV2.out.size))
        have HZ : Hid (X < V2.heap.size ∧ X + 1 < V2.heap.size ∧ w.heap.size ≤ V2.heap.size) := Lib.hid ⟨block_lt HRV2.out, block_lt HXV2.out, HBV2.out.size⟩
        clear hbn HRV2 HXV2 HBV2
        generalize V2.alloc (.cells #[.int .u64 0, .int .u8 0, .int .i64 0, .int .i64 0, .int .i64 0] 24) = V10 at *
        generalize V2.heap.size = Z at *
        try simp only [Act.put, List.setIfInBounds_toArray, List.set_cons_zero, List.set_cons_succ]
        refine wpAnyH_ready (rs := [11]) (by kernel_rfl) (by simp) (AllReadyH.cons rfl (fun K hK => ?_) AllReadyH.nil)
        go_simp
        go_wp2_with fail
        refine (HH17.out _ HBV10.out).mono ?_
        rintro e wV11 ⟨rfl, mV11, rfl⟩
        go_wp2_with fail
        refine hK.out _ _ (Lib.hid (below_drewN HBV10.out mV11)) (fun hHeld2 => ?_)
        clear hK K hHeld
        have hHeld := hHeld2
        clear hHeld2
        have HRV11 := Lib.hid (show (V10.drewN mV11).heap[X]? = _ from HRV10.out)
        have HXV11 := Lib.hid (show (V10.drewN mV11).heap[X + 1]? = _ from HXV10.out)
        have HBV11 := Lib.hid (below_drewN HBV10.out mV11)
        have HYV11 := Lib.hid (show (V10.drewN mV11).heap[Z]? = _ from HYV10.out)
        clear HRV10 HXV10 HBV10 HYV10
        generalize V10.drewN mV11 = V11 at *
        try simp only [Act.put, List.setIfInBounds_toArray, List.set_cons_zero, List.set_cons_succ]
        refine wpAnyH_take (i := 12) (oi := ⟨some 47, _, _, _, _, _⟩) (v := .int .i64 (sgn x17)) rfl (by kernel_rfl) (by kernel_rfl) (by kernel_rfl) (fun _ _ _ h => h) (Or.inl ⟨by rfl, fun w' hw' => ?_⟩) (by assumption) ?_
        · skip
          clear hHeld
          go_simp
        try simp only [Act.put, List.setIfInBounds_toArray, List.set_cons_zero, List.set_cons_succ]
        refine wpAnyH_ready (rs := [15]) (by kernel_rfl) (by simp) (AllReadyH.cons rfl (fun K hK => ?_) AllReadyH.nil)
        go_simp
        go_wp2_with fail
        refine (HH25.out _ HBV11.out).mono ?_
        rintro e wV12 ⟨rfl, mV12, rfl⟩
        go_wp2_with fail
        refine hK.out _ _ (Lib.hid (below_drewN HBV11.out mV12)) (fun hHeld2 => ?_)
        clear hK K hHeld
        have hHeld := hHeld2
        clear hHeld2
        have HRV12 := Lib.hid (show (V11.drewN mV12).heap[X]? = _ from HRV11.out)
        have HXV12 := Lib.hid (show (V11.drewN mV12).heap[X + 1]? = _ from HXV11.out)
        have HBV12 := Lib.hid (below_drewN HBV11.out mV12)
        have HYV12 := Lib.hid (show (V11.drewN mV12).heap[Z]? = _ from HYV11.out)
        clear HRV11 HXV11 HBV11 HYV11
        generalize V11.drewN mV12 = V12 at *
        try simp only [Act.put, List.setIfInBounds_toArray, List.set_cons_zero, List.set_cons_succ]
        refine wpAnyH_take (i := 16) (oi := ⟨some 51, _, _, _, _, _⟩) (v := .int .i64 (sgn x25)) rfl (by kernel_rfl) (by kernel_rfl) (by kernel_rfl) (fun _ _ _ h => h) (Or.inl ⟨by rfl, fun w' hw' => ?_⟩) (by assumption) ?_
        · skip
          clear hHeld
          go_simp
        try simp only [Act.put, List.setIfInBounds_toArray, List.set_cons_zero, List.set_cons_succ]
        refine wpAnyH_take (i := 17) (oi := ⟨some 52, _, _, _, _, _⟩) (v := .agg #[.int .u64 (g : Int), .int .u8 (a : Int), .int .i64 (sgn x9), .int .i64 (sgn x17), .int .i64 (sgn x25)]) rfl (by kernel_rfl) (by kernel_rfl) (by kernel_rfl) (fun _ _ _ h => h) (Or.inl ⟨by rfl, fun w' hw' => ?_⟩) (by assumption) ?_
        · skip
          clear hHeld
          go_simp
        try simp only [Act.put, List.setIfInBounds_toArray, List.set_cons_zero, List.set_cons_succ]
        refine wpAnyH_ready (rs := [19]) (by kernel_rfl) (by simp) (AllReadyH.cons rfl (fun K hK => ?_) AllReadyH.nil)
        obtain ⟨y0, y1, y2, y3, y4⟩ := mcells HYV12.out
        obtain ⟨z0, z1, z2, z3, z4⟩ := mfree HYV12.out
        have HYV13 := Lib.hid (mstored (a' := .int .u64 (g : Int)) (b' := .int .u8 (a : Int)) (c' := .int .i64 (sgn x9)) (d' := .int .i64 (sgn x17)) (e' := .int .i64 (sgn x25)) HYV12.out)
        have HBV13 := Lib.hid (mkept HBV12.out HZ.out.2.2 (.int .u64 (g : Int)) (.int .u8 (a : Int)) (.int .i64 (sgn x9)) (.int .i64 (sgn x17)) (.int .i64 (sgn x25)))
        have HRV13 := Lib.hid (mother (a' := .int .u64 (g : Int)) (b' := .int .u8 (a : Int)) (c' := .int .i64 (sgn x9)) (d' := .int .i64 (sgn x17)) (e' := .int .i64 (sgn x25)) HRV12.out (by have := HZ.out; omega : X ≠ Z))
        have HXV13 := Lib.hid (mother (a' := .int .u64 (g : Int)) (b' := .int .u8 (a : Int)) (c' := .int .i64 (sgn x9)) (d' := .int .i64 (sgn x17)) (e' := .int .i64 (sgn x25)) HXV12.out (by have := HZ.out; omega : X + 1 ≠ Z))
        go_simp
        refine hK.out _ _ HBV13 (fun hHeld2 => ?_)
        clear hK K hHeld hHeld2
        clear y0 y1 y2 y3 y4 z0 z1 z2 z3 z4 HYV12 HRV12 HXV12 HBV12
        generalize (((((V12.setCell ⟨Z, 0, none⟩ (.int .u64 (g : Int))).setCell ⟨Z, 1, none⟩ (.int .u8 (a : Int))).setCell ⟨Z, 2, none⟩ (.int .i64 (sgn x9))).setCell ⟨Z, 3, none⟩ (.int .i64 (sgn x17))).setCell ⟨Z, 4, none⟩ (.int .i64 (sgn x25))) = V13 at *
        refine wpAnyH_done (by kernel_rfl) ?_ _
        obtain ⟨y0, y1, y2, y3, y4⟩ := mcells HYV13.out
        go_wp2_with fail
        refine (mrgood_any (g : Int) (a : Int) (sgn x9) (sgn x17) (sgn x25) _).mono ?_
        rw [hgm]
        rintro e w8 ⟨rfl, hb8⟩
        have HR8 := Lib.hid (block_later HRV13.out hb8)
        have HX8 := Lib.hid (block_later HXV13.out hb8)
        have HY8 := Lib.hid (block_later HYV13.out hb8)
        have HB8 := Lib.hid (HBV13.out.trans (hb8.mono HBV13.out.size))
        clear hb8 HRV13 HXV13 HYV13 HBV13 y0 y1 y2 y3 y4
        obtain ⟨y0, y1, y2, y3, y4⟩ := mcells HY8.out
        obtain ⟨r0, r1, r2, r3, r4⟩ := mcells HR8.out
        obtain ⟨q0, q1, q2, q3, q4⟩ := mfree HR8.out
        have HF := Lib.hid (mstored (a' := .int .u64 (g : Int)) (b' := .int .u8 (a : Int)) (c' := .int .i64 (sgn x9)) (d' := .int .i64 (sgn x17)) (e' := .int .i64 (sgn x25)) HR8.out)
        have HG := Lib.hid (mkept HB8.out (Nat.le_of_eq HX.out) (.int .u64 (g : Int)) (.int .u8 (a : Int)) (.int .i64 (sgn x9)) (.int .i64 (sgn x17)) (.int .i64 (sgn x25)))
        go_wp2_with fail
        refine bodyPost_ret (v := .tuple #[.agg #[.int .u64 (g : Int), .int .u8 (a : Int), .int .i64 (sgn x9), .int .i64 (sgn x17), .int .i64 (sgn x25)], .int .i64 0]) ?_ rfl ⟨rfl, HG.out⟩
        exact results_mm rfl _ _ X _ rfl _ rfl rfl HF.out
    · go_simp
      have hbn := ((Below.refl V1.heap.size V1).alloc (Nat.le_refl _) (.cells #[.int .u64 0, .int .u8 0, .int .i64 0, .int .i64 0, .int .i64 0] 24))
      refine hK.out _ _ (Lib.hid (HBV1.out.trans (hbn.mono HBV1.out.size))) (fun hHeld2 => ?_)
      clear hK K hHeld
      have hHeld := hHeld2
      clear hHeld2
      have HYV14 := Lib.hid (alloc_block V1 (.cells #[.int .u64 0, .int .u8 0, .int .i64 0, .int .i64 0, .int .i64 0] 24))
      have HRV14 := Lib.hid (block_later HRV1.out hbn)
      have HXV14 := Lib.hid (block_later HXV1.out hbn)
      have HBV14 := Lib.hid (HBV1.out.trans (hbn.mono HBV1.out.size))
      have HZ : Hid (X < V1.heap.size ∧ X + 1 < V1.heap.size ∧ w.heap.size ≤ V1.heap.size) := Lib.hid ⟨block_lt HRV1.out, block_lt HXV1.out, HBV1.out.size⟩
      clear hbn HRV1 HXV1 HBV1
      generalize V1.alloc (.cells #[.int .u64 0, .int .u8 0, .int .i64 0, .int .i64 0, .int .i64 0] 24) = V14 at *
      generalize V1.heap.size = Z at *
      try simp only [Act.put, List.setIfInBounds_toArray, List.set_cons_zero, List.set_cons_succ]
      refine wpAnyH_ready (rs := [7]) (by kernel_rfl) (by simp) (AllReadyH.cons rfl (fun K hK => ?_) AllReadyH.nil)
      go_simp
      go_wp2_with fail
      refine (HH9.out _ HBV14.out).mono ?_
      rintro e wV15 ⟨rfl, mV15, rfl⟩
      go_wp2_with fail
      refine hK.out _ _ (Lib.hid (below_drewN HBV14.out mV15)) (fun hHeld2 => ?_)
      clear hK K hHeld
      have hHeld := hHeld2
      clear hHeld2
      have HRV15 := Lib.hid (show (V14.drewN mV15).heap[X]? = _ from HRV14.out)
      have HXV15 := Lib.hid (show (V14.drewN mV15).heap[X + 1]? = _ from HXV14.out)
      have HBV15 := Lib.hid (below_drewN HBV14.out mV15)
      have HYV15 := Lib.hid (show (V14.drewN mV15).heap[Z]? = _ from HYV14.out)
      clear HRV14 HXV14 HBV14 HYV14
      generalize V14.drewN mV15 = V15 at *
      try simp only [Act.put, List.setIfInBounds_toArray, List.set_cons_zero, List.set_cons_succ]
      refine wpAnyH_take (i := 8) (oi := ⟨some 43, _, _, _, _, _⟩) (v := .int .i64 (sgn x9)) rfl (by kernel_rfl) (by kernel_rfl) (by kernel_rfl) (fun _ _ _ h => h) (Or.inl ⟨by rfl, fun w' hw' => ?_⟩) (by assumption) ?_
      · skip
        clear hHeld
        go_simp
      try simp only [Act.put, List.setIfInBounds_toArray, List.set_cons_zero, List.set_cons_succ]
      refine wpAnyH_ready (rs := [11]) (by kernel_rfl) (by simp) (AllReadyH.cons rfl (fun K hK => ?_) AllReadyH.nil)
      go_simp
      go_wp2_with fail
      refine (HH17.out _ HBV15.out).mono ?_
      rintro e wV16 ⟨rfl, mV16, rfl⟩
      go_wp2_with fail
      refine hK.out _ _ (Lib.hid (below_drewN HBV15.out mV16)) (fun hHeld2 => ?_)
      clear hK K hHeld
      have hHeld := hHeld2
      clear hHeld2
      have HRV16 := Lib.hid (show (V15.drewN mV16).heap[X]? = _ from HRV15.out)
      have HXV16 := Lib.hid (show (V15.drewN mV16).heap[X + 1]? = _ from HXV15.out)
      have HBV16 := Lib.hid (below_drewN HBV15.out mV16)
      have HYV16 := Lib.hid (show (V15.drewN mV16).heap[Z]? = _ from HYV15.out)
      clear HRV15 HXV15 HBV15 HYV15
      generalize V15.drewN mV16 = V16 at *
      try simp only [Act.put, List.setIfInBounds_toArray, List.set_cons_zero, List.set_cons_succ]
      refine wpAnyH_take (i := 12) (oi := ⟨some 47, _, _, _, _, _⟩) (v := .int .i64 (sgn x17)) rfl (by kernel_rfl) (by kernel_rfl) (by kernel_rfl) (fun _ _ _ h => h) (Or.inl ⟨by rfl, fun w' hw' => ?_⟩) (by assumption) ?_
      · skip
        clear hHeld
        go_simp
      try simp only [Act.put, List.setIfInBounds_toArray, List.set_cons_zero, List.set_cons_succ]
      refine wpAnyH_ready (rs := [15]) (by kernel_rfl) (by simp) (AllReadyH.cons rfl (fun K hK => ?_) AllReadyH.nil)
      go_simp
      go_wp2_with fail
      refine (HH25.out _ HBV16.out).mono ?_
      rintro e wV17 ⟨rfl, mV17, rfl⟩
      go_wp2_with fail
      refine hK.out _ _ (Lib.hid (below_drewN HBV16.out mV17)) (fun hHeld2 => ?_)
      clear hK K hHeld
      have hHeld := hHeld2
      clear hHeld2
      have HRV17 := Lib.hid (show (V16.drewN mV17).heap[X]? = _ from HRV16.out)
      have HXV17 := Lib.hid (show (V16.drewN mV17).heap[X + 1]? = _ from HXV16.out)
      have HBV17 := Lib.hid (below_drewN HBV16.out mV17)
      have HYV17 := Lib.hid (show (V16.drewN mV17).heap[Z]? = _ from HYV16.out)
      clear HRV16 HXV16 HBV16 HYV16
      generalize V16.drewN mV17 = V17 at *
      try simp only [Act.put, List.setIfInBounds_toArray, List.set_cons_zero, List.set_cons_succ]
      refine wpAnyH_take (i := 16) (oi := ⟨some 51, _, _, _, _, _⟩) (v := .int .i64 (sgn x25)) rfl (by kernel_rfl) (by kernel_rfl) (by kernel_rfl) (fun _ _ _ h => h) (Or.inl ⟨by rfl, fun w' hw' => ?_⟩) (by assumption) ?_
      · skip
        clear hHeld
        go_simp
      try simp only [Act.put, List.setIfInBounds_toArray, List.set_cons_zero, List.set_cons_succ]
      refine wpAnyH_take (i := 17) (oi := ⟨some 52, _, _, _, _, _⟩) (v := .agg #[.int .u64 (g : Int), .int .u8 (a : Int), .int .i64 (sgn x9), .int .i64 (sgn x17), .int .i64 (sgn x25)]) rfl (by kernel_rfl) (by kernel_rfl) (by kernel_rfl) (fun _ _ _ h => h) (Or.inl ⟨by rfl, fun w' hw' => ?_⟩) (by assumption) ?_
      · skip
        clear hHeld
        go_simp
      try simp only [Act.put, List.setIfInBounds_toArray, List.set_cons_zero, List.set_cons_succ]
      refine wpAnyH_ready (rs := [19]) (by kernel_rfl) (by simp) (AllReadyH.cons rfl (fun K hK => ?_) AllReadyH.nil)
      obtain ⟨y0, y1, y2, y3, y4⟩ := mcells HYV17.out
      obtain ⟨z0, z1, z2, z3, z4⟩ := mfree HYV17.out
      have HYV18 := Lib.hid (mstored (a' := .int .u64 (g : Int)) (b' := .int .u8 (a : Int)) (c' := .int .i64 (sgn x9)) (d' := .int .i64 (sgn x17)) (e' := .int .i64 (sgn x25)) HYV17.out)
      have HBV18 := Lib.hid (mkept HBV17.out HZ.out.2.2 (.int .u64 (g : Int)) (.int .u8 (a : Int)) (.int .i64 (sgn x9)) (.int .i64 (sgn x17)) (.int .i64 (sgn x25)))
      have HRV18 := Lib.hid (mother (a' := .int .u64 (g : Int)) (b' := .int .u8 (a : Int)) (c' := .int .i64 (sgn x9)) (d' := .int .i64 (sgn x17)) (e' := .int .i64 (sgn x25)) HRV17.out (by have := HZ.out; omega : X ≠ Z))
      have HXV18 := Lib.hid (mother (a' := .int .u64 (g : Int)) (b' := .int .u8 (a : Int)) (c' := .int .i64 (sgn x9)) (d' := .int .i64 (sgn x17)) (e' := .int .i64 (sgn x25)) HXV17.out (by have := HZ.out; omega : X + 1 ≠ Z))
      go_simp
      refine hK.out _ _ HBV18 (fun hHeld2 => ?_)
      clear hK K hHeld hHeld2
      clear y0 y1 y2 y3 y4 z0 z1 z2 z3 z4 HYV17 HRV17 HXV17 HBV17
      generalize (((((V17.setCell ⟨Z, 0, none⟩ (.int .u64 (g : Int))).setCell ⟨Z, 1, none⟩ (.int .u8 (a : Int))).setCell ⟨Z, 2, none⟩ (.int .i64 (sgn x9))).setCell ⟨Z, 3, none⟩ (.int .i64 (sgn x17))).setCell ⟨Z, 4, none⟩ (.int .i64 (sgn x25))) = V18 at *
      refine wpAnyH_done (by kernel_rfl) ?_ _
      obtain ⟨y0, y1, y2, y3, y4⟩ := mcells HYV18.out
      go_wp2_with fail
      refine (mrgood_any (g : Int) (a : Int) (sgn x9) (sgn x17) (sgn x25) _).mono ?_
      rw [hgm]
      rintro e w8 ⟨rfl, hb8⟩
      have HR8 := Lib.hid (block_later HRV18.out hb8)
      have HX8 := Lib.hid (block_later HXV18.out hb8)
      have HY8 := Lib.hid (block_later HYV18.out hb8)
      have HB8 := Lib.hid (HBV18.out.trans (hb8.mono HBV18.out.size))
      clear hb8 HRV18 HXV18 HYV18 HBV18 y0 y1 y2 y3 y4
      obtain ⟨y0, y1, y2, y3, y4⟩ := mcells HY8.out
      obtain ⟨r0, r1, r2, r3, r4⟩ := mcells HR8.out
      obtain ⟨q0, q1, q2, q3, q4⟩ := mfree HR8.out
      have HF := Lib.hid (mstored (a' := .int .u64 (g : Int)) (b' := .int .u8 (a : Int)) (c' := .int .i64 (sgn x9)) (d' := .int .i64 (sgn x17)) (e' := .int .i64 (sgn x25)) HR8.out)
      have HG := Lib.hid (mkept HB8.out (Nat.le_of_eq HX.out) (.int .u64 (g : Int)) (.int .u8 (a : Int)) (.int .i64 (sgn x9)) (.int .i64 (sgn x17)) (.int .i64 (sgn x25)))
      go_wp2_with fail
      refine bodyPost_ret (v := .tuple #[.agg #[.int .u64 (g : Int), .int .u8 (a : Int), .int .i64 (sgn x9), .int .i64 (sgn x17), .int .i64 (sgn x25)], .int .i64 0]) ?_ rfl ⟨rfl, HG.out⟩
      exact results_mm rfl _ _ X _ rfl _ rfl rfl HF.out
  · go_simp
    have hbn := ((Below.refl V0.heap.size V0).alloc (Nat.le_refl _) (.cells #[.int .u64 0, .int .u8 0, .int .i64 0, .int .i64 0, .int .i64 0] 24))
    refine hK.out _ _ (Lib.hid (HBV0.out.trans (hbn.mono HBV0.out.size))) (fun hHeld2 => ?_)
    clear hK K hHeld
    have hHeld := hHeld2
    clear hHeld2
    have HYV19 := Lib.hid (alloc_block V0 (.cells #[.int .u64 0, .int .u8 0, .int .i64 0, .int .i64 0, .int .i64 0] 24))
    have HRV19 := Lib.hid (block_later HRV0.out hbn)
    have HXV19 := Lib.hid (block_later HXV0.out hbn)
    have HBV19 := Lib.hid (HBV0.out.trans (hbn.mono HBV0.out.size))
    have HZ : Hid (X < V0.heap.size ∧ X + 1 < V0.heap.size ∧ w.heap.size ≤ V0.heap.size) := Lib.hid ⟨block_lt HRV0.out, block_lt HXV0.out, HBV0.out.size⟩
    clear hbn HRV0 HXV0 HBV0
    generalize V0.alloc (.cells #[.int .u64 0, .int .u8 0, .int .i64 0, .int .i64 0, .int .i64 0] 24) = V19 at *
    generalize V0.heap.size = Z at *
    try simp only [Act.put, List.setIfInBounds_toArray, List.set_cons_zero, List.set_cons_succ]
    refine wpAnyH_ready (rs := [1]) (by kernel_rfl) (by simp) (AllReadyH.cons rfl (fun K hK => ?_) AllReadyH.nil)
    go_simp
    go_wp2_with fail
    refine (HH0.out _ HBV19.out).mono ?_
    rintro e wV20 ⟨rfl, mV20, rfl⟩
    go_wp2_with fail
    refine hK.out _ _ (Lib.hid (below_drewN HBV19.out mV20)) (fun hHeld2 => ?_)
    clear hK K hHeld
    have hHeld := hHeld2
    clear hHeld2
    have HRV20 := Lib.hid (show (V19.drewN mV20).heap[X]? = _ from HRV19.out)
    have HXV20 := Lib.hid (show (V19.drewN mV20).heap[X + 1]? = _ from HXV19.out)
    have HBV20 := Lib.hid (below_drewN HBV19.out mV20)
    have HYV20 := Lib.hid (show (V19.drewN mV20).heap[Z]? = _ from HYV19.out)
    clear HRV19 HXV19 HBV19 HYV19
    generalize V19.drewN mV20 = V20 at *
    try simp only [Act.put, List.setIfInBounds_toArray, List.set_cons_zero, List.set_cons_succ]
    refine wpAnyH_ready (rs := [7]) (by kernel_rfl) (by simp) (AllReadyH.cons rfl (fun K hK => ?_) AllReadyH.nil)
    go_simp
    go_wp2_with fail
    refine (HH9.out _ HBV20.out).mono ?_
    rintro e wV21 ⟨rfl, mV21, rfl⟩
    go_wp2_with fail
    refine hK.out _ _ (Lib.hid (below_drewN HBV20.out mV21)) (fun hHeld2 => ?_)
    clear hK K hHeld
    have hHeld := hHeld2
    clear hHeld2
    have HRV21 := Lib.hid (show (V20.drewN mV21).heap[X]? = _ from HRV20.out)
    have HXV21 := Lib.hid (show (V20.drewN mV21).heap[X + 1]? = _ from HXV20.out)
    have HBV21 := Lib.hid (below_drewN HBV20.out mV21)
    have HYV21 := Lib.hid (show (V20.drewN mV21).heap[Z]? = _ from HYV20.out)
    clear HRV20 HXV20 HBV20 HYV20
    generalize V20.drewN mV21 = V21 at *
    try simp only [Act.put, List.setIfInBounds_toArray, List.set_cons_zero, List.set_cons_succ]
    refine wpAnyH_take (i := 8) (oi := ⟨some 43, _, _, _, _, _⟩) (v := .int .i64 (sgn x9)) rfl (by kernel_rfl) (by kernel_rfl) (by kernel_rfl) (fun _ _ _ h => h) (Or.inl ⟨by rfl, fun w' hw' => ?_⟩) (by assumption) ?_
    · skip
      clear hHeld
      go_simp
    try simp only [Act.put, List.setIfInBounds_toArray, List.set_cons_zero, List.set_cons_succ]
    refine wpAnyH_ready (rs := [11]) (by kernel_rfl) (by simp) (AllReadyH.cons rfl (fun K hK => ?_) AllReadyH.nil)
    go_simp
    go_wp2_with fail
    refine (HH17.out _ HBV21.out).mono ?_
    rintro e wV22 ⟨rfl, mV22, rfl⟩
    go_wp2_with fail
    refine hK.out _ _ (Lib.hid (below_drewN HBV21.out mV22)) (fun hHeld2 => ?_)
    clear hK K hHeld
    have hHeld := hHeld2
    clear hHeld2
    have HRV22 := Lib.hid (show (V21.drewN mV22).heap[X]? = _ from HRV21.out)
    have HXV22 := Lib.hid (show (V21.drewN mV22).heap[X + 1]? = _ from HXV21.out)
    have HBV22 := Lib.hid (below_drewN HBV21.out mV22)
    have HYV22 := Lib.hid (show (V21.drewN mV22).heap[Z]? = _ from HYV21.out)
    clear HRV21 HXV21 HBV21 HYV21
    generalize V21.drewN mV22 = V22 at *
    try simp only [Act.put, List.setIfInBounds_toArray, List.set_cons_zero, List.set_cons_succ]
    refine wpAnyH_take (i := 12) (oi := ⟨some 47, _, _, _, _, _⟩) (v := .int .i64 (sgn x17)) rfl (by kernel_rfl) (by kernel_rfl) (by kernel_rfl) (fun _ _ _ h => h) (Or.inl ⟨by rfl, fun w' hw' => ?_⟩) (by assumption) ?_
    · skip
      clear hHeld
      go_simp
    try simp only [Act.put, List.setIfInBounds_toArray, List.set_cons_zero, List.set_cons_succ]
    refine wpAnyH_ready (rs := [15]) (by kernel_rfl) (by simp) (AllReadyH.cons rfl (fun K hK => ?_) AllReadyH.nil)
    go_simp
    go_wp2_with fail
    refine (HH25.out _ HBV22.out).mono ?_
    rintro e wV23 ⟨rfl, mV23, rfl⟩
    go_wp2_with fail
    refine hK.out _ _ (Lib.hid (below_drewN HBV22.out mV23)) (fun hHeld2 => ?_)
    clear hK K hHeld
    have hHeld := hHeld2
    clear hHeld2
    have HRV23 := Lib.hid (show (V22.drewN mV23).heap[X]? = _ from HRV22.out)
    have HXV23 := Lib.hid (show (V22.drewN mV23).heap[X + 1]? = _ from HXV22.out)
    have HBV23 := Lib.hid (below_drewN HBV22.out mV23)
    have HYV23 := Lib.hid (show (V22.drewN mV23).heap[Z]? = _ from HYV22.out)
    clear HRV22 HXV22 HBV22 HYV22
    generalize V22.drewN mV23 = V23 at *
    try simp only [Act.put, List.setIfInBounds_toArray, List.set_cons_zero, List.set_cons_succ]
    refine wpAnyH_take (i := 16) (oi := ⟨some 51, _, _, _, _, _⟩) (v := .int .i64 (sgn x25)) rfl (by kernel_rfl) (by kernel_rfl) (by kernel_rfl) (fun _ _ _ h => h) (Or.inl ⟨by rfl, fun w' hw' => ?_⟩) (by assumption) ?_
    · skip
      clear hHeld
      go_simp
    try simp only [Act.put, List.setIfInBounds_toArray, List.set_cons_zero, List.set_cons_succ]
    refine wpAnyH_take (i := 17) (oi := ⟨some 52, _, _, _, _, _⟩) (v := .agg #[.int .u64 (g : Int), .int .u8 (a : Int), .int .i64 (sgn x9), .int .i64 (sgn x17), .int .i64 (sgn x25)]) rfl (by kernel_rfl) (by kernel_rfl) (by kernel_rfl) (fun _ _ _ h => h) (Or.inl ⟨by rfl, fun w' hw' => ?_⟩) (by assumption) ?_
    · skip
      clear hHeld
      go_simp
    try simp only [Act.put, List.setIfInBounds_toArray, List.set_cons_zero, List.set_cons_succ]
    refine wpAnyH_ready (rs := [19]) (by kernel_rfl) (by simp) (AllReadyH.cons rfl (fun K hK => ?_) AllReadyH.nil)
    obtain ⟨y0, y1, y2, y3, y4⟩ := mcells HYV23.out
    obtain ⟨z0, z1, z2, z3, z4⟩ := mfree HYV23.out
    have HYV24 := Lib.hid (mstored (a' := .int .u64 (g : Int)) (b' := .int .u8 (a : Int)) (c' := .int .i64 (sgn x9)) (d' := .int .i64 (sgn x17)) (e' := .int .i64 (sgn x25)) HYV23.out)
    have HBV24 := Lib.hid (mkept HBV23.out HZ.out.2.2 (.int .u64 (g : Int)) (.int .u8 (a : Int)) (.int .i64 (sgn x9)) (.int .i64 (sgn x17)) (.int .i64 (sgn x25)))
    have HRV24 := Lib.hid (mother (a' := .int .u64 (g : Int)) (b' := .int .u8 (a : Int)) (c' := .int .i64 (sgn x9)) (d' := .int .i64 (sgn x17)) (e' := .int .i64 (sgn x25)) HRV23.out (by have := HZ.out; omega : X ≠ Z))
    have HXV24 := Lib.hid (mother (a' := .int .u64 (g : Int)) (b' := .int .u8 (a : Int)) (c' := .int .i64 (sgn x9)) (d' := .int .i64 (sgn x17)) (e' := .int .i64 (sgn x25)) HXV23.out (by have := HZ.out; omega : X + 1 ≠ Z))
    go_simp
    refine hK.out _ _ HBV24 (fun hHeld2 => ?_)
    clear hK K hHeld hHeld2
    clear y0 y1 y2 y3 y4 z0 z1 z2 z3 z4 HYV23 HRV23 HXV23 HBV23
    generalize (((((V23.setCell ⟨Z, 0, none⟩ (.int .u64 (g : Int))).setCell ⟨Z, 1, none⟩ (.int .u8 (a : Int))).setCell ⟨Z, 2, none⟩ (.int .i64 (sgn x9))).setCell ⟨Z, 3, none⟩ (.int .i64 (sgn x17))).setCell ⟨Z, 4, none⟩ (.int .i64 (sgn x25))) = V24 at *
    refine wpAnyH_done (by kernel_rfl) ?_ _
    obtain ⟨y0, y1, y2, y3, y4⟩ := mcells HYV24.out
    go_wp2_with fail
    refine (mrgood_any (g : Int) (a : Int) (sgn x9) (sgn x17) (sgn x25) _).mono ?_
    rw [hgm]
    rintro e w8 ⟨rfl, hb8⟩
    have HR8 := Lib.hid (block_later HRV24.out hb8)
    have HX8 := Lib.hid (block_later HXV24.out hb8)
    have HY8 := Lib.hid (block_later HYV24.out hb8)
    have HB8 := Lib.hid (HBV24.out.trans (hb8.mono HBV24.out.size))
    clear hb8 HRV24 HXV24 HYV24 HBV24 y0 y1 y2 y3 y4
    obtain ⟨y0, y1, y2, y3, y4⟩ := mcells HY8.out
    obtain ⟨r0, r1, r2, r3, r4⟩ := mcells HR8.out
    obtain ⟨q0, q1, q2, q3, q4⟩ := mfree HR8.out
    have HF := Lib.hid (mstored (a' := .int .u64 (g : Int)) (b' := .int .u8 (a : Int)) (c' := .int .i64 (sgn x9)) (d' := .int .i64 (sgn x17)) (e' := .int .i64 (sgn x25)) HR8.out)
    have HG := Lib.hid (mkept HB8.out (Nat.le_of_eq HX.out) (.int .u64 (g : Int)) (.int .u8 (a : Int)) (.int .i64 (sgn x9)) (.int .i64 (sgn x17)) (.int .i64 (sgn x25)))
    go_wp2_with fail
    refine bodyPost_ret (v := .tuple #[.agg #[.int .u64 (g : Int), .int .u8 (a : Int), .int .i64 (sgn x9), .int .i64 (sgn x17), .int .i64 (sgn x25)], .int .i64 0]) ?_ rfl ⟨rfl, HG.out⟩
    exact results_mm rfl _ _ X _ rfl _ rfl rfl HF.out
theorem mrdec_any (p : Option Addr) (n c : Nat) (L : List Nat) (w : World) (hS : Sl w p n c L) (hc : c ≤ maxLen) (hn : n ≤ 1000000) :
    Calls Tryd.prog 11 #[.slice p n c] w (GivesMM w (dV L) (dE L)) := by
  by_cases h45 : n < 45
  · exact mrdec_short p n c L w hS hc hn h45
  · obtain ⟨b, off, rfl, _⟩ := hS.cell (by omega)
    by_cases ht : un (L.take 8) = dH L
    · by_cases hs : sumL (L.take 33) = dS L
      · cases hg : goodM (dM L) with
        | true => exact mrdec_ok b off n c L w hS hc hn h45 ht hs hg
        | false => exact mrdec_form b off n c L w hS hc hn h45 ht hs hg
      · exact mrdec_sum b off n c L w hS hc hn h45 ht hs
    · exact mrdec_torn b off n c L w hS hc hn h45 ht
end Go.Proofs.YtppmokkbepihhaaDoor
