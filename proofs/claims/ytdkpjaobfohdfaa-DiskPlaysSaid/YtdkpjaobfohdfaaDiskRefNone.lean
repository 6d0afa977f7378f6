/- The first bytes of a drop, of a cut, by the document: nothing. -/
import Derived.Test.YtdkpjaobfohdfaaDiskRefTape
import Derived.Deep.RegionHeld3
import Derived.StillTailTactics
namespace Go.Proofs.Ytdkpjaobfohdfaa
open Go.RowKit Go.ChangeShapes Go.WideShapes
set_option linter.unusedVariables false
set_option maxRecDepth 10000
set_option linter.unusedSimpArgs false

set_option maxHeartbeats 2000000 in
theorem rdo_nodrop (p tp : Option Addr) (c tc n s z : Nat) (V : List (List Int)) (t : TS) (i x nn : Int) (q : Option Addr) (m cq : Nat) (b : List Int) (w : World) (Q : Nat → Prop) (hQ : ∀ k, w.heap.size ≤ k → Q k) (hV : RV w Q p c s V) (hn : V.length = n) (hT : Rt w tp tc t.B) (htq : 0 < t.B.length → ∀ a, tp = some a → Q a.block) (hb : BL w q m cq b) (hx : 0 ≤ x) :
    Calls Try.prog 46 #[.agg #[.slice p n c, .int .i64 (s : Nat)], .agg #[.slice tp t.B.length tc, .int .i64 (t.f * z : Nat), .int .i64 (z : Nat)], .agg #[.int .i64 2, .int .i64 i, .slice q m cq, .int .i64 nn], .int .i64 x] w (RdDo w Q s z n V t) := by
  obtain ⟨W1, hW1, h0, h1, h2, h3, h4, hbw, hsz⟩ := five_boxes w #[.slice p n c, .int .i64 (s : Nat)] #[.slice tp t.B.length tc, .int .i64 (t.f * z : Nat), .int .i64 (z : Nat)] #[.int .i64 2, .int .i64 i, .slice q m cq, .int .i64 nn] #[.slice none 0 0, .int .i64 0] #[.slice none 0 0, .int .i64 0, .int .i64 0] 30 33 67 30 33
  have HW1 := Lib.hid hW1
  have HTQ : Hid (0 < t.B.length → ∀ a, tp = some a → Q a.block ∧ a.block ≠ w.heap.size + 1 + 1 + 1 ∧ a.block ≠ w.heap.size + 1 + 1 + 1 + 1) := Lib.hid fun h0 a ha => by
    have h1 := htq h0 a ha
    have h2 := hT.lt h0 a ha
    exact ⟨h1, by omega, by omega⟩
  have HV1 := Lib.hid ((hV.mono (T := fun k => Q k ∧ k ≠ w.heap.size + 1 + 1 + 1 ∧ k ≠ w.heap.size + 1 + 1 + 1 + 1) (fun k hk hl => ⟨hk, by omega, by omega⟩)).later hbw)
  have hT1 := hT.later hbw
  have hbl := SlG.later hb hbw
  have hd : decide (x < 0) = false := decide_eq_false (by omega)
  have HS : Hid (∀ w', Chg (fun k => k = w.heap.size + 1 + 1 + 1 ∨ k = w.heap.size + 1 + 1 + 1 + 1) W1 w' → w'.cell? ⟨w.heap.size, 0, none⟩ = some (.slice p n c) ∧ w'.cell? ⟨w.heap.size, 1, none⟩ = some (.int .i64 (s : Nat)) ∧ w'.cell? ⟨w.heap.size + 1, 0, none⟩ = some (.slice tp t.B.length tc) ∧ w'.cell? ⟨w.heap.size + 1, 1, none⟩ = some (.int .i64 (t.f * z : Nat)) ∧ w'.cell? ⟨w.heap.size + 1, 2, none⟩ = some (.int .i64 (z : Nat)) ∧ w'.cell? ⟨w.heap.size + 1 + 1, 3, none⟩ = some (.int .i64 nn)) := Lib.hid fun w' hc => by
    have g0 := (hc.block _ (block_lt h0) (by omega)).trans h0
    have g1 := (hc.block _ (block_lt h1) (by omega)).trans h1
    have g2 := (hc.block _ (block_lt h2) (by omega)).trans h2
    exact ⟨block_cell (j := 0) g0 rfl, block_cell (j := 1) g0 rfl, block_cell (j := 0) g1 rfl, block_cell (j := 1) g1 rfl, block_cell (j := 2) g1 rfl, block_cell (j := 3) g2 rfl⟩
  have H3 := Lib.hid h3
  have H4 := Lib.hid h4
  have HBW := Lib.hid hbw
  have HT1 := Lib.hid hT1
  clear hW1 h0 h1 h2 h3 h4 hbw hT htq hb hV hn hsz hT1 hbl
  generalize hn1 : t.B.length = n1 at HS HW1 ⊢
  generalize hF1 : t.f * z = F1 at HS HW1 ⊢
  have HN1 := Lib.hid hn1
  have HF1 := Lib.hid hF1
  clear hn1 hF1
  go_enter Try.func46, Try.ntmps46
  go_wp2_with fail
  rw [← HW1.out]
  obtain ⟨a0, a1, b0, b1, b2, b3⟩ := HS.out W1 (Chg.refl _ _)
  have c0 := block_cell (j := 0) H3.out (v := .slice none 0 0) rfl
  have c1 := block_cell (j := 1) H3.out (v := .int .i64 0) rfl
  have e0 := block_free 0 H3.out
  have e1 := block_free 1 H3.out
  have HA := Lib.hid (two_done (.slice p n c) (.int .i64 (s : Nat)) (.slice tp n1 tc) (.int .i64 (F1 : Nat)) (.int .i64 (z : Nat)) H3.out H4.out (by omega))
  have HB := Lib.hid (two_done' (.slice p n c) (.int .i64 (s : Nat)) (.slice tp n1 tc) (.int .i64 (F1 : Nat)) (.int .i64 (z : Nat)) H3.out H4.out (by omega))
  have d0 := block_cell (j := 0) H4.out (v := .slice none 0 0) rfl
  have d1 := block_cell (j := 1) H4.out (v := .int .i64 0) rfl
  have d2 := block_cell (j := 2) H4.out (v := .int .i64 0) rfl
  have f0 := block_free 0 H4.out
  have f1 := block_free 1 H4.out
  have f2 := block_free 2 H4.out
  have HE : Hid (∀ W', Chg (fun k => k = w.heap.size + 1 + 1 + 1 ∨ k = w.heap.size + 1 + 1 + 1 + 1) W1 W' → RdDo w Q s z n V t (.returned (.tuple #[.agg #[.slice p n c, .int .i64 (s : Nat)], .agg #[.slice tp n1 tc, .int .i64 (F1 : Nat), .int .i64 (z : Nat)]])) W') := Lib.hid fun W' hc =>
    rdo_end hc HBW.out (by omega) (by omega) HV1.out HT1.out HTQ.out HN1.out HF1.out
  go_region
  all_goals go_wp2_with fail
  all_goals
    refine bodyPost_ret (v := .tuple #[.agg #[.slice p n c, .int .i64 (s : Nat)], .agg #[.slice tp n1 tc, .int .i64 (F1 : Nat), .int .i64 (z : Nat)]]) ?_ rfl ?_
    · first
        | exact results_two rfl _ _ (w.heap.size + 1 + 1 + 1) (w.heap.size + 1 + 1 + 1 + 1) _ _ rfl rfl HA.out.1 HA.out.2.1 rfl rfl
        | exact results_two rfl _ _ (w.heap.size + 1 + 1 + 1) (w.heap.size + 1 + 1 + 1 + 1) _ _ rfl rfl HB.out.1 HB.out.2.1 rfl rfl
    · first
        | exact HE.out _ HA.out.2.2
        | exact HE.out _ HB.out.2.2
        | exact HE.out _ (HA.out.2.2.drewN 1)
        | exact HE.out _ (HB.out.2.2.drewN 1)
set_option maxHeartbeats 2000000 in
theorem rdo_nocut (p tp : Option Addr) (c tc n s z : Nat) (V : List (List Int)) (t : TS) (i x nn : Int) (q : Option Addr) (m cq : Nat) (b : List Int) (w : World) (Q : Nat → Prop) (hQ : ∀ k, w.heap.size ≤ k → Q k) (hV : RV w Q p c s V) (hn : V.length = n) (hT : Rt w tp tc t.B) (htq : 0 < t.B.length → ∀ a, tp = some a → Q a.block) (hb : BL w q m cq b) (hx : 0 ≤ x) :
    Calls Try.prog 46 #[.agg #[.slice p n c, .int .i64 (s : Nat)], .agg #[.slice tp t.B.length tc, .int .i64 (t.f * z : Nat), .int .i64 (z : Nat)], .agg #[.int .i64 3, .int .i64 i, .slice q m cq, .int .i64 nn], .int .i64 x] w (RdDo w Q s z n V t) := by
  obtain ⟨W1, hW1, h0, h1, h2, h3, h4, hbw, hsz⟩ := five_boxes w #[.slice p n c, .int .i64 (s : Nat)] #[.slice tp t.B.length tc, .int .i64 (t.f * z : Nat), .int .i64 (z : Nat)] #[.int .i64 3, .int .i64 i, .slice q m cq, .int .i64 nn] #[.slice none 0 0, .int .i64 0] #[.slice none 0 0, .int .i64 0, .int .i64 0] 30 33 67 30 33
  have HW1 := Lib.hid hW1
  have HTQ : Hid (0 < t.B.length → ∀ a, tp = some a → Q a.block ∧ a.block ≠ w.heap.size + 1 + 1 + 1 ∧ a.block ≠ w.heap.size + 1 + 1 + 1 + 1) := Lib.hid fun h0 a ha => by
    have h1 := htq h0 a ha
    have h2 := hT.lt h0 a ha
    exact ⟨h1, by omega, by omega⟩
  have HV1 := Lib.hid ((hV.mono (T := fun k => Q k ∧ k ≠ w.heap.size + 1 + 1 + 1 ∧ k ≠ w.heap.size + 1 + 1 + 1 + 1) (fun k hk hl => ⟨hk, by omega, by omega⟩)).later hbw)
  have hT1 := hT.later hbw
  have hbl := SlG.later hb hbw
  have hd : decide (x < 0) = false := decide_eq_false (by omega)
  have HS : Hid (∀ w', Chg (fun k => k = w.heap.size + 1 + 1 + 1 ∨ k = w.heap.size + 1 + 1 + 1 + 1) W1 w' → w'.cell? ⟨w.heap.size, 0, none⟩ = some (.slice p n c) ∧ w'.cell? ⟨w.heap.size, 1, none⟩ = some (.int .i64 (s : Nat)) ∧ w'.cell? ⟨w.heap.size + 1, 0, none⟩ = some (.slice tp t.B.length tc) ∧ w'.cell? ⟨w.heap.size + 1, 1, none⟩ = some (.int .i64 (t.f * z : Nat)) ∧ w'.cell? ⟨w.heap.size + 1, 2, none⟩ = some (.int .i64 (z : Nat)) ∧ w'.cell? ⟨w.heap.size + 1 + 1, 3, none⟩ = some (.int .i64 nn)) := Lib.hid fun w' hc => by
    have g0 := (hc.block _ (block_lt h0) (by omega)).trans h0
    have g1 := (hc.block _ (block_lt h1) (by omega)).trans h1
    have g2 := (hc.block _ (block_lt h2) (by omega)).trans h2
    exact ⟨block_cell (j := 0) g0 rfl, block_cell (j := 1) g0 rfl, block_cell (j := 0) g1 rfl, block_cell (j := 1) g1 rfl, block_cell (j := 2) g1 rfl, block_cell (j := 3) g2 rfl⟩
  have H3 := Lib.hid h3
  have H4 := Lib.hid h4
  have HBW := Lib.hid hbw
  have HT1 := Lib.hid hT1
  clear hW1 h0 h1 h2 h3 h4 hbw hT htq hb hV hn hsz hT1 hbl
  generalize hn1 : t.B.length = n1 at HS HW1 ⊢
  generalize hF1 : t.f * z = F1 at HS HW1 ⊢
  have HN1 := Lib.hid hn1
  have HF1 := Lib.hid hF1
  clear hn1 hF1
  go_enter Try.func46, Try.ntmps46
  go_wp2_with fail
  rw [← HW1.out]
  obtain ⟨a0, a1, b0, b1, b2, b3⟩ := HS.out W1 (Chg.refl _ _)
  have c0 := block_cell (j := 0) H3.out (v := .slice none 0 0) rfl
  have c1 := block_cell (j := 1) H3.out (v := .int .i64 0) rfl
  have e0 := block_free 0 H3.out
  have e1 := block_free 1 H3.out
  have HA := Lib.hid (two_done (.slice p n c) (.int .i64 (s : Nat)) (.slice tp n1 tc) (.int .i64 (F1 : Nat)) (.int .i64 (z : Nat)) H3.out H4.out (by omega))
  have HB := Lib.hid (two_done' (.slice p n c) (.int .i64 (s : Nat)) (.slice tp n1 tc) (.int .i64 (F1 : Nat)) (.int .i64 (z : Nat)) H3.out H4.out (by omega))
  have d0 := block_cell (j := 0) H4.out (v := .slice none 0 0) rfl
  have d1 := block_cell (j := 1) H4.out (v := .int .i64 0) rfl
  have d2 := block_cell (j := 2) H4.out (v := .int .i64 0) rfl
  have f0 := block_free 0 H4.out
  have f1 := block_free 1 H4.out
  have f2 := block_free 2 H4.out
  have HE : Hid (∀ W', Chg (fun k => k = w.heap.size + 1 + 1 + 1 ∨ k = w.heap.size + 1 + 1 + 1 + 1) W1 W' → RdDo w Q s z n V t (.returned (.tuple #[.agg #[.slice p n c, .int .i64 (s : Nat)], .agg #[.slice tp n1 tc, .int .i64 (F1 : Nat), .int .i64 (z : Nat)]])) W') := Lib.hid fun W' hc =>
    rdo_end hc HBW.out (by omega) (by omega) HV1.out HT1.out HTQ.out HN1.out HF1.out
  go_region
  all_goals go_wp2_with fail
  all_goals
    refine bodyPost_ret (v := .tuple #[.agg #[.slice p n c, .int .i64 (s : Nat)], .agg #[.slice tp n1 tc, .int .i64 (F1 : Nat), .int .i64 (z : Nat)]]) ?_ rfl ?_
    · first
        | exact results_two rfl _ _ (w.heap.size + 1 + 1 + 1) (w.heap.size + 1 + 1 + 1 + 1) _ _ rfl rfl HA.out.1 HA.out.2.1 rfl rfl
        | exact results_two rfl _ _ (w.heap.size + 1 + 1 + 1) (w.heap.size + 1 + 1 + 1 + 1) _ _ rfl rfl HB.out.1 HB.out.2.1 rfl rfl
    · first
        | exact HE.out _ HA.out.2.2
        | exact HE.out _ HB.out.2.2
        | exact HE.out _ (HA.out.2.2.drewN 1)
        | exact HE.out _ (HB.out.2.2.drewN 1)
end Go.Proofs.Ytdkpjaobfohdfaa
