/- The first bytes of a block, by the document. -/
import Derived.Test.YtdkpjaobfohdfaaDiskRefDo
import Derived.Deep.RegionHeld3
import Derived.StillTailTactics
namespace Go.Proofs.Ytdkpjaobfohdfaa
open Go.RowKit Go.ChangeShapes Go.WideShapes
set_option linter.unusedVariables false
set_option maxRecDepth 10000
set_option linter.unusedSimpArgs false

set_option maxHeartbeats 2000000 in
theorem rdo_tear (p tp : Option Addr) (c tc n s z : Nat) (V : List (List Int)) (t : TS) (i x nn : Int) (q : Option Addr) (m cq : Nat) (b : List Int) (w : World) (Q : Nat → Prop) (hQ : ∀ k, w.heap.size ≤ k → Q k) (hV : RV w Q p c s V) (hn : V.length = n) (hn4 : n ≤ 1024) (hs4 : s ≤ 4096) (hT : Rt w tp tc t.B) (htq : 0 < t.B.length → ∀ a, tp = some a → Q a.block) (hb : BL w q m cq b) (hx : 0 ≤ x) :
    Calls Try.prog 46 #[.agg #[.slice p n c, .int .i64 (s : Nat)], .agg #[.slice tp t.B.length tc, .int .i64 (t.f * z : Nat), .int .i64 (z : Nat)], .agg #[.int .i64 0, .int .i64 i, .slice q m cq, .int .i64 nn], .int .i64 x] w (RdDo w Q s z n (tearV s V i b (kp x s)) t) := by
  obtain ⟨W1, hW1, h0, h1, h2, h3, h4, hbw, hsz⟩ := five_boxes w #[.slice p n c, .int .i64 (s : Nat)] #[.slice tp t.B.length tc, .int .i64 (t.f * z : Nat), .int .i64 (z : Nat)] #[.int .i64 0, .int .i64 i, .slice q m cq, .int .i64 nn] #[.slice none 0 0, .int .i64 0] #[.slice none 0 0, .int .i64 0, .int .i64 0] 30 33 67 30 33
  have HW1 := Lib.hid hW1
  have HTT : Hid (Rt W1 tp tc t.B) := Lib.hid (hT.later hbw)
  have HTQ : Hid (0 < t.B.length → ∀ a, tp = some a → Q a.block ∧ a.block ≠ w.heap.size + 1 + 1 + 1 ∧ a.block ≠ w.heap.size + 1 + 1 + 1 + 1) := Lib.hid fun h0 a ha => by
    have h1 := htq h0 a ha
    have h2 := hT.lt h0 a ha
    exact ⟨h1, by omega, by omega⟩
  have HP := Lib.hid (reftear_any p c n s V i x q m cq b W1 (fun k => Q k ∧ k ≠ w.heap.size + 1 + 1 + 1 ∧ k ≠ w.heap.size + 1 + 1 + 1 + 1) (fun k hk => ⟨hQ k (by have := hbw.size; omega), by omega, by omega⟩) ((hV.mono (fun k hk hl => ⟨hk, by omega, by omega⟩)).later hbw) hn hn4 hs4 (SlG.later hb hbw))
  have H1 := Lib.hid h1
  have H3 := Lib.hid h3
  have H4 := Lib.hid h4
  have HBW := Lib.hid hbw
  have HSZ := Lib.hid hsz
  have hd : decide (x < 0) = false := decide_eq_false (by omega)
  have HTN := Lib.hid (rfl : t.B.length = t.B.length)
  have HTF := Lib.hid (rfl : t.f * z = t.f * z)
  clear hW1 h0 h1 h2 h3 h4 hbw hsz hT htq hb hV hn
  generalize hn1 : t.B.length = n1 at *
  generalize hF1 : t.f * z = F1 at *
  have HN1 := Lib.hid hn1
  have HF1 := Lib.hid hF1
  clear hn1 hF1
  go_enter Try.func46, Try.ntmps46
  go_wp2_with fail
  rw [← HW1.out]
  refine HP.out.mono ?_
  rintro e w2 ⟨p', c', rfl, hv2, hb2⟩
  have hb3 : Below w2.heap.size w2 (w2.alloc (.cells #[.slice p' n c', .int .i64 (s : Nat)] 30)) := (Below.refl _ _).alloc (Nat.le_refl _) _
  have hb13 := hb2.trans (hb3.mono hb2.size)
  have hX := alloc_block w2 (.cells #[.slice p' n c', .int .i64 (s : Nat)] 30)
  have hT3 := block_later H1.out hb13
  have hR0 := block_later H3.out hb13
  have hR1 := block_later H4.out hb13
  have HV3 := Lib.hid (hv2.later hb3)
  have HT3 := Lib.hid (HTT.out.later hb13)
  have HB3 := Lib.hid (HBW.out.trans (hb13.mono HBW.out.size))
  clear HW1 HP HTT H1 H3 H4 HBW HSZ hv2 hb2 hb3 hb13
  go_wp2_with fail
  generalize w2.alloc (.cells #[.slice p' n c', .int .i64 (s : Nat)] 30) = W3 at *
  generalize w2.heap.size = X at *
  have HA := Lib.hid (two_done (.slice p' n c') (.int .i64 (s : Nat)) (.slice tp n1 tc) (.int .i64 (F1 : Nat)) (.int .i64 (z : Nat)) hR0 hR1 (by omega))
  have HB := Lib.hid (two_done' (.slice p' n c') (.int .i64 (s : Nat)) (.slice tp n1 tc) (.int .i64 (F1 : Nat)) (.int .i64 (z : Nat)) hR0 hR1 (by omega))
  have a0 := block_cell (j := 0) hX (v := .slice p' n c') rfl
  have a1 := block_cell (j := 1) hX (v := .int .i64 (s : Nat)) rfl
  have b0 := block_cell (j := 0) hT3 (v := .slice tp n1 tc) rfl
  have b1 := block_cell (j := 1) hT3 (v := .int .i64 (F1 : Nat)) rfl
  have b2 := block_cell (j := 2) hT3 (v := .int .i64 (z : Nat)) rfl
  have c0 := block_cell (j := 0) hR0 (v := .slice none 0 0) rfl
  have c1 := block_cell (j := 1) hR0 (v := .int .i64 0) rfl
  have d0 := block_cell (j := 0) hR1 (v := .slice none 0 0) rfl
  have d1 := block_cell (j := 1) hR1 (v := .int .i64 0) rfl
  have d2 := block_cell (j := 2) hR1 (v := .int .i64 0) rfl
  have e0 := block_free 0 hR0
  have e1 := block_free 1 hR0
  have f0 := block_free 0 hR1
  have f1 := block_free 1 hR1
  have f2 := block_free 2 hR1
  clear hX hT3 hR0 hR1
  have HE : Hid (∀ W', Chg (fun k => k = w.heap.size + 1 + 1 + 1 ∨ k = w.heap.size + 1 + 1 + 1 + 1) W3 W' → RdDo w Q s z n (tearV s V i b (kp x s)) t (.returned (.tuple #[.agg #[.slice p' n c', .int .i64 (s : Nat)], .agg #[.slice tp n1 tc, .int .i64 (F1 : Nat), .int .i64 (z : Nat)]])) W') := Lib.hid fun W' hc =>
    rdo_end hc HB3.out (by omega) (by omega) HV3.out HT3.out (fun h0 => HTQ.out (by have := HN1.out; omega)) HN1.out HF1.out
  go_region
  all_goals go_wp2_with fail
  all_goals
    refine bodyPost_ret (v := .tuple #[.agg #[.slice p' n c', .int .i64 (s : Nat)], .agg #[.slice tp n1 tc, .int .i64 (F1 : Nat), .int .i64 (z : Nat)]]) ?_ rfl ?_
    · first
        | exact results_two rfl _ _ (w.heap.size + 1 + 1 + 1) (w.heap.size + 1 + 1 + 1 + 1) _ _ rfl rfl HA.out.1 HA.out.2.1 rfl rfl
        | exact results_two rfl _ _ (w.heap.size + 1 + 1 + 1) (w.heap.size + 1 + 1 + 1 + 1) _ _ rfl rfl HB.out.1 HB.out.2.1 rfl rfl
    · first
        | exact HE.out _ HA.out.2.2
        | exact HE.out _ HB.out.2.2
        | exact HE.out _ (HA.out.2.2.drewN 1)
        | exact HE.out _ (HB.out.2.2.drewN 1)
end Go.Proofs.Ytdkpjaobfohdfaa
