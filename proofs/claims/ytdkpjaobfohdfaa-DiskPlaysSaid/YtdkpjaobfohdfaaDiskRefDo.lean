/- A write done by the document, whole or its first bytes: a block. -/
import Derived.Test.YtdkpjaobfohdfaaDiskRefKit
import Derived.Deep.RegionHeld3
import Derived.StillTailTactics
namespace Go.Proofs.Ytdkpjaobfohdfaa
open Go.RowKit Go.ChangeShapes Go.WideShapes
set_option linter.unusedVariables false
set_option maxRecDepth 10000
set_option linter.unusedSimpArgs false

/-- What a call that hands back the document's two parts says. -/
def RdDo (w : World) (Q : Nat → Prop) (s z n : Nat) (V : List (List Int)) (t : TS) (e : Ending) (w' : World) : Prop :=
  ∃ p c tp tc, e = .returned (.tuple #[.agg #[.slice p n c, .int .i64 (s : Nat)], .agg #[.slice tp t.B.length tc, .int .i64 (t.f * z : Nat), .int .i64 (z : Nat)]]) ∧ RV w' Q p c s V ∧ Rt w' tp tc t.B ∧ (0 < t.B.length → ∀ a, tp = some a → Q a.block) ∧ Below w.heap.size w w'
/-- Its end: both results lie in their blocks. -/
theorem rdo_end {w W2 W' : World} {Q : Nat → Prop} {s z n : Nat} {V : List (List Int)} {t : TS} {p tp : Option Addr} {c tc R0 R1 n1 F1 : Nat} (hc : Chg (fun k => k = R0 ∨ k = R1) W2 W') (hb : Below w.heap.size w W2) (hr0 : w.heap.size ≤ R0) (hr1 : w.heap.size ≤ R1)
    (hv : RV W2 (fun k => Q k ∧ k ≠ R0 ∧ k ≠ R1) p c s V) (ht : Rt W2 tp tc t.B) (htq : 0 < t.B.length → ∀ a, tp = some a → Q a.block ∧ a.block ≠ R0 ∧ a.block ≠ R1) (hn1 : t.B.length = n1) (hF1 : t.f * z = F1) : RdDo w Q s z n V t (.returned (.tuple #[.agg #[.slice p n c, .int .i64 (s : Nat)], .agg #[.slice tp n1 tc, .int .i64 (F1 : Nat), .int .i64 (z : Nat)]])) W' := by
  subst hn1
  subst hF1
  exact ⟨p, c, tp, tc, rfl, (hv.keep hc fun k hk hs => by omega).mono fun k hk _ => hk.1, ht.keep hc fun h0 a ha hs => by have := htq h0 a ha; omega, fun h0 a ha => (htq h0 a ha).1, hc.below hb hb.size fun k hk => by omega⟩
/-- Both results written, in two orders. -/
theorem two_done {W : World} {R0 R1 : Nat} {u0 u1 v0 v1 v2 : Value} (x0 x1 y0 y1 y2 : Value) (h0 : W.heap[R0]? = some (.cells #[u0, u1] 30 (0, 0))) (h1 : W.heap[R1]? = some (.cells #[v0, v1, v2] 33 (0, 0))) (hne : R0 ≠ R1) :
    (((((W.setCell ⟨R0, 0, none⟩ x0).setCell ⟨R0, 1, none⟩ x1).setCell ⟨R1, 0, none⟩ y0).setCell ⟨R1, 1, none⟩ y1).setCell ⟨R1, 2, none⟩ y2).heap[R0]? = some (.cells #[x0, x1] 30 (0, 0)) ∧
    (((((W.setCell ⟨R0, 0, none⟩ x0).setCell ⟨R0, 1, none⟩ x1).setCell ⟨R1, 0, none⟩ y0).setCell ⟨R1, 1, none⟩ y1).setCell ⟨R1, 2, none⟩ y2).heap[R1]? = some (.cells #[y0, y1, y2] 33 (0, 0)) ∧
    Chg (fun k => k = R0 ∨ k = R1) W (((((W.setCell ⟨R0, 0, none⟩ x0).setCell ⟨R0, 1, none⟩ x1).setCell ⟨R1, 0, none⟩ y0).setCell ⟨R1, 1, none⟩ y1).setCell ⟨R1, 2, none⟩ y2) := by
  have ha : Chg (fun k => k = R0) W ((W.setCell ⟨R0, 0, none⟩ x0).setCell ⟨R0, 1, none⟩ x1) := ((Chg.refl (fun k => k = R0) W).setCell ⟨R0, 0, none⟩ _ fun _ => rfl).setCell ⟨R0, 1, none⟩ _ fun _ => rfl
  have hb : Chg (fun k => k = R1) ((W.setCell ⟨R0, 0, none⟩ x0).setCell ⟨R0, 1, none⟩ x1) (((((W.setCell ⟨R0, 0, none⟩ x0).setCell ⟨R0, 1, none⟩ x1).setCell ⟨R1, 0, none⟩ y0).setCell ⟨R1, 1, none⟩ y1).setCell ⟨R1, 2, none⟩ y2) := (((Chg.refl (fun k => k = R1) _).setCell ⟨R1, 0, none⟩ _ fun _ => rfl).setCell ⟨R1, 1, none⟩ _ fun _ => rfl).setCell ⟨R1, 2, none⟩ _ fun _ => rfl
  have g0 : ((W.setCell ⟨R0, 0, none⟩ x0).setCell ⟨R0, 1, none⟩ x1).heap[R0]? = some (.cells #[x0, x1] 30 (0, 0)) := block_put 1 _ (block_put 0 _ h0)
  have g1 : ((W.setCell ⟨R0, 0, none⟩ x0).setCell ⟨R0, 1, none⟩ x1).heap[R1]? = some (.cells #[v0, v1, v2] 33 (0, 0)) := (ha.block R1 (block_lt h1) (fun e => hne e.symm)).trans h1
  exact ⟨(hb.block R0 (block_lt g0) hne).trans g0, block_put 2 _ (block_put 1 _ (block_put 0 _ g1)), (ha.mono fun _ _ h => Or.inl h).trans hb fun _ _ h => Or.inr h⟩
theorem two_done' {W : World} {R0 R1 : Nat} {u0 u1 v0 v1 v2 : Value} (x0 x1 y0 y1 y2 : Value) (h0 : W.heap[R0]? = some (.cells #[u0, u1] 30 (0, 0))) (h1 : W.heap[R1]? = some (.cells #[v0, v1, v2] 33 (0, 0))) (hne : R0 ≠ R1) :
    (((((W.setCell ⟨R1, 0, none⟩ y0).setCell ⟨R1, 1, none⟩ y1).setCell ⟨R1, 2, none⟩ y2).setCell ⟨R0, 0, none⟩ x0).setCell ⟨R0, 1, none⟩ x1).heap[R0]? = some (.cells #[x0, x1] 30 (0, 0)) ∧
    (((((W.setCell ⟨R1, 0, none⟩ y0).setCell ⟨R1, 1, none⟩ y1).setCell ⟨R1, 2, none⟩ y2).setCell ⟨R0, 0, none⟩ x0).setCell ⟨R0, 1, none⟩ x1).heap[R1]? = some (.cells #[y0, y1, y2] 33 (0, 0)) ∧
    Chg (fun k => k = R0 ∨ k = R1) W (((((W.setCell ⟨R1, 0, none⟩ y0).setCell ⟨R1, 1, none⟩ y1).setCell ⟨R1, 2, none⟩ y2).setCell ⟨R0, 0, none⟩ x0).setCell ⟨R0, 1, none⟩ x1) := by
  have ha : Chg (fun k => k = R1) W (((W.setCell ⟨R1, 0, none⟩ y0).setCell ⟨R1, 1, none⟩ y1).setCell ⟨R1, 2, none⟩ y2) := (((Chg.refl (fun k => k = R1) _).setCell ⟨R1, 0, none⟩ _ fun _ => rfl).setCell ⟨R1, 1, none⟩ _ fun _ => rfl).setCell ⟨R1, 2, none⟩ _ fun _ => rfl
  have hb : Chg (fun k => k = R0) (((W.setCell ⟨R1, 0, none⟩ y0).setCell ⟨R1, 1, none⟩ y1).setCell ⟨R1, 2, none⟩ y2) (((((W.setCell ⟨R1, 0, none⟩ y0).setCell ⟨R1, 1, none⟩ y1).setCell ⟨R1, 2, none⟩ y2).setCell ⟨R0, 0, none⟩ x0).setCell ⟨R0, 1, none⟩ x1) := ((Chg.refl (fun k => k = R0) _).setCell ⟨R0, 0, none⟩ _ fun _ => rfl).setCell ⟨R0, 1, none⟩ _ fun _ => rfl
  have g1 : (((W.setCell ⟨R1, 0, none⟩ y0).setCell ⟨R1, 1, none⟩ y1).setCell ⟨R1, 2, none⟩ y2).heap[R1]? = some (.cells #[y0, y1, y2] 33 (0, 0)) := block_put 2 _ (block_put 1 _ (block_put 0 _ h1))
  have g0 : (((W.setCell ⟨R1, 0, none⟩ y0).setCell ⟨R1, 1, none⟩ y1).setCell ⟨R1, 2, none⟩ y2).heap[R0]? = some (.cells #[u0, u1] 30 (0, 0)) := (ha.block R0 (block_lt h0) hne).trans h0
  exact ⟨block_put 1 _ (block_put 0 _ g0), (hb.block R1 (block_lt g1) (fun e => hne e.symm)).trans g1, (ha.mono fun _ _ h => Or.inr h).trans hb fun _ _ h => Or.inl h⟩
set_option maxHeartbeats 2000000 in
theorem rdo_put (p tp : Option Addr) (c tc n s z : Nat) (V : List (List Int)) (t : TS) (i x nn : Int) (q : Option Addr) (m cq : Nat) (b : List Int) (w : World) (Q : Nat → Prop) (hQ : ∀ k, w.heap.size ≤ k → Q k) (hV : RV w Q p c s V) (hn : V.length = n) (hn4 : n ≤ 1024) (hs4 : s ≤ 4096) (hT : Rt w tp tc t.B) (htq : 0 < t.B.length → ∀ a, tp = some a → Q a.block) (hb : BL w q m cq b) (hx : x < 0) :
    Calls Try.prog 46 #[.agg #[.slice p n c, .int .i64 (s : Nat)], .agg #[.slice tp t.B.length tc, .int .i64 (t.f * z : Nat), .int .i64 (z : Nat)], .agg #[.int .i64 0, .int .i64 i, .slice q m cq, .int .i64 nn], .int .i64 x] w (RdDo w Q s z n (tearV s V i b s) t) := by
  obtain ⟨W1, hW1, h0, h1, h2, h3, h4, hbw, hsz⟩ := five_boxes w #[.slice p n c, .int .i64 (s : Nat)] #[.slice tp t.B.length tc, .int .i64 (t.f * z : Nat), .int .i64 (z : Nat)] #[.int .i64 0, .int .i64 i, .slice q m cq, .int .i64 nn] #[.slice none 0 0, .int .i64 0] #[.slice none 0 0, .int .i64 0, .int .i64 0] 30 33 67 30 33
  have HW1 := Lib.hid hW1
  have HTT : Hid (Rt W1 tp tc t.B) := Lib.hid (hT.later hbw)
  have HTQ : Hid (0 < t.B.length → ∀ a, tp = some a → Q a.block ∧ a.block ≠ w.heap.size + 1 + 1 + 1 ∧ a.block ≠ w.heap.size + 1 + 1 + 1 + 1) := Lib.hid fun h0 a ha => by
    have h1 := htq h0 a ha
    have h2 := hT.lt h0 a ha
    exact ⟨h1, by omega, by omega⟩
  have HP := Lib.hid (refput_any p c n s V i q m cq b W1 (fun k => Q k ∧ k ≠ w.heap.size + 1 + 1 + 1 ∧ k ≠ w.heap.size + 1 + 1 + 1 + 1) (fun k hk => ⟨hQ k (by have := hbw.size; omega), by omega, by omega⟩) ((hV.mono (fun k hk hl => ⟨hk, by omega, by omega⟩)).later hbw) hn hn4 hs4 (SlG.later hb hbw))
  have H1 := Lib.hid h1
  have H3 := Lib.hid h3
  have H4 := Lib.hid h4
  have HBW := Lib.hid hbw
  have HSZ := Lib.hid hsz
  have hd : decide (x < 0) = true := decide_eq_true hx
  have HTN := Lib.hid (rfl : t.B.length = t.B.length)
  have HTF := Lib.hid (rfl : t.f * z = t.f * z)
  clear hW1 h0 h1 h2 h3 h4 hbw hsz hT htq hb hV hn
  generalize hn1 : t.B.length = n1 at *
  generalize hF1 : t.f * z = F1 at *
  have HN1 := Lib.hid hn1
  have HF1 := Lib.hid hF1
  clear hn1 hF1
  go_enter Try.func46, Try.ntmps46
  go_wp2_with fail
  rw [← HW1.out]
  refine HP.out.mono ?_
  rintro e w2 ⟨p', c', rfl, hv2, hb2⟩
  have hb3 : Below w2.heap.size w2 (w2.alloc (.cells #[.slice p' n c', .int .i64 (s : Nat)] 30)) := (Below.refl _ _).alloc (Nat.le_refl _) _
  have hb13 := hb2.trans (hb3.mono hb2.size)
  have hX := alloc_block w2 (.cells #[.slice p' n c', .int .i64 (s : Nat)] 30)
  have hT3 := block_later H1.out hb13
  have hR0 := block_later H3.out hb13
  have hR1 := block_later H4.out hb13
  have HV3 := Lib.hid (hv2.later hb3)
  have HT3 := Lib.hid (HTT.out.later hb13)
  have HB3 := Lib.hid (HBW.out.trans (hb13.mono HBW.out.size))
  clear HW1 HP HTT H1 H3 H4 HBW HSZ hv2 hb2 hb3 hb13
  go_wp2_with fail
  generalize w2.alloc (.cells #[.slice p' n c', .int .i64 (s : Nat)] 30) = W3 at *
  generalize w2.heap.size = X at *
  have HA := Lib.hid (two_done (.slice p' n c') (.int .i64 (s : Nat)) (.slice tp n1 tc) (.int .i64 (F1 : Nat)) (.int .i64 (z : Nat)) hR0 hR1 (by omega))
  have HB := Lib.hid (two_done' (.slice p' n c') (.int .i64 (s : Nat)) (.slice tp n1 tc) (.int .i64 (F1 : Nat)) (.int .i64 (z : Nat)) hR0 hR1 (by omega))
  have a0 := block_cell (j := 0) hX (v := .slice p' n c') rfl
  have a1 := block_cell (j := 1) hX (v := .int .i64 (s : Nat)) rfl
  have b0 := block_cell (j := 0) hT3 (v := .slice tp n1 tc) rfl
  have b1 := block_cell (j := 1) hT3 (v := .int .i64 (F1 : Nat)) rfl
  have b2 := block_cell (j := 2) hT3 (v := .int .i64 (z : Nat)) rfl
  have c0 := block_cell (j := 0) hR0 (v := .slice none 0 0) rfl
  have c1 := block_cell (j := 1) hR0 (v := .int .i64 0) rfl
  have d0 := block_cell (j := 0) hR1 (v := .slice none 0 0) rfl
  have d1 := block_cell (j := 1) hR1 (v := .int .i64 0) rfl
  have d2 := block_cell (j := 2) hR1 (v := .int .i64 0) rfl
  have e0 := block_free 0 hR0
  have e1 := block_free 1 hR0
  have f0 := block_free 0 hR1
  have f1 := block_free 1 hR1
  have f2 := block_free 2 hR1
  clear hX hT3 hR0 hR1
  have HE : Hid (∀ W', Chg (fun k => k = w.heap.size + 1 + 1 + 1 ∨ k = w.heap.size + 1 + 1 + 1 + 1) W3 W' → RdDo w Q s z n (tearV s V i b s) t (.returned (.tuple #[.agg #[.slice p' n c', .int .i64 (s : Nat)], .agg #[.slice tp n1 tc, .int .i64 (F1 : Nat), .int .i64 (z : Nat)]])) W') := Lib.hid fun W' hc =>
    rdo_end hc HB3.out (by omega) (by omega) HV3.out HT3.out (fun h0 => HTQ.out (by have := HN1.out; omega)) HN1.out HF1.out
  go_region
  all_goals go_wp2_with fail
  all_goals
    refine bodyPost_ret (v := .tuple #[.agg #[.slice p' n c', .int .i64 (s : Nat)], .agg #[.slice tp n1 tc, .int .i64 (F1 : Nat), .int .i64 (z : Nat)]]) ?_ rfl ?_
    · first
        | exact results_two rfl _ _ (w.heap.size + 1 + 1 + 1) (w.heap.size + 1 + 1 + 1 + 1) _ _ rfl rfl HA.out.1 HA.out.2.1 rfl rfl
        | exact results_two rfl _ _ (w.heap.size + 1 + 1 + 1) (w.heap.size + 1 + 1 + 1 + 1) _ _ rfl rfl HB.out.1 HB.out.2.1 rfl rfl
    · first
        | exact HE.out _ HA.out.2.2
        | exact HE.out _ HB.out.2.2
        | exact HE.out _ (HA.out.2.2.drewN 1)
        | exact HE.out _ (HB.out.2.2.drewN 1)
end Go.Proofs.Ytdkpjaobfohdfaa
