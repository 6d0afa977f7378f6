/- Seen, by the document. -/
import Derived.Test.YtdkpjaobfohdfaaDiskRefSeen
import Derived.Deep.RegionHeld3
import Derived.StillTailTactics
namespace Go.Proofs.Ytdkpjaobfohdfaa
open Go.RowKit Go.ChangeShapes Go.WideShapes
set_option linter.unusedVariables false
set_option maxRecDepth 10000
set_option linter.unusedSimpArgs false

/-- What a round's call leaves. -/
def Rnd (wr : World) (Q : Nat → Prop) (s z n : Nat) (V : List (List Int)) (t : TS) (e : Ending) (w5 : World) : Prop :=
  ∃ p5 c5 tp5 tc5 n5 F5, e = .returned (.tuple #[.agg #[.slice p5 n c5, .int .i64 (s : Nat)], .agg #[.slice tp5 n5 tc5, .int .i64 (F5 : Nat), .int .i64 (z : Nat)]]) ∧ Hid (RV w5 Q p5 c5 s V ∧ Rt w5 tp5 tc5 t.B ∧ (0 < t.B.length → ∀ a, tp5 = some a → Q a.block) ∧ t.B.length = n5 ∧ t.f * z = F5 ∧ Below wr.heap.size wr w5)
theorem RdDo.rnd {wr w5 : World} {Q : Nat → Prop} {s z n k : Nat} {V : List (List Int)} {t : TS} {e : Ending} (h : RdDo (wr.drewN k) Q s z n V t e w5) : Rnd wr Q s z n V t e w5 := by
  obtain ⟨p, c, tp, tc, rfl, h1, h2, h3, h4⟩ := h
  exact ⟨p, c, tp, tc, _, _, rfl, Lib.hid ⟨h1, h2, h3, rfl, rfl, below_undrew h4⟩⟩
theorem Se.start {w W1 : World} {Q : Nat → Prop} {s z n ln lc n1 F1 M : Nat} {p tp lp : Option Addr} {c tc : Nat} {dc : Array Value} {AL : List Wd} {V : List (List Int)} {t : TS} {tot : Nat}
    (h0 : W1.heap[w.heap.size]? = some (.cells dc 36 (0, 0))) (h1 : W1.heap[w.heap.size + 1]? = some (.cells #[.slice none 0 0, .int .i64 0] 30 (0, 0))) (h2 : W1.heap[w.heap.size + 1 + 1]? = some (.cells #[.slice none 0 0, .int .i64 0, .int .i64 0] 33 (0, 0)))
    (h3 : W1.heap[w.heap.size + 1 + 1 + 1]? = some (.cells #[.slice p n c, .int .i64 (s : Nat)] 30 (0, 0))) (h4 : W1.heap[w.heap.size + 1 + 1 + 1 + 1]? = some (.cells #[.slice tp n1 tc, .int .i64 (F1 : Nat), .int .i64 (z : Nat)] 33 (0, 0))) (hb : Below w.heap.size w W1) (hsz : W1.heap.size = w.heap.size + 5)
    (hV : RV w Q p c s V) (hn : V.length = n) (hT : Rt w tp tc t.B) (htq : 0 < t.B.length → ∀ a, tp = some a → Q a.block) (hn1 : t.B.length = n1) (hF1 : t.f * z = F1) (hrow : SlG ewd 4 wd0' w lp ln lc AL) (hok : ∀ y ∈ AL, y.ok w Q) (htot : t.len z + wts (AL.map Wd.x) ≤ tot) :
    Se w W1 Q w.heap.size s z n ln lc dc lp AL V t tot 0 p tp c tc n1 F1 := by
  refine ⟨h0, h1, h2, h3, h4, (hV.mono fun k hk hl => ⟨hk, by omega⟩).later hb, hT.later hb, fun h a ha => ⟨htq h a ha, by have := hT.lt h a ha; omega⟩, hn1, hF1, SlG.later hrow hb, fun h a ha => ?_, fun y hy => ((hok y hy).mono fun k hk hl => ⟨hk, by omega⟩).later hb, hb, by omega, rfl, hn, htot⟩
  obtain ⟨b, off, hp, hlt, _⟩ := hrow.cell h
  rw [hp] at ha
  cases ha
  show ¬ (w.heap.size ≤ b ∧ b < w.heap.size + 5)
  omega
set_option maxHeartbeats 4000000 in
theorem seen_walk (w : World) (Q : Nat → Prop) (hQ : ∀ k, w.heap.size ≤ k → Q k) (s z n ln lc n1 F1 M : Nat) (p tp lp : Option Addr) (c tc : Nat) (AL : List Wd) (V : List (List Int)) (t : TS) (tot : Nat) (hn4 : n ≤ 1024) (hs4 : s ≤ 4096) (hz : 64 ≤ z ∧ z ≤ 4096) (hbig : tot ≤ 1000000)
    (hV : RV w Q p c s V) (hn : V.length = n) (hT : Rt w tp tc t.B) (htq : 0 < t.B.length → ∀ a, tp = some a → Q a.block) (hn1 : t.B.length = n1) (hF1 : t.f * z = F1) (hrow : SlG ewd 4 wd0' w lp ln lc AL) (hok : ∀ y ∈ AL, y.ok w Q) (htot : t.len z + wts (AL.map Wd.x) ≤ tot) :
    Calls Try.prog 28 #[.agg (rdc p n c s tp n1 tc F1 z lp ln lc M)] w (RdDo w Q s z n (foldV s V (AL.map Wd.x)) (foldT z t (AL.map Wd.x))) := by
  obtain ⟨W1, hW1, h0, h1, h2, h3, h4, hbw, hsz⟩ := five_boxes w (rdc p n c s tp n1 tc F1 z lp ln lc M) #[.slice none 0 0, .int .i64 0] #[.slice none 0 0, .int .i64 0, .int .i64 0] #[.slice p n c, .int .i64 (s : Nat)] #[.slice tp n1 tc, .int .i64 (F1 : Nat), .int .i64 (z : Nat)] 36 30 33 30 33
  have HS0 := Lib.hid (Se.start (Q := Q) (M := M) h0 h1 h2 h3 h4 hbw hsz hV hn hT htq hn1 hF1 hrow hok htot)
  have HW1 := Lib.hid hW1
  have HL := Lib.hid hrow.len
  have HCAP : Hid (ln ≤ lc ∧ lc ≤ maxLen) := Lib.hid ⟨hrow.cap, hrow.max⟩
  have HA : Hid (w.heap.size = w.heap.size) := Lib.hid rfl
  clear hW1 h0 h1 h2 h3 h4 hbw hsz hV hn hT htq hn1 hF1 hrow hok htot
  go_enter Try.func28, Try.ntmps28
  go_wp2_with fail
  rw [← HW1.out]
  clear HW1 HA
  go_loopw [6] (fun i wr => ∃ (j : Nat) (pj tpj : Option Addr) (cj tcj nj Fj : Nat), j ≤ ln ∧ i = .int .i64 (j : Nat) ∧ Hid (Se w wr Q w.heap.size s z n ln lc (rdc p n c s tp n1 tc F1 z lp ln lc M) lp AL V t tot j pj tpj cj tcj nj Fj)) (fun i _ => ln - (intOf i).toNat)
  case atStart => exact ⟨0, p, tp, c, tc, n1, F1, Nat.zero_le _, rfl, HS0⟩
  case round =>
    obtain ⟨j, pj, tpj, cj, tcj, nj, Fj, hj, rfl, HF⟩ := hrel
    have hcap := HCAP.out.1
    have hmax := HCAP.out.2
    have hln : ln ≤ 9223372036854775807 := by
      have h1 := hcap
      have h2 := hmax
      unfold maxLen at h2
      omega
    have x5 := block_cell (j := 5) HF.out.bD (v := .slice lp ln lc) rfl
    have v0 := block_cell (j := 0) HF.out.b3 (v := .slice pj n cj) rfl
    have v1 := block_cell (j := 1) HF.out.b3 (v := .int .i64 (s : Nat)) rfl
    have t0 := block_cell (j := 0) HF.out.b4 (v := .slice tpj nj tcj) rfl
    have t1 := block_cell (j := 1) HF.out.b4 (v := .int .i64 (Fj : Nat)) rfl
    have t2 := block_cell (j := 2) HF.out.b4 (v := .int .i64 (z : Nat)) rfl
    by_cases hlt : j < ln
    · have hlt' : (j : Int) < ln := by omega
      obtain ⟨y, b, off, hy, hlp, k0, k1, k2, k3, hdo, eV, eT, eW, _⟩ := HF.out.next hlt hQ hn4 hs4 hz hbig (-1)
      subst hlp
      rw [Nat.add_zero] at k0
      rw [dwVx_all, dwTx_all] at hdo
      have HCALL := Lib.hid fun k => (hdo (wr.drewN k) (below_drewN (Below.refl _ _) k)).mono fun e w5 h => RdDo.rnd h
      have HST := Lib.hid (fun (w5 W' : World) (p5 tp5 : Option Addr) (c5 tc5 n5 F5 : Nat) => HF.out.step (w5 := w5) (W' := W') (p5 := p5) (tp5 := tp5) (c5 := c5) (tc5 := tc5) (n5 := n5) (F5 := F5) eV eT eW)
      clear hdo eV eT eW hy
      generalize y.k = yk at *
      generalize y.i = yi at *
      generalize y.q = yq at *
      generalize y.m = ym at *
      generalize y.cq = ycq at *
      generalize y.n = yn at *
      go_wp2_with fail
      go_region_law (first | (go_simp; go_at_call 46; refine (HCALL.out _).mono ?_; rintro e w5 ⟨p5, c5, tp5, tc5, n5, F5, rfl, H5⟩; have r3 := block_later HF.out.b3 H5.out.2.2.2.2.2; have r4 := block_later HF.out.b4 H5.out.2.2.2.2.2; have HA := Lib.hid (two_done (.slice p5 n c5) (.int .i64 (s : Nat)) (.slice tp5 n5 tc5) (.int .i64 (F5 : Nat)) (.int .i64 (z : Nat)) r3 r4 (by omega)); have HB := Lib.hid (two_done' (.slice p5 n c5) (.int .i64 (s : Nat)) (.slice tp5 n5 tc5) (.int .i64 (F5 : Nat)) (.int .i64 (z : Nat)) r3 r4 (by omega)); have v5 := block_cell (j := 0) r3 (v := .slice pj n cj) rfl; have v6 := block_cell (j := 1) r3 (v := .int .i64 (s : Nat)) rfl; have t5 := block_cell (j := 0) r4 (v := .slice tpj nj tcj) rfl; have t6 := block_cell (j := 1) r4 (v := .int .i64 (Fj : Nat)) rfl; have t7 := block_cell (j := 2) r4 (v := .int .i64 (z : Nat)) rfl; have e0 := block_free 0 r3; have e1 := block_free 1 r3; have f0 := block_free 0 r4; have f1 := block_free 1 r4; have f2 := block_free 2 r4; clear r3 r4))
      all_goals go_wp2_with fail
      all_goals
        go_roundw
        case rel =>
          refine ⟨j + 1, p5, tp5, c5, tc5, n5, F5, by omega, by go_num, Lib.hid ?_⟩
          obtain ⟨q1, q2, q3, q4, q5, q6⟩ := H5.out
          first
            | exact HST.out _ _ _ _ _ _ _ _ q6 q1 q2 q3 q4 q5 HA.out.1 HA.out.2.1 HA.out.2.2
            | exact HST.out _ _ _ _ _ _ _ _ q6 q1 q2 q3 q4 q5 HB.out.1 HB.out.2.1 HB.out.2.2
            | exact HST.out _ _ _ _ _ _ _ _ q6 q1 q2 q3 q4 q5 HA.out.1 HA.out.2.1 (HA.out.2.2.drewN 1)
            | exact HST.out _ _ _ _ _ _ _ _ q6 q1 q2 q3 q4 q5 HB.out.1 HB.out.2.1 (HB.out.2.2.drewN 1)
        case measure => simp [intOf]; omega
    · obtain rfl : j = ln := by omega
      have hE := HF.out
      have htk : (AL.map Wd.x).take j = AL.map Wd.x := List.take_of_length_le (by rw [List.length_map, HL.out]; exact Nat.le_refl _)
      have HE : Hid (∀ W', Chg (fun k => k = w.heap.size + 1 ∨ k = w.heap.size + 1 + 1) wr W' → RdDo w Q s z n (foldV s V (AL.map Wd.x)) (foldT z t (AL.map Wd.x)) (.returned (.tuple #[.agg #[.slice pj n cj, .int .i64 (s : Nat)], .agg #[.slice tpj nj tcj, .int .i64 (Fj : Nat), .int .i64 (z : Nat)]])) W') := Lib.hid fun W' hc => by
        have hv := hE.rv
        have ht := hE.rt
        have hq := hE.tq
        have h1 := hE.hn
        have h2 := hE.hF
        rw [htk] at hv ht hq h1 h2
        exact rdo_end hc hE.below (by omega) (by omega) (hv.mono fun k hk _ => ⟨hk.1, by omega, by omega⟩) ht (fun h0 a ha => ⟨(hq h0 a ha).1, by have := (hq h0 a ha).2; omega, by have := (hq h0 a ha).2; omega⟩) h1 h2
      have HA := Lib.hid (two_done (.slice pj n cj) (.int .i64 (s : Nat)) (.slice tpj nj tcj) (.int .i64 (Fj : Nat)) (.int .i64 (z : Nat)) hE.b1 hE.b2 (by omega))
      have HB := Lib.hid (two_done' (.slice pj n cj) (.int .i64 (s : Nat)) (.slice tpj nj tcj) (.int .i64 (Fj : Nat)) (.int .i64 (z : Nat)) hE.b1 hE.b2 (by omega))
      have c0 := block_cell (j := 0) hE.b1 (v := .slice none 0 0) rfl
      have c1 := block_cell (j := 1) hE.b1 (v := .int .i64 0) rfl
      have d0 := block_cell (j := 0) hE.b2 (v := .slice none 0 0) rfl
      have d1 := block_cell (j := 1) hE.b2 (v := .int .i64 0) rfl
      have d2 := block_cell (j := 2) hE.b2 (v := .int .i64 0) rfl
      have e0 := block_free 0 hE.b1
      have e1 := block_free 1 hE.b1
      have f0 := block_free 0 hE.b2
      have f1 := block_free 1 hE.b2
      have f2 := block_free 2 hE.b2
      clear hE htk HS0
      go_wp2_with fail
      go_region
      all_goals go_wp2_with fail
      all_goals
        refine bodyPost_ret (v := .tuple #[.agg #[.slice pj n cj, .int .i64 (s : Nat)], .agg #[.slice tpj nj tcj, .int .i64 (Fj : Nat), .int .i64 (z : Nat)]]) ?_ rfl ?_
        · first
            | exact results_two rfl _ _ (w.heap.size + 1) (w.heap.size + 1 + 1) _ _ rfl rfl HA.out.1 HA.out.2.1 rfl rfl
            | exact results_two rfl _ _ (w.heap.size + 1) (w.heap.size + 1 + 1) _ _ rfl rfl HB.out.1 HB.out.2.1 rfl rfl
        · first
            | exact HE.out _ HA.out.2.2
            | exact HE.out _ HB.out.2.2
            | exact HE.out _ (HA.out.2.2.drewN 1)
            | exact HE.out _ (HB.out.2.2.drewN 1)
end Go.Proofs.Ytdkpjaobfohdfaa
