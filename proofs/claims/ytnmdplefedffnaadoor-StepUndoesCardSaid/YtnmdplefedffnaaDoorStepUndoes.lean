/-
  StepUndoes answers true of any numbers and any step, and writes nothing that was there: the tied card. No condition but the card's own: the words of the tags lie as the program's text lays them.
DOOR5
DOOR: Words of_laid door_met
HEARTS 8000000
-/
import Derived.Test.YtnmdplefedffnaaDoorRows
import Derived.Test.YtnmdplefedffnaaDoorCards
import Derived.Test.YtnmdplefedffnaaDoorTie
import Derived.SevenTiedAt
import Derived.Stop.Joined
import Derived.Test.YtnmdplefedffnaaDoorStepRefOps
import Derived.Test.YtnmdplefedffnaaDoorStepMay
import Derived.Test.YtnmdplefedffnaaDoorStepWorks
import Derived.Test.YtnmdplefedffnaaDoorOpNet
import Derived.WalkKit
import Derived.ProofKit
import Derived.OpenShut
import Derived.ShutString
import Derived.ChangeOld
import Derived.Below
namespace Go.Proofs.YtnmdplefedffnaaDoor.stepUndoes
open Go.ChangeShapes Go.WideShapes Go.ChangeAt Go.RowKit
open Go.ChangeMaps (open_string shut_string)
set_option linter.unusedVariables false

theorem own : ownKnob Tryd.prog.godebug = none := by kernel_rfl
theorem laidOut : laidOutB Tryd.prog = true := by kernel_rfl
set_option linter.unusedSimpArgs false

set_option maxHeartbeats 8000000 in
set_option maxRecDepth 100000 in
theorem walk (a0 : Int) (a1 : Int) (a2 : Array Value) (w : World) (hv : Words w) (w0 : (Lit.int .i64 a0).wf = true) (w1 : (Lit.int .i64 a1).wf = true) (w2 : StepIn w a2) :
    Calls Tryd.prog 6 #[.int .i64 a0, .int .i64 a1, .agg a2] w fun e w' => e = .returned (.bool true) ∧ Below w.heap.size w w' := by
  obtain ⟨t, r, p, n, c, L, rfl, ht, hr, hL, hok⟩ := w2
  have hb1 : Below w.heap.size w (w.alloc (.cells #[.int .u8 t, .int .u8 r, .slice p n c] 24)) := (Below.refl _ _).alloc (Nat.le_refl _) _
  have HB1 := Lib.hid hb1
  have HV1 := Lib.hid (hv.later hb1)
  have HL1 := Lib.hid (hL.later hb1)
  have HX1 := Lib.hid (alloc_block w (.cells #[.int .u8 t, .int .u8 r, .slice p n c] 24))
  have HLN := Lib.hid hL.len
  have HOK := Lib.hid hok
  have HT := Lib.hid ht
  have HR := Lib.hid hr
  clear hv hL hok ht hr hb1
  by_cases hn : n ≤ 20
  case neg =>
    have hd : decide ((n : Int) ≤ 20) = false := decide_eq_false (by omega)
    have hfew := few_any t r p n c
    rw [hd] at hfew
    clear hd hn
    go_enter Tryd.func6, Tryd.ntmps6
    go_wp2_with fail
    refine (hfew _).mono ?_
    rintro e w2 ⟨rfl, h2⟩
    have HB2 := Lib.hid (HB1.out.trans (h2.mono HB1.out.size))
    have HV2 := Lib.hid (HV1.out.later h2)
    clear hfew h2
    go_wp2_with fail
    refine (step_works _ HV2.out).mono ?_
    rintro e w3 ⟨rfl, h3⟩
    have HB3 := Lib.hid (HB2.out.trans (h3.mono HB2.out.size))
    clear h3
    go_wp2_with fail
    go_ret
    exact ⟨rfl, HB3.out⟩
  have hd : decide ((n : Int) ≤ 20) = true := decide_eq_true (by omega)
  have hfew := few_any t r p n c
  rw [hd] at hfew
  have HN := Lib.hid hn
  have HKO : Hid (∀ o ∈ opsS t r L ++ negF (opsS t r L), Ook o) := Lib.hid fun o ho => by
    rcases List.mem_append.1 ho with ho | ho
    · exact (opsS_ok t r L HR.out HOK.out o ho).1
    · exact neg_ok (fun o ho => (opsS_ok t r L HR.out HOK.out o ho).1) (negB_ops t r L HR.out HOK.out) o ho
  have HO2 := Lib.hid (opsS_ok t r L HR.out HOK.out)
  have HUN2 := Lib.hid (net_undone (opsS t r L))
  have HVL : Hid ((opsS t r L).length ≤ 40) := Lib.hid (by have := opsS_len t r L; have := HLN.out; omega)
  have HUL : Hid ((negF (opsS t r L)).length ≤ 40) := Lib.hid (by have := HVL.out; rw [← gathN_end, gathN_len]; omega)
  have HGI := Lib.hid fun (h : goodS a0 a1 t r L = true) => good_item h HR.out.1 HOK.out
  have HGC := Lib.hid fun (h : goodS a0 a1 t r L = true) => good_counts h HR.out HOK.out
  rw [HLN.out] at HGC
  clear hd hn
  go_enter Tryd.func6, Tryd.ntmps6
  go_wp2_with fail
  refine (hfew _).mono ?_
  rintro e wa ⟨rfl, h2⟩
  have HB2 := Lib.hid (HB1.out.trans (h2.mono HB1.out.size))
  have HX2 := Lib.hid (block_later HX1.out h2)
  have HV2 := Lib.hid (HV1.out.later h2)
  have HL2 := Lib.hid (HL1.out.later h2)
  have hop := ops_any t r p n c L wa HL2.out HOK.out (by have := HN.out; omega)
  obtain ⟨e0, e1, e2⟩ := cells_step HX2.out
  clear hfew h2 HB1 HX1 HV1 HL1
  go_wp2_with fail
  refine hop.mono ?_
  rintro e W0 ⟨p1, c1, rfl, hs1, hb1, _⟩
  have HB3 := Lib.hid (HB2.out.trans (hb1.mono HB2.out.size))
  have HX3 := Lib.hid (block_later HX2.out hb1)
  have HV3 := Lib.hid (HV2.out.later hb1)
  have HL3 := Lib.hid (HL2.out.later hb1)
  have HS1 := Lib.hid hs1
  have HBX : Hid (∀ w', Below W0.heap.size W0 w' → w'.cell? ⟨w.heap.size, 0, none⟩ = some (.int .u8 t) ∧ w'.cell? ⟨w.heap.size, 1, none⟩ = some (.int .u8 r) ∧ w'.cell? ⟨w.heap.size, 2, none⟩ = some (.slice p n c)) := Lib.hid fun w' h => cells_step (block_later HX3.out h)
  have HUN := Lib.hid fun w' (h : Below W0.heap.size W0 w') => undo_any t r p n c L w' (HL3.out.later h) HOK.out HR.out (by have := HN.out; omega)
  have hcap := hs1.cap
  clear hop hs1 hb1 e0 e1 e2 HB2 HX2 HV2 HL2
  generalize negF (opsS t r L) = U at *
  generalize opsS t r L = V at *
  generalize hm : V.length = m at *
  have HML := Lib.hid hm
  have HM := HVL
  have hbd : Below W0.heap.size W0 W0.drew := (Below.refl _ _).drew
  clear hm
  go_wp2_with fail
  refine wp_region_held_drew (S := fun w' => Hid (Below W0.heap.size W0 w')) (by kernel_rfl) (Lib.hid hbd) (fun hHeld => ?_)
  clear hbd
  refine wpAnyH_take (i := 1) (oi := ⟨some 21, _, _, _, _, _⟩) (v := .slice p1 m c1) rfl (by kernel_rfl) (by kernel_rfl) (by kernel_rfl) (fun _ _ _ h => h) (Or.inl ⟨by rfl, fun w' hw' => ?_⟩) (by assumption) ?_
  · clear hHeld
    go_simp
  simp only [Act.put, List.setIfInBounds_toArray, List.set_cons_zero, List.set_cons_succ]
  refine wpAnyH_take (i := 3) (oi := ⟨some 23, _, _, _, _, _⟩) (v := .agg #[.int .u8 t, .int .u8 r, .slice p n c]) rfl (by kernel_rfl) (by kernel_rfl) (by kernel_rfl) (fun _ _ _ h => h) (Or.inl ⟨by rfl, fun w' hw' => ?_⟩) (by assumption) ?_
  · obtain ⟨g0, g1, g2⟩ := HBX.out w' hw'.out
    clear hHeld
    go_simp
  simp only [Act.put, List.setIfInBounds_toArray, List.set_cons_zero, List.set_cons_succ]
  have HD := Lib.hid (show Below W0.heap.size W0 W0.drew from (Below.refl _ _).drew)
  generalize W0.drew = Wd at *
  refine wpAnyH_ready (rs := [0]) (by kernel_rfl) (by simp) (AllReadyH.cons rfl (fun K hK => ?_) AllReadyH.nil)
  go_simp
  have hba : Below Wd.heap.size Wd (Wd.alloc (.cells #[] 39)) := (Below.refl _ _).alloc (Nat.le_refl _) _
  have HF0 : Hid (FillO Wd (Wd.alloc (.cells #[] 39)) (.slice (some ⟨Wd.heap.size, 0, none⟩) 0 0) [] 0) := Lib.hid ⟨World.ownsRow_lit Wd #[] 0 (Nat.le_refl _) (Nat.zero_le _) rfl, hba, Nat.le_refl _⟩
  have HV0 := Lib.hid (HS1.out.later (HD.out.trans (hba.mono HD.out.size)))
  have hH0 : Hid (Below W0.heap.size W0 (Wd.alloc (.cells #[] 39))) := Lib.hid (HD.out.trans (hba.mono HD.out.size))
  clear hba
  refine hK.out _ _ hH0 (fun hHeld2 => ?_)
  clear hH0
  clear hK K hHeld
  have hHeld := hHeld2
  clear hHeld2
  try simp only [Act.put, List.setIfInBounds_toArray, List.set_cons_zero, List.set_cons_succ]
  refine wpAnyH_ready (rs := [2]) (by kernel_rfl) (by simp) (AllReadyH.cons rfl (fun K hK => ?_) AllReadyH.nil)
  refine step_append_fill rfl (.tmp 20) (.tmp 21) rfl (.slice (some ⟨Wd.heap.size, 0, none⟩) 0 0) _ _ (by simp [Act.eval]) HF0.out p1 m c1 V (by simp [Act.eval]) HV0.out (by have := HM.out; omega) ?_
  intro p3 n3 c3 x1 h3
  have HF1 := Lib.hid h3
  have hH1 : Hid (Below W0.heap.size W0 x1) := Lib.hid (HD.out.trans (h3.below.mono HD.out.size))
  clear h3 HF0 HV0
  refine hK.out _ _ hH1 (fun hHeld2 => ?_)
  clear hH1
  clear hK K hHeld
  have hHeld := hHeld2
  clear hHeld2
  try simp only [Act.put, List.setIfInBounds_toArray, List.set_cons_zero, List.set_cons_succ]
  refine wpAnyH_ready (rs := [4]) (by kernel_rfl) (by simp) (AllReadyH.cons rfl (fun K hK => ?_) AllReadyH.nil)
  go_simp
  go_wp2_with fail
  refine (HUN.out _ hHeld.out).mono ?_
  rintro e x2 ⟨p4, c4, rfl, hs4, hb4, _⟩
  have hH2 : Hid (Below W0.heap.size W0 x2) := Lib.hid (hHeld.out.trans (hb4.mono hHeld.out.size))
  have HF2 := Lib.hid (HF1.out.later hb4)
  have HS4 := Lib.hid hs4
  clear hs4 hb4 HF1
  go_wp2_with fail
  refine hK.out _ _ hH2 (fun hHeld2 => ?_)
  clear hH2
  clear hK K hHeld
  have hHeld := hHeld2
  clear hHeld2
  try simp only [Act.put, List.setIfInBounds_toArray, List.set_cons_zero, List.set_cons_succ]
  refine wpAnyH_ready (rs := [5]) (by kernel_rfl) (by simp) (AllReadyH.cons rfl (fun K hK => ?_) AllReadyH.nil)
  refine step_append_fill rfl (.tmp 22) (.tmp 24) rfl (.slice p3 n3 c3) _ _ (by simp [Act.eval]) HF2.out p4 _ c4 U (by simp [Act.eval]) HS4.out (by have := HM.out; have := HUL.out; omega) ?_
  intro p5 n5 c5 x3 h5
  have HF3 := Lib.hid h5
  have hH3 : Hid (Below W0.heap.size W0 x3) := Lib.hid (HD.out.trans (h5.below.mono HD.out.size))
  clear h5 HF2 HS4
  refine hK.out _ _ hH3 (fun hHeld2 => ?_)
  clear hH3
  clear hK K hHeld
  have hHeld := hHeld2
  clear hHeld2
  try simp only [Act.put, List.setIfInBounds_toArray, List.set_cons_zero, List.set_cons_succ]
  obtain ⟨pv, cv, hv5, hs5, _⟩ := HF3.out.slice
  rw [List.nil_append] at hs5 hv5
  have hnt := net_o pv _ cv (V ++ U) x3 hs5 HKO.out (by rw [List.length_append]; have := HM.out; have := HML.out; have := HUL.out; omega)
  rw [HUN2.out.1, HUN2.out.2, ← hv5] at hnt
  have HNT := Lib.hid hnt
  clear hnt hs5 hv5 HF3
  refine wpAnyH_ready (rs := [6]) (by kernel_rfl) (by simp) (AllReadyH.cons rfl (fun K hK => ?_) AllReadyH.nil)
  go_simp
  go_wp2_with fail
  refine HNT.out.mono ?_
  rintro e x4 ⟨p6, c6, rfl, _, hb6, _⟩
  have hH4 : Hid (Below W0.heap.size W0 x4) := Lib.hid (hHeld.out.trans (hb6.mono hHeld.out.size))
  clear hb6 HNT
  simp only [List.length_nil]
  go_wp2_with fail
  refine hK.out _ _ hH4 (fun hHeld2 => ?_)
  clear hH4
  clear hK K hHeld
  have hHeld := hHeld2
  clear hHeld2
  try simp only [Act.put, List.setIfInBounds_toArray, List.set_cons_zero, List.set_cons_succ]
  refine wpAnyH_take (i := 7) (oi := ⟨some 19, _, _, _, _, _⟩) (v := .tuple #[.slice p6 0 c6, .bool true]) rfl (by kernel_rfl) (by kernel_rfl) (by kernel_rfl) (fun _ _ _ h => h) (Or.inl ⟨by rfl, fun w' hw' => ?_⟩) (by assumption) ?_
  · clear hHeld
    go_simp
  simp only [Act.put, List.setIfInBounds_toArray, List.set_cons_zero, List.set_cons_succ]
  refine wpAnyH_take (i := 8) (oi := ⟨some 27, _, _, _, _, _⟩) (v := .slice p6 0 c6) rfl (by kernel_rfl) (by kernel_rfl) (by kernel_rfl) (fun _ _ _ h => h) (Or.inl ⟨by rfl, fun w' hw' => ?_⟩) (by assumption) ?_
  · clear hHeld
    go_simp
  simp only [Act.put, List.setIfInBounds_toArray, List.set_cons_zero, List.set_cons_succ]
  refine wpAnyH_take (i := 9) (oi := ⟨some 28, _, _, _, _, _⟩) (v := .bool true) rfl (by kernel_rfl) (by kernel_rfl) (by kernel_rfl) (fun _ _ _ h => h) (Or.inl ⟨by rfl, fun w' hw' => ?_⟩) (by assumption) ?_
  · clear hHeld
    go_simp
  simp only [Act.put, List.setIfInBounds_toArray, List.set_cons_zero, List.set_cons_succ]
  refine wpAnyH_take (i := 10) (oi := ⟨some 8, _, _, _, _, _⟩) (v := .slice p6 0 c6) rfl (by kernel_rfl) (by kernel_rfl) (by kernel_rfl) (fun _ _ _ h => h) (Or.inl ⟨by rfl, fun w' hw' => ?_⟩) (by assumption) ?_
  · clear hHeld
    go_simp
  simp only [Act.put, List.setIfInBounds_toArray, List.set_cons_zero, List.set_cons_succ]
  refine wpAnyH_take (i := 11) (oi := ⟨some 9, _, _, _, _, _⟩) (v := .bool true) rfl (by kernel_rfl) (by kernel_rfl) (by kernel_rfl) (fun _ _ _ h => h) (Or.inl ⟨by rfl, fun w' hw' => ?_⟩) (by assumption) ?_
  · clear hHeld
    go_simp
  simp only [Act.put, List.setIfInBounds_toArray, List.set_cons_zero, List.set_cons_succ]
  refine wpAnyH_done (by kernel_rfl) ?_ _
  have HB4 := Lib.hid hHeld.out
  clear hHeld
  obtain ⟨e0, e1, e2⟩ := HBX.out x4 HB4.out
  have hgd := good_s a0 a1 t r p n c L x4 (HV3.out.later HB4.out) (HL3.out.later HB4.out) HOK.out HT.out HR.out (by have := HN.out; omega)
  cases hgs : goodS a0 a1 t r L with
  | false =>
    rw [hgs] at hgd
    clear hgs
    go_wp2_with fail
    refine hgd.mono ?_
    rintro e x5 ⟨rfl, h5⟩
    have HB5 := Lib.hid (HB4.out.trans (h5.mono HB4.out.size))
    have HV5 := Lib.hid (HV3.out.later HB5.out)
    clear hgd h5 e0 e1 e2
    go_wp2_with fail
    refine (step_works _ HV5.out).mono ?_
    rintro e x6 ⟨rfl, h6⟩
    have HB6 := Lib.hid (HB5.out.trans (h6.mono HB5.out.size))
    clear h6
    go_wp2_with fail
    go_ret
    exact ⟨rfl, HB3.out.trans (HB6.out.mono HB3.out.size)⟩
  | true =>
    rw [hgs] at hgd
    obtain ⟨hc1, hc2, hc3, hc4⟩ := HGC.out hgs
    have HKG := Lib.hid (HGI.out hgs)
    have HC := Lib.hid (show n ≤ m ∧ m ≤ 6 from ⟨hc3, hc4⟩)
    have HV1 := Lib.hid fun o ho => (HO2.out o ho).1
    clear hgs hc3 hc4
    go_wp2_with fail
    refine hgd.mono ?_
    rintro e x5 ⟨rfl, h5⟩
    have HB5 := Lib.hid (HB4.out.trans (h5.mono HB4.out.size))
    have hnt := net_o p1 m c1 V x5 (HS1.out.later HB5.out) HV1.out (by have := HM.out; omega)
    rw [hc1] at hnt
    clear hgd h5 e0 e1 e2 hc1
    go_wp2_with fail
    refine hnt.mono ?_
    rintro e x6 ⟨p7, c7, rfl, _, hb6, _⟩
    rw [hc2]
    have HB6 := Lib.hid (HB5.out.trans (hb6.mono HB5.out.size))
    clear hnt hb6 hc2
    go_wp2_with fail
    go_loopw [12] (fun i wr => ∃ j : Nat, j ≤ m ∧ i = .int .i64 j ∧ Hid (Below W0.heap.size W0 wr)) (fun i _ => m - (Go.RowKit.intOf i).toNat)
    case atStart => exact ⟨0, Nat.zero_le _, rfl, HB6⟩
    case round =>
      obtain ⟨j, hj, rfl, HBR⟩ := hrel
      by_cases hlt : j < m
      · have hlt' : (j : Int) < m := by omega
        have hm40 := HM.out
        have HCE : Hid (∀ w', Below W0.heap.size W0 w' → ∃ b off, p1 = some ⟨b, off, none⟩ ∧ w'.cell? ⟨b, off + j * 4, none⟩ = some (.int .u8 (V.getD j o0).1.1) ∧ w'.cell? ⟨b, off + j * 4 + 1, none⟩ = some (.int .u8 (V.getD j o0).1.2.1) ∧ w'.cell? ⟨b, off + j * 4 + 2, none⟩ = some (.int .u8 (V.getD j o0).1.2.2) ∧ w'.cell? ⟨b, off + j * 4 + 3, none⟩ = some (.int .i64 (V.getD j o0).2)) := Lib.hid fun w' h => by
          obtain ⟨b, off, h1, _, h2⟩ := op_cells (HS1.out.later h) hlt
          exact ⟨b, off, h1, h2⟩
        have hin : V.getD j o0 ∈ V := by
          rw [List.getD, List.getElem?_eq_getElem (show j < V.length by rw [HML.out]; exact hlt)]
          exact List.getElem_mem _
        have hgo := HKG.out _ hin
        obtain ⟨⟨⟨hk1, hk2, hk3⟩, _⟩, _, hne⟩ := HO2.out _ hin
        obtain ⟨b, off, rfl, c0, c1', c2, c3⟩ := HCE.out wr HBR.out
        generalize V.getD j o0 = x at *
        have hkg := fun W => good_any a0 a1 x.1.1 x.1.2.1 x.1.2.2 hk2 hk3 W
        rw [hgo] at hkg
        have hz : (x.2 == 0) = false := by simpa using hne
        clear hin hgo hk1 hk2 hk3 hne
        go_wp2_with fail
        refine (hkg _).mono ?_
        rintro e x7 ⟨rfl, h7⟩
        have HB7 := Lib.hid (HBR.out.trans (h7.below.mono HBR.out.size))
        clear hkg h7 c0 c1' c2 c3
        obtain ⟨b', off', he, c0, c1', c2, c3⟩ := HCE.out x7 HB7.out
        cases he
        go_wp2_with fail
        go_roundw
        case rel => exact ⟨j + 1, by omega, by go_num, HB7⟩
        case measure => simp [Go.RowKit.intOf]; omega
      · obtain rfl : j = m := by omega
        obtain ⟨e0, e1, e2⟩ := HBX.out wr HBR.out
        have h1 : ((j : Int) == (j : Int)) = true := by simp
        have h2 : decide ((n : Int) ≤ (j : Int)) = true := decide_eq_true (by have := HC.out.1; omega)
        have h2n : decide (n ≤ j) = true := decide_eq_true HC.out.1
        have h3 : decide ((j : Int) ≤ 6) = true := decide_eq_true (by have := HC.out.2; omega)
        have h3n : decide (j ≤ 6) = true := decide_eq_true HC.out.2
        have hwk := step_works wr (HV3.out.later HBR.out)
        go_wp2_with fail
        refine hwk.mono ?_
        rintro e x8 ⟨rfl, h8⟩
        have HB8 := Lib.hid (HBR.out.trans (h8.mono HBR.out.size))
        clear hwk h8 e0 e1 e2
        go_wp2_with fail
        go_ret
        exact ⟨rfl, HB3.out.trans (HB8.out.mono HB3.out.size)⟩

set_option maxRecDepth 100000 in
theorem lifted (os : Os) (started : os.Started) (H : Type) (enc : TypeId × Value → H) :
    ReturnsInHanded {} Tryd.checked os 6 .any (fun w args => (Rows.stepUndoesSpec.pre enc Tryd.prog Tryd.f6 [] false w args ∧ laidMetH Tryd.prog Rows.stepUndoesRow.laid w) ∧ sizedMet enc Tryd.prog Tryd.f6 (OpenSpec.ofChange Rows.stepUndoesSpec) false w args) (Rows.stepUndoesSpec.post enc Tryd.prog Tryd.f6 false true false false) := by
  refine returnsInHanded_of_change_and (C := Tryd.checked) (X := fun w _ => laidMetH Tryd.prog Rows.stepUndoesRow.laid w) (fun _ _ _ hh h => h.of_heap hh) own started (by kernel_rfl) Tryd.func6
    (ChangeSpec.witness_shaped (enc := enc) (C := Tryd.checked) (os := os) (X := fun w _ => laidMetH Tryd.prog Rows.stepUndoesRow.laid w) false (World.doorLaid Tryd.prog 400 os) #[.int .i64 0, .int .i64 0, .agg #[.int .u8 0, .int .u8 0, .slice none 0 0]] 8 rfl (World.shaped_of_RefB (by kernel_rfl) (by kernel_rfl)) (by kernel_rfl) (by kernel_rfl) (by kernel_rfl) (door_met os _)) ?_
  intro W base args ds gs before hval0 hW _ _ hL _
  have hval : ∀ (j : Nat) t v, Tryd.f6.params[j]? = some t → args[j]? = some v → Value.okWide Tryd.prog W .any base t v := hval0
  have hW' := hW
  obtain ⟨p, q, hA0, hV, rfl, hfz, hnd⟩ := hW
  have hA : DataW.TrodAll enc Tryd.prog W 0 (fun _ => true) true Tryd.f6.params.toList args.toList ds p := hA0
  rw [Tryd.params6] at hA hval
  obtain ⟨v0, vs0, d0, ds0, p0, q0, hargs, rfl, rfl, h0, r0⟩ := trodAll_cons hA
  obtain ⟨v1, vs1, d1, ds1, p1, q1, rfl, rfl, rfl, h1, r1⟩ := trodAll_cons r0
  obtain ⟨v2, vs2, d2, ds2, p2, q2, rfl, rfl, rfl, h2, r2⟩ := trodAll_cons r1
  obtain ⟨rfl, rfl, rfl⟩ := trodAll_nil r2
  obtain rfl : args = #[v0, v1, v2] := by cases args; simp_all
  obtain ⟨rfl, rfl⟩ := trodVars_none hV
  have k0 := h0
  have lt0 : ∀ x ∈ p0, x.block < W.heap.size := by obtain ⟨m, hm⟩ := k0; exact DataW.trod_lt m _ _ _ hm
  obtain ⟨a0, rfl, rfl, rfl, w0⟩ := open_int Tryd.underlying3 (hval 0 3 v0 rfl rfl) h0
  have k1 := h1
  have lt1 : ∀ x ∈ p1, x.block < W.heap.size := by obtain ⟨m, hm⟩ := k1; exact DataW.trod_lt m _ _ _ hm
  obtain ⟨a1, rfl, rfl, rfl, w1⟩ := open_int Tryd.underlying3 (hval 1 3 v1 rfl rfl) h1
  have k2 := h2
  have lt2 : ∀ x ∈ p2, x.block < W.heap.size := by obtain ⟨m, hm⟩ := k2; exact DataW.trod_lt m _ _ _ hm
  obtain ⟨a2, rfl, w2⟩ := open_step (hval 2 24 v2 rfl rfl) h2
  clear hA0 hval0
  refine (walk a0 a1 a2 W (of_laid hL) w0 w1 w2).mono fun e W' ⟨he, bel⟩ => ?_
  subst he
  exact ⟨_, rfl, _, _, _, [], _, [], hW', trodAll_mk1 (shut_bool Tryd.underlying4 _), (trodAll_cons_mk (Below.trod laidOut (by kernel_rfl) (of_decide_eq_true (by kernel_rfl)) k0 bel lt0) (trodAll_cons_mk (Below.trod laidOut (by kernel_rfl) (of_decide_eq_true (by kernel_rfl)) k1 bel lt1) (trodAll_cons_mk (Below.trod laidOut (by kernel_rfl) (of_decide_eq_true (by kernel_rfl)) k2 bel lt2) trodAll_mk0))), rfl, bel.frame _, fun h => by cases h⟩

theorem over : Rows.stepUndoesRow.holds Tryd.pinned (OpenSpec.ofChange Rows.stepUndoesSpec) :=
  OpenClaim.holds_of_wide 6 Tryd.f6 rfl rfl rfl rfl rfl rfl rfl ⟨rfl, rfl, rfl, rfl, rfl⟩ rfl rfl rfl rfl rfl (by kernel_rfl) Tryd.func6 (by kernel_rfl)
    (of_decide_eq_true (by kernel_rfl)) (by unfold Func.isWrapper; first | (rw [if_pos (by decide +kernel)]; kernel_rfl) | (rw [if_neg (by decide +kernel)]; exact ⟨rfl, rfl⟩))
    (fun os started H enc _ => lifted os started H enc)

theorem proved : Rows.StepUndoesCardSaid :=
  Claim7.holds_tied_plain_at .later [] [.data] true (true, "1ea3b0e1f906f0138b000609bc199b793b93454a5936b1b53978e693560eec91") false
    over (fun _ h => by cases h) (by kernel_rfl) (fun _ h => by cases h) stepUndoes_row_tie rfl ⟨rfl, rfl⟩ (by kernel_rfl) rfl
    (fun f fn hf hfn => by
      obtain rfl : f = 6 := Option.some.inj ((show Tryd.prog.funcNamed "pledge/pledgelaw12.StepUndoes" = some 6 by kernel_rfl).symm.trans hf) |>.symm
      obtain rfl : fn = Tryd.f6 := (Option.some.inj (Tryd.func6.symm.trans hfn)).symm
      exact ⟨by kernel_rfl, fun j t ht => by
        rw [Tryd.params6] at ht
        have hm : t ∈ [3, 3, 24] := by simpa using Array.mem_of_getElem? ht
        have hall : ([3, 3, 24].all fun u => !Tryd.prog.wantsStandIn u) = true := by kernel_rfl
        exact (show Tryd.prog.wantsStandIn t = false by simpa using List.all_eq_true.1 hall t hm)⟩)
    (by kernel_rfl)
#print axioms proved
end Go.Proofs.YtnmdplefedffnaaDoor.stepUndoes
