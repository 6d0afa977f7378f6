/- Cut: the walk. -/
import Derived.Test.YtdkpjaobfohdfaaTapeCut
namespace Go.Proofs.Ytdkpjaobfohdfaa
open Go.RowKit Go.ChangeShapes Go.WideShapes
set_option linter.unusedVariables false
set_option maxRecDepth 10000
set_option linter.unusedSimpArgs false

theorem Cm.later {w wr w1 : World} {T : Nat} {mb : Option Nat} {Q : Nat → Prop} {a : Int} {s : Nat} {t : TS} {l j : Nat} (h : Cm w wr T mb Q a s t l j) (hb : Below wr.heap.size wr w1) : Cm w w1 T mb Q a s t l j := by
  have hc : Chg (fun _ => False) wr w1 := Chg.of_below hb
  refine ⟨block_later h.blk hb, fun b e => ?_, h.chg.trans hc fun _ _ h => h.elim, h.lo⟩
  obtain ⟨h1, z, D, h2, h3, h4⟩ := h.yes b e
  exact ⟨h1, z, D, h2.turn hc (fun h => h), h3, h4.keep hc fun _ _ h => h⟩
theorem idx_div {s : Nat} (hs : 0 < s) (f l : Nat) : (f * s + l) / s = f + l / s ∧ (f * s + l) % s = l % s := by
  constructor
  · rw [Nat.add_comm, Nat.add_mul_div_right _ _ hs, Nat.add_comm]
  · rw [Nat.add_comm, Nat.add_mul_mod_self_right]
section
variable {w : World} {T : Nat} {mb : Option Nat} {Q : Nat → Prop} {a : Int} {s : Nat} {t : TS}
set_option maxHeartbeats 1000000 in
set_option maxRecDepth 100000 in
theorem tape_cut (h : Tp w T mb Q a s t) (x : Int) (hbig : t.f * s + t.B.length ≤ 1000000) : Calls Try.prog 50 #[.pointer (some ⟨T, 0, none⟩), .int .i64 x] w fun e w' => e = .returned (.tuple #[]) ∧ Tp w' T mb Q a s (cutT s t x) ∧ Chg Q w w' := by
  have hs := h.s_in
  have hk := fun q => tape_kept x (t.f * s) (t.f * s + t.B.length) (w.drewN q)
  obtain ⟨g1, g2⟩ := left_spec s t x
  have HTP := Lib.hid h
  clear h
  rw [g1] at hk
  generalize hl : left' s t x = l at *
  have HCT : Hid (cutT s t x = ⟨t.f, t.B.take l⟩) := Lib.hid (by unfold cutT; rw [hl])
  obtain ⟨i1, i2⟩ := idx_div (by omega : 0 < s) t.f l
  clear g1 hl
  have hfs : t.f ≤ t.f * s := Nat.le_mul_of_pos_right _ (by omega)
  generalize hF : t.f * s = F at *
  generalize hE : F + t.B.length = E at *
  have HF := Lib.hid hF
  have HE := Lib.hid hE
  have HL := Lib.hid g2
  obtain ⟨c1, c2, _, hsg⟩ := HTP.out.at hF hE
  have hmod := Nat.mod_lt l (by omega : 0 < s)
  have hdle := Nat.div_le_self l s
  have hdp : l / s * s + l % s = l := div_parts
  have hpos := HL.out
  generalize hLL : F + l = C at *
  have HC := Lib.hid hLL
  have hCE : C ≤ E := by omega
  have hF6 : F ≤ 1000000 := by omega
  have q0 : ((s : Int) == 0) = false := by simp; omega
  have q1 : ¬ s = 0 := by omega
  generalize hy : l / s = y at *
  generalize hr : l % s = r at *
  have HY := Lib.hid hy
  have HR := Lib.hid hr
  have d1 : (C : Int).tdiv (s : Int) = ((t.f + y : Nat) : Int) := by rw [← i1]; rfl
  have d2 : (C : Int).tmod (s : Int) = (r : Int) := by rw [← i2]; rfl
  have d3 : IntKind.i64.wrap ((t.f + y : Nat) : Int) = ((t.f + y : Nat) : Int) := IntWalk.i64_in _ (by omega)
  have d4 : IntKind.i64.wrap (r : Int) = (r : Int) := IntWalk.i64_in _ (by omega)
  have HDP := Lib.hid hdp
  have hyb : t.f + y ≤ 1000000 := by omega
  have HYL : Hid (y + 1 ≤ t.B.length + 1) := Lib.hid (by omega)
  clear i1 i2 hF hE g2 hLL hdp hy hr hpos
  go_enter Try.func50, Try.ntmps50
  go_wp2_with fail
  go_quiet (first
    | (go_at_call 63; exact Calls.quiet_of_same (hk _)))
  go_wp2_with fail
  have HB1 : Hid (Below w.heap.size w (w.drewN nq)) := Lib.hid (below_drewN (Below.refl _ _) nq)
  clear hk hsg c1 c2
  obtain ⟨c1, c2, _, hsg⟩ := (HTP.out.drewN nq).at HF.out HE.out
  have HT1 := Lib.hid (HTP.out.drewN nq)
  generalize w.drewN nq = W1 at *
  go_quiet (first
    | (go_at_call 57; exact Calls.quiet_of_same (hsg _)))
  have HB2 := Lib.hid (below_drewN HB1.out nq)
  have HT2 := Lib.hid (HT1.out.drewN nq)
  clear hsg c1 c2 d1 d2 d3 d4 HB1 HT1
  generalize W1.drewN nq = W2 at *
  by_cases hr0 : 0 < r
  · have hpl : y * s < t.B.length := by have := HL.out; have := HDP.out; omega
    obtain ⟨b, rfl⟩ : ∃ b, mb = some b := by
      cases mb with
      | none =>
        have := (HTP.out.no rfl).2
        rw [this] at hpl
        simp at hpl
      | some b => exact ⟨b, rfl⟩
    obtain ⟨_, z, D, hown, hT, hS⟩ := HT2.out.yes b rfl
    have HO := Lib.hid hown
    have HTM := Lib.hid hT
    have HSG := Lib.hid hS
    have wf : (Lit.int .i64 ((t.f + y : Nat) : Int)).wf = true := WalkArith.wf_i64 (by omega)
    have hlk := look_at (w := W2.drew) (MapB.turn hown ((Chg.refl (fun _ => False) _).drewN 1) (fun h => h)) hT wf
    rw [So_at, if_pos hpl] at hlk
    unfold svV at hlk
    rw [Int.natCast_add] at hlk
    have hsgl : (sg s t.B y).length = min s (t.B.length - y * s) := sg_len ..
    have hrl : r ≤ (sg s t.B y).length := by have := HL.out; have := HDP.out; omega
    have hcap : (sg s t.B y).length ≤ (z (t.f + y)).2 ∧ (z (t.f + y)).2 ≤ maxLen := by
      have hbl := (hS.row y hpl).2.bl
      exact ⟨hbl.cap, hbl.max⟩
    have hmx : (z (t.f + y)).2 ≤ 9223372036854775807 := by have := hcap.2; unfold maxLen at this; omega
    have HSTEP := Lib.hid fun (n : Nat) (w1 : World) (h1 : MapB w1 b n (D.put (kL ((t.f + l / s : Nat) : Int)) (.held (some ⟨(z (t.f + l / s)).1, 0, none⟩, l % s, (z (t.f + l / s)).2)))) (hc : Chg (fun k => k = b) W2 w1) => cut_part HTP.out HB2.out HL.out (by rw [HR.out]; exact hr0) HO.out HTM.out HSG.out h1 hc
    rw [HY.out, HR.out] at HSTEP
    have h23 : r ≤ (z (t.f + y)).2 := by omega
    have c3 := HT2.out.cells.2.2.2
    clear hown hT hS hsgl
    generalize (sg s t.B y).length = n0 at *
    generalize (z (t.f + y)).1 = zg at *
    generalize (z (t.f + y)).2 = zc at *
    clear hcap
    go_wp2_with fail
    go_still_tail 13, (by kernel_rfl)
    repeat still_step
    change wpList _ _ _ _ _ W2.drew
    refine wpList_mapUpdate_b rfl _ _ _ rfl b _ D rfl (MapB.turn HO.out ((Chg.refl (fun _ => False) _).drewN 1) (fun h => h)) ?_ ((t.f + y : Nat) : Int) wf rfl (some ⟨zg, 0, none⟩) r zc rfl ?_
    · have := nS_le (s := s) (n := t.B.length) (by omega)
      have := HE.out
      omega
    intro w3 hm3 hc3
    have HS0 : Hid (Cm w w3 T (some b) Q a s t l (y + 1)) := Lib.hid (HSTEP.out _ w3 hm3 hc3.undrew)
    have e9 : ((t.f : Int) + (y : Int)) + 1 = ((t.f + (y + 1) : Nat) : Int) := by omega
    have HJ : Hid (y + 1 ≤ t.B.length + 1) := HYL
    clear HSTEP hlk c3 hm3 hc3 HO HTM HSG wf h23 hrl hpl
    go_wp2_with fail
    go_loopw [6] (fun n wr => ∃ j : Nat, n = .int .i64 (t.f + j : Nat) ∧ Hid (j ≤ t.B.length + 1) ∧ Hid (Cm w wr T (some b) Q a s t l j)) (fun n _ => t.f + t.B.length + 2 - (intOf n).toNat)
    case atStart => exact ⟨y + 1, by go_num, HJ, HS0⟩
    case round =>
      obtain ⟨j, rfl, HJJ, HD⟩ := hrel
      have hblk := HD.out.blk
      rw [HF.out, HE.out] at hblk
      have hP : (t.f + j) * s = F + j * s := by rw [Nat.add_mul, HF.out]
      have hjs : j * s ≤ 1000001 * 4096 := Nat.mul_le_mul (by have := HJJ.out; have := HE.out; omega) hs.2
      have m1 : ((t.f : Int) + (j : Int)) * (s : Int) = ((F + j * s : Nat) : Int) := by
        rw [← hP]
        push_cast
        rfl
      have m2 : IntKind.i64.wrap ((F + j * s : Nat) : Int) = ((F + j * s : Nat) : Int) := IntWalk.i64_in _ (by omega)
      have hcond : F + j * s < E ↔ j * s < t.B.length := by have := HE.out; omega
      have c2 := fun q => show (wr.drewN q).cell? ⟨T, 2, none⟩ = some (.int .i64 (E : Nat)) from block_cell (j := 2) hblk rfl
      have hsg := fun q => tape_seg0 T a s (wr.drewN q) (block_cell (j := 0) hblk rfl) HTP.out.seg
      clear hP hblk
      generalize F + j * s = P at *
      by_cases hlt : P < E
      · have hlt' : decide ((P : Int) < (E : Int)) = true := decide_eq_true (by omega)
        have hlt2 : (P : Int) < (E : Int) := by omega
        go_wp2_with fail
        go_quiet (first
          | (go_at_call 57; exact Calls.quiet_of_same (hsg _)))
        have HD5 := Lib.hid (HD.out.later (below_drewN (Below.refl _ _) nq))
        clear c2 hsg HD m1 m2
        generalize wr.drewN nq = W5 at *
        have hjl := hcond.1 hlt
        obtain ⟨b', hb'⟩ : ∃ b', (some b) = some b' := by
          cases hmb : (some b) with
          | none =>
            have := (HTP.out.no hmb).2
            rw [this] at hjl
            simp at hjl
          | some b' => exact ⟨b', rfl⟩
        obtain rfl : b = b' := by cases hb'; rfl
        clear hb'
        obtain ⟨hQb, z, D, hown, hT, hS⟩ := HD5.out.yes b rfl
        have HTM := Lib.hid hT
        have HSG := Lib.hid hS
        have HO := Lib.hid hown
        have HQB := Lib.hid hQb
        have HJL := Lib.hid hjl
        have c3 := block_cell (j := 3) HD5.out.blk (v := .map (some b)) rfl
        have hjj : j ≤ 1000000 := by have := (lt_nS (s := s) (by omega)).2 hjl; have := nS_le (s := s) (n := t.B.length) (by omega); have := HE.out; omega
        have htf : t.f ≤ 1000000 := by omega
        have wf : (Lit.int .i64 ((t.f + j : Nat) : Int)).wf = true := WalkArith.wf_i64 (by omega)
        clear hown hT hS hQb hcond hjl
        go_wp2_with (first | (at_delete; refine wpList_delete_b rfl _ _ rfl b _ D rfl HO.out ((t.f + j : Nat) : Int) wf rfl ?_; intro w6 hm6 hc6) | fail)
        have HN := Lib.hid (Cm.step (by omega) HD5.out HTP.out.q HL.out HJL.out HQB.out HO.out HTM.out HSG.out hm6 hc6)
        go_wp2_with fail
        go_roundw
        case rel => exact ⟨j + 1, by go_num, Lib.hid (by have := HJL.out; have := (lt_nS (s := s) (by omega)).2 this; have := nS_le (s := s) (n := t.B.length) (by omega); omega), HN⟩
        case measure => simp [intOf]; have := HJJ.out; omega
      · have hlt' : decide ((P : Int) < (E : Int)) = false := decide_eq_false (by omega)
        have hlt2 : ¬ (P : Int) < (E : Int) := by omega
        have HNJ := Lib.hid fun h => hlt (hcond.2 h)
        go_wp2_with fail
        go_quiet (first
          | (go_at_call 57; exact Calls.quiet_of_same (hsg _)))
        have HD5 := Lib.hid (HD.out.later (below_drewN (Below.refl _ _) nq))
        clear c2 hsg HD m1 m2 hcond
        generalize wr.drewN nq = W5 at *
        have c2 := block_cell (j := 2) HD5.out.blk (v := .int .i64 (t.f * s + t.B.length : Nat)) rfl
        have f2 := block_free 2 HD5.out.blk
        have HBLK := Lib.hid HD5.out.blk
        go_wp2_with fail
        go_end0
        rw [HCT.out]
        refine ⟨rfl, ⟨HTP.out.seg, ?_, fun e => ?_, fun b e => (HD5.out.sm (by omega) e HL.out HNJ.out).put HBLK.out 2 _, HTP.out.q⟩, HD5.out.chg.trans (T := fun k => k = T) ((Chg.refl _ _).setCell _ _ fun _ => rfl) fun k _ e => by rw [e]; exact HTP.out.q⟩
        · have hput := block_put 2 (.int .i64 ((C : Nat) : Int)) HBLK.out
          have hx4 : t.f * s + (t.B.take l).length = C := by rw [List.length_take]; have := HC.out; have := HF.out; have := HL.out; omega
          show _ = some (Obj.cells #[.int .i64 a, .int .i64 (t.f * s : Nat), .int .i64 (t.f * s + (t.B.take l).length : Nat), .map _] _ _)
          rw [hx4]
          exact hput
        · obtain ⟨h1, h2⟩ := HTP.out.no e
          exact ⟨h1, by show t.B.take l = []; rw [h2]; simp⟩
  · have hr1 : ¬ (0 : Int) < (r : Int) := by omega
    have hr2 : ¬ 0 < r := hr0
    have HS0 : Hid (Cm w W2 T mb Q a s t l y) := Lib.hid (HY.out ▸ cut_whole HTP.out HB2.out HL.out (by rw [HR.out]; omega))
    have HJ : Hid (y ≤ t.B.length + 1) := Lib.hid (by have := HYL.out; omega)
    go_wp2_with fail
    generalize W2 = w3 at *
    go_loopw [6] (fun n wr => ∃ j : Nat, n = .int .i64 (t.f + j : Nat) ∧ Hid (j ≤ t.B.length + 1) ∧ Hid (Cm w wr T mb Q a s t l j)) (fun n _ => t.f + t.B.length + 2 - (intOf n).toNat)
    case atStart => exact ⟨y, by go_num, HJ, HS0⟩
    case round =>
      obtain ⟨j, rfl, HJJ, HD⟩ := hrel
      have hblk := HD.out.blk
      rw [HF.out, HE.out] at hblk
      have hP : (t.f + j) * s = F + j * s := by rw [Nat.add_mul, HF.out]
      have hjs : j * s ≤ 1000001 * 4096 := Nat.mul_le_mul (by have := HJJ.out; have := HE.out; omega) hs.2
      have m1 : ((t.f : Int) + (j : Int)) * (s : Int) = ((F + j * s : Nat) : Int) := by
        rw [← hP]
        push_cast
        rfl
      have m2 : IntKind.i64.wrap ((F + j * s : Nat) : Int) = ((F + j * s : Nat) : Int) := IntWalk.i64_in _ (by omega)
      have hcond : F + j * s < E ↔ j * s < t.B.length := by have := HE.out; omega
      have c2 := fun q => show (wr.drewN q).cell? ⟨T, 2, none⟩ = some (.int .i64 (E : Nat)) from block_cell (j := 2) hblk rfl
      have hsg := fun q => tape_seg0 T a s (wr.drewN q) (block_cell (j := 0) hblk rfl) HTP.out.seg
      clear hP hblk
      generalize F + j * s = P at *
      by_cases hlt : P < E
      · have hlt' : decide ((P : Int) < (E : Int)) = true := decide_eq_true (by omega)
        have hlt2 : (P : Int) < (E : Int) := by omega
        go_wp2_with fail
        go_quiet (first
          | (go_at_call 57; exact Calls.quiet_of_same (hsg _)))
        have HD5 := Lib.hid (HD.out.later (below_drewN (Below.refl _ _) nq))
        clear c2 hsg HD m1 m2
        generalize wr.drewN nq = W5 at *
        have hjl := hcond.1 hlt
        obtain ⟨b', hb'⟩ : ∃ b', mb = some b' := by
          cases hmb : mb with
          | none =>
            have := (HTP.out.no hmb).2
            rw [this] at hjl
            simp at hjl
          | some b' => exact ⟨b', rfl⟩
        subst hb'
        obtain ⟨hQb, z, D, hown, hT, hS⟩ := HD5.out.yes b' rfl
        have HTM := Lib.hid hT
        have HSG := Lib.hid hS
        have HO := Lib.hid hown
        have HQB := Lib.hid hQb
        have HJL := Lib.hid hjl
        have c3 := block_cell (j := 3) HD5.out.blk (v := .map (some b')) rfl
        have hjj : j ≤ 1000000 := by have := (lt_nS (s := s) (by omega)).2 hjl; have := nS_le (s := s) (n := t.B.length) (by omega); have := HE.out; omega
        have htf : t.f ≤ 1000000 := by omega
        have wf : (Lit.int .i64 ((t.f + j : Nat) : Int)).wf = true := WalkArith.wf_i64 (by omega)
        clear hown hT hS hQb hcond hjl
        go_wp2_with (first | (at_delete; refine wpList_delete_b rfl _ _ rfl b' _ D rfl HO.out ((t.f + j : Nat) : Int) wf rfl ?_; intro w6 hm6 hc6) | fail)
        have HN := Lib.hid (Cm.step (by omega) HD5.out HTP.out.q HL.out HJL.out HQB.out HO.out HTM.out HSG.out hm6 hc6)
        go_wp2_with fail
        go_roundw
        case rel => exact ⟨j + 1, by go_num, Lib.hid (by have := HJL.out; have := (lt_nS (s := s) (by omega)).2 this; have := nS_le (s := s) (n := t.B.length) (by omega); omega), HN⟩
        case measure => simp [intOf]; have := HJJ.out; omega
      · have hlt' : decide ((P : Int) < (E : Int)) = false := decide_eq_false (by omega)
        have hlt2 : ¬ (P : Int) < (E : Int) := by omega
        have HNJ := Lib.hid fun h => hlt (hcond.2 h)
        go_wp2_with fail
        go_quiet (first
          | (go_at_call 57; exact Calls.quiet_of_same (hsg _)))
        have HD5 := Lib.hid (HD.out.later (below_drewN (Below.refl _ _) nq))
        clear c2 hsg HD m1 m2 hcond
        generalize wr.drewN nq = W5 at *
        have c2 := block_cell (j := 2) HD5.out.blk (v := .int .i64 (t.f * s + t.B.length : Nat)) rfl
        have f2 := block_free 2 HD5.out.blk
        have HBLK := Lib.hid HD5.out.blk
        go_wp2_with fail
        go_end0
        rw [HCT.out]
        refine ⟨rfl, ⟨HTP.out.seg, ?_, fun e => ?_, fun b e => (HD5.out.sm (by omega) e HL.out HNJ.out).put HBLK.out 2 _, HTP.out.q⟩, HD5.out.chg.trans (T := fun k => k = T) ((Chg.refl _ _).setCell _ _ fun _ => rfl) fun k _ e => by rw [e]; exact HTP.out.q⟩
        · have hput := block_put 2 (.int .i64 ((C : Nat) : Int)) HBLK.out
          have hx4 : t.f * s + (t.B.take l).length = C := by rw [List.length_take]; have := HC.out; have := HF.out; have := HL.out; omega
          show _ = some (Obj.cells #[.int .i64 a, .int .i64 (t.f * s : Nat), .int .i64 (t.f * s + (t.B.take l).length : Nat), .map _] _ _)
          rw [hx4]
          exact hput
        · obtain ⟨h1, h2⟩ := HTP.out.no e
          exact ⟨h1, by show t.B.take l = []; rw [h2]; simp⟩
theorem tape_cut0 (x : Int) (w : World) : Calls Try.prog 50 #[.pointer none, .int .i64 x] w fun e w' => e = .returned (.tuple #[]) ∧ w' = w := by
  go_enter Try.func50, Try.ntmps50
  go_wp2_with fail
  refine bodyPost_ret (results_none rfl _ _ _) rfl ?_
  exact ⟨rfl, rfl⟩
end
end Go.Proofs.Ytdkpjaobfohdfaa
