/- Two records held against one another: the statement's walk. -/
import Derived.Test.YtdcanppiiikjgaaDoorGrRecd
import Derived.Test.YtdcanppiiikjgaaDoorGrRecb
namespace Go.Proofs.YtdcanppiiikjgaaDoor
open Go.RowKit Go.ChangeShapes Go.WideShapes
set_option linter.unusedVariables false
set_option linter.unusedSimpArgs false
set_option maxRecDepth 10000

theorem quiet_load_rc {W : World} {K : Act → Prop} {a : Act} {dst : Option Tmp} {x : Operand} {ty : TypeId} {pos : String} {after : Array Edge} {gd : Option (Nat × Bool)} {B : Nat} {r : Rv} (hC : RB W B r) (hx : a.eval x = .pointer (some ⟨B, 0, none⟩))
    (hk : K (a.put dst (.agg (rcs r)))) : (Oper.mk dst (.load 30 x) ty pos after gd).quiet Tryd.prog a (fun w' => ∃ p : After W, w' = p.w) K := by
  refine ⟨.agg (rcs r), fun w hw => ?_, hk⟩
  obtain ⟨p, rfl⟩ := hw
  unfold Oper.quietAt execOp
  simp only [hx, Instr.loadAt, Instr.sureAddr, Sem.run_bind, Sem.run_pure, Result.andThen_ok, run_loadVar_row p.w B 30 30 (rcs r) (0, 0) _ (hC.later p.h) Tryd.underlying30 rfl (by kernel_rfl)]
  exact ⟨rfl, rfl⟩
theorem few_small {r : Rv} (h : fewX r = true) : r.ln ≤ 20 ∧ r.tn ≤ 30 ∧ r.wn ≤ 20 := by
  unfold fewX fewI at h
  split at h
  · assumption
  · exact absurd h (by decide)
set_option maxHeartbeats 8000000 in
theorem law_rsame (r r' : Rv) (L : List Ln) (T : List Tk) (M : List Ln) (L' : List Ln) (T' : List Tk) (M' : List Ln) (W : World) (hw : Wd2 W) (hP : RvM W r L T M) (hP' : RvM W r' L' T' M') :
    Calls Tryd.prog 4 #[.agg (rcs r), .agg (rcs r')] W fun e w' => e = .returned (.bool true) ∧ Below W.heap.size W w' := by
  obtain ⟨W1, hW1, hx, hx', hb1⟩ := two_recs W r r'
  have HX := Lib.hid hx
  have HX' := Lib.hid hx'
  have HW1 := Lib.hid hW1
  have HB1 := Lib.hid hb1
  have HV1 := Lib.hid (hw.later hb1)
  have HP := Lib.hid (hP.later hb1)
  have HP' := Lib.hid (hP'.later hb1)
  have hf1 := rec_few r W1
  clear hW1 hx hx' hb1 hw hP hP'
  cases hq : fewX r with
  | false =>
    rw [hq] at hf1
    clear hq
    go_enter Tryd.func4, Tryd.ntmps4
    go_upto_region 1 with (fail)
    rw [HW1.out]
    go_wp2_with ((with_reducible refine wpList_load_rc HX.out ?_ ?_); rfl)
    refine hf1.mono ?_
    rintro e w2 ⟨rfl, h2⟩
    have HB2 := Lib.hid h2
    clear h2 hf1
    go_wp2_with fail
    refine (rec_works w2 (HV1.out.later HB2.out)).mono ?_
    rintro e w3 ⟨rfl, h3⟩
    have HB3 := Lib.hid (HB2.out.trans (h3.mono HB2.out.size))
    clear h3
    go_wp2_with fail
    go_ret
    exact ⟨rfl, HB1.out.trans (HB3.out.mono HB1.out.size)⟩
  | true =>
    rw [hq] at hf1
    have HS := Lib.hid (few_small hq)
    clear hq
    cases hq' : fewX r' with
    | false =>
      have hf2 := fun w => rec_few r' w
      rw [hq'] at hf2
      clear hq'
      go_enter Tryd.func4, Tryd.ntmps4
      go_upto_region 1 with (fail)
      rw [HW1.out]
      go_wp2_with ((with_reducible refine wpList_load_rc HX.out ?_ ?_); rfl)
      refine hf1.mono ?_
      rintro e w2 ⟨rfl, h2⟩
      have HB2 := Lib.hid h2
      have HX2 := Lib.hid (HX'.out.later h2)
      clear h2 hf1
      go_wp2_with ((with_reducible refine wpList_load_rcg HX2.out ?_ ?_ ?_); rfl; rfl)
      refine (hf2 w2).mono ?_
      rintro e w3 ⟨rfl, h3⟩
      have HB3 := Lib.hid (HB2.out.trans (h3.mono HB2.out.size))
      clear h3 hf2
      go_wp2_with fail
      refine (rec_works w3 (HV1.out.later HB3.out)).mono ?_
      rintro e w4 ⟨rfl, h4⟩
      have HB4 := Lib.hid (HB3.out.trans (h4.mono HB3.out.size))
      clear h4
      go_wp2_with fail
      go_ret
      exact ⟨rfl, HB1.out.trans (HB4.out.mono HB1.out.size)⟩
    | true =>
      have hf2 := fun w => rec_few r' w
      rw [hq'] at hf2
      have HS' := Lib.hid (few_small hq')
      clear hq'
      go_enter Tryd.func4, Tryd.ntmps4
      go_upto_region 1 with (fail)
      rw [HW1.out]
      go_wp2_with ((with_reducible refine wpList_load_rc HX.out ?_ ?_); rfl)
      refine hf1.mono ?_
      rintro e w2 ⟨rfl, h2⟩
      have HB2 := Lib.hid h2
      have HX2 := Lib.hid (HX'.out.later h2)
      clear h2 hf1
      go_wp2_with ((with_reducible refine wpList_load_rcg HX2.out ?_ ?_ ?_); rfl; rfl)
      refine (hf2 w2).mono ?_
      rintro e w3 ⟨rfl, h3⟩
      have HB3 := Lib.hid (HB2.out.trans (h3.mono HB2.out.size))
      have HXa := Lib.hid (HX.out.later HB3.out)
      have HXb := Lib.hid (HX'.out.later HB3.out)
      clear h3 hf2 HX2
      go_wp2_with fail
      have hz1 : r.ln ≤ 1000 ∧ r.tn ≤ 1000 ∧ r.wn ≤ 1000 := by have := HS.out; omega
      have hz2 : r'.ln ≤ 1000 ∧ r'.tn ≤ 1000 ∧ r'.wn ≤ 1000 := by have := HS'.out; omega
      have hc1 := fun (p : After w3) => rec_same r r' L T M L' T' M' p.w (HP.out.later (HB3.out.trans (p.h.mono HB3.out.size))) (HP'.out.later (HB3.out.trans (p.h.mono HB3.out.size))) hz1 hz2
      have hc2 := fun (p : After w3) => rrec_same r r' L T M L' T' M' p.w (HP.out.later (HB3.out.trans (p.h.mono HB3.out.size))) (HP'.out.later (HB3.out.trans (p.h.mono HB3.out.size))) hz1 hz2
      have hc3 := fun (p : After w3) => rec_same r r L T M L T M p.w (HP.out.later (HB3.out.trans (p.h.mono HB3.out.size))) (HP.out.later (HB3.out.trans (p.h.mono HB3.out.size))) hz1 hz1
      rw [decide_eq_true rfl] at hc3
      have hc4 := fun (p : After w3) => rec_works p.w (HV1.out.later (HB3.out.trans (p.h.mono HB3.out.size)))
      generalize decide (r.x L T M = r'.x L' T' M') = z at *
      have hzz : (z == z) = true := by simp
      clear hz1 hz2
      refine wp_region_after (by kernel_rfl) (by kernel_rfl) ?_
      repeat (first | (go_big_quiet_want; (with_reducible refine quiet_load_rc HXa.out ?_ ?_); rfl; go_simp; go_big_quiet_on) | (go_big_quiet_want; (with_reducible refine quiet_load_rc HXb.out ?_ ?_); rfl; go_simp; go_big_quiet_on) | go_big_quiet_step (first | (go_at_call 11; first | (with_reducible exact calls_after _ (hc1 _)) | (with_reducible exact calls_after _ (hc3 _))) | (go_at_call 12; exact calls_after _ (hc2 _)) | (go_at_call 7; exact calls_after _ (hc4 _))))
      refine wpQuiet_nil ?_
      intro w4 hw'
      obtain ⟨⟨wq, h6⟩, hw''⟩ := hw'
      subst hw''
      clear hc1 hc2 hc3 hc4
      go_wp2_with fail
      go_ret
      exact ⟨rfl, HB1.out.trans ((HB3.out.trans (h6.mono HB3.out.size)).mono HB1.out.size)⟩
end Go.Proofs.YtdcanppiiikjgaaDoor
