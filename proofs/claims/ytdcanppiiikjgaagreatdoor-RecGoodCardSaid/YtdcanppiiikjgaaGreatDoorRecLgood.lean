/- Whether a record may be, how great it is, what its kind is called and costs: the statement's walk. -/
import Derived.Test.YtdcanppiiikjgaaGreatDoorGrRecd
import Derived.Test.YtdcanppiiikjgaaGreatDoorRecRsz
import Derived.Test.YtdcanppiiikjgaaGreatDoorRecRsize
namespace Go.Proofs.YtdcanppiiikjgaaGreatDoor
open Go.RowKit Go.ChangeShapes Go.WideShapes
set_option linter.unusedVariables false
set_option linter.unusedSimpArgs false
set_option maxRecDepth 10000

theorem quiet_load_rc {W : World} {K : Act → Prop} {a : Act} {dst : Option Tmp} {x : Operand} {ty : TypeId} {pos : String} {after : Array Edge} {gd : Option (Nat × Bool)} {B : Nat} {r : Rv} (hC : RB W B r) (hx : a.eval x = .pointer (some ⟨B, 0, none⟩))
    (hk : K (a.put dst (.agg (rcs r)))) : (Oper.mk dst (.load 30 x) ty pos after gd).quiet Tryz.prog a (fun w' => ∃ p : After W, w' = p.w) K := by
  refine ⟨.agg (rcs r), fun w hw => ?_, hk⟩
  obtain ⟨p, rfl⟩ := hw
  unfold Oper.quietAt execOp
  simp only [hx, Instr.loadAt, Instr.sureAddr, Sem.run_bind, Sem.run_pure, Result.andThen_ok, run_loadVar_row p.w B 30 30 (rcs r) (0, 0) _ (hC.later p.h) Tryz.underlying30 rfl (by kernel_rfl)]
  exact ⟨rfl, rfl⟩
theorem few_sm {r : Rv} (h : fewX r = true) : r.ln ≤ 20 ∧ r.tn ≤ 30 ∧ r.wn ≤ 20 := by
  unfold fewX fewI at h
  split at h
  · assumption
  · exact absurd h (by decide)
set_option maxHeartbeats 16000000 in
theorem law_rgood (r : Rv) (L : List Ln) (T : List Tk) (M : List Ln) (W : World) (hw : Wd2 W) (hP : RvM W r L T M) (hok : Rxok (r.x L T M)) :
    Calls Tryz.prog 3 #[.agg (rcs r)] W fun e w' => e = .returned (.bool true) ∧ Below W.heap.size W w' := by
  obtain ⟨W1, hW1, hb1⟩ : ∃ W1, W.alloc (.cells (rcs r) 30) = W1 ∧ Below W.heap.size W W1 := ⟨_, rfl, (Below.refl _ _).alloc (Nat.le_refl _) _⟩
  obtain ⟨B, hB⟩ : ∃ B, W.heap.size = B := ⟨_, rfl⟩
  have hrb := RB.new W r
  rw [hW1, hB] at hrb
  have HX1 := Lib.hid hrb
  have HW1 := Lib.hid hW1
  have HB1 := Lib.hid hb1
  have HRE := Lib.hid hB
  have HV1 := Lib.hid (hw.later hb1)
  have HP1 := Lib.hid (hP.later hb1)
  have HOK := Lib.hid hok
  have hfew := rec_few r W1
  clear hW1 hB hb1 hrb hw hP hok
  cases hf : fewX r with
  | false =>
    rw [hf] at hfew
    clear hf
    go_enter Tryz.func3, Tryz.ntmps3
    go_upto_region 1 with (fail)
    rw [HW1.out, HRE.out]
    go_wp2_with ((with_reducible refine wpList_load_rc HX1.out ?_ ?_); rfl)
    refine hfew.mono ?_
    rintro e w2 ⟨rfl, h2⟩
    have HB2 := Lib.hid h2
    clear h2 hfew
    go_wp2_with fail
    refine (rec_works w2 (HV1.out.later HB2.out)).mono ?_
    rintro e w3 ⟨rfl, h3⟩
    have HB3 := Lib.hid (HB2.out.trans (h3.mono HB2.out.size))
    clear h3
    go_wp2_with fail
    go_ret
    exact ⟨rfl, HB1.out.trans (HB3.out.mono HB1.out.size)⟩
  | true =>
    rw [hf] at hfew
    have hs := few_sm hf
    clear hf
    go_enter Tryz.func3, Tryz.ntmps3
    go_upto_region 1 with (fail)
    rw [HW1.out, HRE.out]
    go_wp2_with ((with_reducible refine wpList_load_rc HX1.out ?_ ?_); rfl)
    refine hfew.mono ?_
    rintro e w2 ⟨rfl, h2⟩
    have HB2 := Lib.hid h2
    have HX2 := Lib.hid (HX1.out.later h2)
    clear h2 hfew
    go_wp2_with fail
    have hz4 : r.ln ≤ 400 ∧ r.tn ≤ 400 ∧ r.wn ≤ 400 := by omega
    have hz1 : r.ln ≤ 1000 ∧ r.tn ≤ 1000 ∧ r.wn ≤ 1000 := by omega
    have hbb := fun (p : After w2) => HB2.out.trans (p.h.mono HB2.out.size)
    have hc1 := fun (p : After w2) => rec_good r L T M p.w (HV1.out.1.later (hbb p)) (HP1.out.later (hbb p)) HOK.out hz4
    have hc2 := fun (p : After w2) => rrec_good r L T M p.w (HP1.out.later (hbb p)) HOK.out hz1
    have hc3 := fun (p : After w2) => size_x r L T M p.w (HV1.out.1.later (hbb p)) (HP1.out.later (hbb p)) HOK.out hz4
    have hc4 := fun (p : After w2) => rsize_x r L T M p.w (HP1.out.later (hbb p)) HOK.out hs
    have hc5 := fun (p : After w2) => cost_any r.k p.w
    have hc6 := fun (p : After w2) => rcost_any r.k HOK.out.k.1 p.w
    have hc7 := fun (p : After w2) => kword_any r.k HOK.out.k.1 HOK.out.k.2 p.w (HV1.out.2.later (hbb p))
    have hc8 := fun (p : After w2) => rkword_any r.k HOK.out.k.1 p.w
    have hc9 := fun (p : After w2) => rec_works p.w (HV1.out.later (hbb p))
    have c0 : ∀ p : After w2, p.w.cell? ⟨B, 0, none⟩ = some (.int .u8 r.k) := fun p => block_cell (HX2.out.later p.h) rfl
    generalize goodX (r.x L T M) = g at *
    generalize sizeX (r.x L T M) = sz at *
    generalize costI r.k = co at *
    generalize rwordB r.k.toNat = wo at *
    have e1 : (g == g) = true := by simp
    have e2 : (sz == sz) = true := by simp
    have e3 : (co == co) = true := by simp
    have e4 : (wo.toList == wo.toList) = true := by simp
    clear hz4 hz1 hbb hs
    refine wp_region_after (by kernel_rfl) (by kernel_rfl) ?_
    repeat (first | (go_big_quiet_want; (with_reducible refine quiet_load_rc HX2.out ?_ ?_); rfl; go_simp; go_big_quiet_on) | go_big_quiet_step (first | (go_at_call 7; exact calls_after _ (hc1 _)) | (go_at_call 8; exact calls_after _ (hc2 _)) | (go_at_call 9; exact calls_after _ (hc3 _)) | (go_at_call 10; exact calls_after _ (hc4 _)) | (go_at_call 11; exact calls_after _ (hc5 _)) | (go_at_call 12; exact calls_after_same _ (hc6 _)) | (go_at_call 13; exact calls_after_same _ (hc7 _)) | (go_at_call 14; exact calls_after_same _ (hc8 _)) | (go_at_call 6; exact calls_after _ (hc9 _))))
    refine wpQuiet_nil ?_
    intro w4 hw'
    obtain ⟨⟨wq, h6⟩, hw''⟩ := hw'
    subst hw''
    clear hc1 hc2 hc3 hc4 hc5 hc6 hc7 hc8 hc9 c0
    go_wp2_with fail
    go_ret
    exact ⟨rfl, HB1.out.trans ((HB2.out.trans (h6.mono HB2.out.size)).mono HB1.out.size)⟩
end Go.Proofs.YtdcanppiiikjgaaGreatDoor
