/-
  DiskSure answers true of any acts and any two numbers, and writes nothing that was there. No condition.
PLAIN4
-/
import Derived.Test.YtnciihekbbmiaaaRows
import Derived.Test.YtnciihekbbmiaaaDiskOpen
import Derived.Test.YtnciihekbbmiaaaDiskFour
import Derived.WalkKit
import Derived.ProofKit
import Derived.OpenShut
import Derived.ShutString
import Derived.ChangeOld
import Derived.Below
namespace Go.Proofs.Ytnciihekbbmiaaa.diskSure
open Go.ChangeShapes Go.WideShapes Go.ChangeAt Go.RowKit
open Go.ChangeMaps (open_string shut_string)
set_option linter.unusedVariables false

theorem own : ownKnob Try.prog.godebug = none := by kernel_rfl
theorem laidOut : laidOutB Try.prog = true := by kernel_rfl

set_option maxHeartbeats 1000000 in
set_option maxRecDepth 100000 in
theorem walk (a0 : Option Addr) (len0 cap0 : Nat) (L0 : List Ac) (a1 : Int) (a2 : Int) (w : World) (w0 : AL w a0 len0 cap0 L0 ∧ ∀ y ∈ L0, AnyA y) (w1 : (Lit.int .i64 a1).wf = true) (w2 : (Lit.int .i64 a2).wf = true) :
    Calls Try.prog 4 #[.slice a0 len0 cap0, .int .i64 a1, .int .i64 a2] w fun e w' => e = .returned (.bool true) ∧ Below w.heap.size w w' := by
  obtain ⟨hA, _⟩ := w0
  have hf := few_any a0 len0 cap0 L0 w hA
  have HA := Lib.hid hA
  clear hA w1 w2
  go_enter Try.func4, Try.ntmps4
  go_wp2_with fail
  refine hf.mono ?_
  rintro e w' ⟨⟨tf, rfl, hlen⟩, rfl⟩
  cases tf with
  | false =>
    go_wp2_with fail
    refine (disk_works _).mono ?_
    rintro e W3 ⟨rfl, hb3⟩
    have HB3 := Lib.hid hb3
    clear hb3
    go_wp2_with fail
    go_ret
    exact ⟨rfl, HB3.out⟩
  | true =>
    obtain ⟨hl40, hm3⟩ := hlen rfl
    have hp := played_any a0 len0 cap0 L0 w' HA.out hl40 hm3
    clear hf hlen hm3
    go_wp2_with fail
    refine hp.mono ?_
    rintro e W1 ⟨B0, d, col1, rfl, hd1, hh1, htot, hL, hlk⟩
    have hz := hd1.z_in
    have hsT := d.sT_len (by omega)
    have htw0 := sync_twin d
    have hv4 : d.V.length = 4 := by rw [hlk.2.2.2.2]; exact pd_facts.2.2.1
    have hLn : (d.sync).L = [] := rfl
    have hcp := disk_copy hd1 (by omega) (by omega) 7 (by omega)
    have HTOT := Lib.hid htot
    have HL := Lib.hid hL
    have HZ := Lib.hid hz
    have HST := Lib.hid hsT
    have HV4 := Lib.hid hv4
    have HD1 := Lib.hid hd1
    have HH1 := Lib.hid hh1
    clear hp hd1 hh1 htot hL hlk hz hsT htw0 hv4 hLn
    go_wp2_with fail
    refine hcp.mono ?_
    rintro e W2 ⟨B1, rfl, ⟨col2, he2, hda2⟩, _, hb2⟩
    have hd2 := (HD1.out.recol he2).later hb2
    have hh2 := (HH1.out.ext he2).later hb2
    have hcp := disk_copy hd2 (by have := HTOT.out; omega) (by have := HL.out; omega) 13 (by omega)
    have HD2 := Lib.hid hd2
    have HH2 := Lib.hid hh2
    have HA2 := Lib.hid hda2
    clear he2 hda2 hb2 hd2 hh2 HD1 HH1
    go_wp2_with fail
    refine hcp.mono ?_
    rintro e W3 ⟨B2, rfl, ⟨col3, he3, hdb3⟩, _, hb3⟩
    have hd3 := (HD2.out.recol he3).later hb3
    have hcp := disk_copy hd3 (by have := HTOT.out; omega) (by have := HL.out; omega) 19 (by omega)
    have HA3 := Lib.hid ((HA2.out.recol he3).later hb3)
    have HH3 := Lib.hid ((HH2.out.ext he3).later hb3)
    have HD3 := Lib.hid hd3
    have HB3 := Lib.hid hdb3
    clear he3 hdb3 hb3 hd3 HD2 HH2 HA2
    go_wp2_with fail
    refine hcp.mono ?_
    rintro e W4 ⟨B3, rfl, ⟨col4, he4, hdc4⟩, _, hb4⟩
    have h4 : Four w' W4 col4 B0 B1 B2 B3 d d d d := ⟨(HH3.out.ext he4).later hb4, (HD3.out.recol he4).later hb4, (HA3.out.recol he4).later hb4, (HB3.out.recol he4).later hb4, hdc4⟩
    have hsy := disk_sync h4.h1 (by have := HTOT.out; omega) (by have := HL.out; omega)
    have H4 := Lib.hid h4
    clear he4 hdc4 hb4 h4 HD3 HH3 HA3 HB3
    go_wp2_with fail
    refine hsy.mono ?_
    rintro e W5 ⟨rfl, ht5⟩
    obtain ⟨col5, h5⟩ := H4.out.act1 ht5
    have hpn := disk_pending h5.h0
    have hcr := disk_crash h5.h2 (by have := HTOT.out; omega) (by have := HL.out; omega) (d.L.length : Nat) a2
    have H5 := Lib.hid h5
    clear hsy ht5 h5 H4
    generalize hb1s : d.crash (d.L.length : Nat) a2 = b1 at *
    have HTB : Hid (Twin b1 d) := Lib.hid (hb1s ▸ crash_all_twin d a2)
    clear hb1s
    generalize hn0 : d.L.length = n0 at *
    have HN0 := Lib.hid hn0
    clear hn0
    go_wp2_with fail
    refine hpn.mono ?_
    rintro e W5' ⟨rfl, rfl⟩
    clear hpn
    go_wp2_with fail
    refine hcr.mono ?_
    rintro e W6 ⟨rfl, ht6⟩
    obtain ⟨col6, h6⟩ := H5.out.act2 ht6
    have hsl : d.sync.sT.len d.sync.z ≤ 1000000 := by
      have := HST.out
      have := HTOT.out
      show d.sT.len d.z ≤ 1000000
      omega
    have hsv : d.sync.V.length ≤ 1000000 := by rw [(sync_like d).2.2.2.2, HV4.out]; omega
    have htw := twins_true h6.h1 h6.h2 ((sync_twin d).trans HTB.out.symm) hsl hsv
    have H6 := Lib.hid h6
    have HSL := Lib.hid hsl
    have HSV := Lib.hid hsv
    clear hcr ht6 h6 hsl hsv H5
    go_wp2_with fail
    refine htw.mono ?_
    rintro e W7 ⟨rfl, hb7⟩
    have H7 := Lib.hid (H6.out.later hb7)
    have htw2 := twins_true H7.out.h1 H7.out.h0 (sync_twin d) HSL.out HSV.out
    clear htw hb7 H6
    go_wp2_with fail
    refine htw2.mono ?_
    rintro e W8 ⟨rfl, hb8⟩
    have H8 := Lib.hid (H7.out.later hb8)
    have hcr := disk_crash H8.out.h1 (Nat.le_trans (sync_tot d (by have := HZ.out; omega)) (by have := HTOT.out; omega)) (by show 0 ≤ 1000000; omega) 0 0
    clear htw2 hb8 H7
    have HTA : Hid (Twin (d.sync.crash 0 0) d.sync) := Lib.hid (crash_nil_twin _ rfl 0 0)
    have HVA : Hid ((d.sync.crash 0 0).V.length ≤ 1000000) := Lib.hid (by rw [(crash_like _ _ _).2.2.2.2]; exact HSV.out)
    generalize d.sync.crash 0 0 = a3 at *
    go_wp2_with fail
    refine hcr.mono ?_
    rintro e W9 ⟨rfl, ht9⟩
    obtain ⟨col9, h9⟩ := H8.out.act1 ht9
    have hcr2 := disk_crash h9.h3 (by have := HTOT.out; omega) (by rw [HN0.out]; have := HL.out; omega) a1 a2
    have H9 := Lib.hid h9
    clear hcr ht9 h9 H8
    have HC1L : Hid ((d.crash a1 a2).L = []) := Lib.hid rfl
    have HC1T : Hid ((d.crash a1 a2).tot ≤ 12000) := Lib.hid (Nat.le_trans (crash_tot d a1 a2 (by have := HZ.out; omega)) HTOT.out)
    have HC1V : Hid ((d.crash a1 a2).V.length = 4) := Lib.hid (by rw [(crash_like d a1 a2).2.2.2.2]; exact HV4.out)
    generalize d.crash a1 a2 = c1 at *
    go_wp2_with fail
    refine hcr2.mono ?_
    rintro e W10 ⟨rfl, ht10⟩
    obtain ⟨col10, h10⟩ := H9.out.act3 ht10
    have hcp := disk_copy h10.h3 (by have := HC1T.out; omega) (by rw [HC1L.out]; show 0 ≤ 1000000; omega) 1 (by omega)
    have H10 := Lib.hid h10
    clear hcr2 ht10 h10 H9
    go_wp2_with fail
    refine hcp.mono ?_
    rintro e W11 ⟨E0, rfl, hce, _, hb11⟩
    obtain ⟨col11, h11⟩ := H10.out.renew hce hb11
    have hcr3 := disk_crash h11.h0 (by have := HC1T.out; omega) (by rw [HC1L.out]; show 0 ≤ 1000000; omega) a1 a2
    have H11 := Lib.hid h11
    have HTE : Hid (Twin (c1.crash a1 a2) c1) := Lib.hid (crash_nil_twin _ HC1L.out _ _)
    clear hcp hce hb11 h11 H10
    generalize c1.crash a1 a2 = e1 at *
    go_wp2_with fail
    refine hcr3.mono ?_
    rintro e W12 ⟨rfl, ht12⟩
    obtain ⟨col12, h12⟩ := H11.out.act0 ht12
    have hta : a3.sT.len a3.z ≤ 1000000 := by rw [HTA.out.t, HTA.out.z]; exact HSL.out
    have htw3 := twins_true h12.h1 h12.h2 (HTA.out.trans ((sync_twin d).trans HTB.out.symm)) hta HVA.out
    have H12 := Lib.hid h12
    clear hcr3 ht12 h12 hta H11
    go_wp2_with fail
    refine htw3.mono ?_
    rintro e W13 ⟨rfl, hb13⟩
    have H13 := Lib.hid (H12.out.later hb13)
    have hz3 := H13.out.h3.z_in
    have htw4 := twins_true H13.out.h3 H13.out.h0 HTE.out.symm (by have := c1.sT_len (by omega); have := HC1T.out; omega) (by rw [HC1V.out]; omega)
    have hpn := fun w' (hb : Below W13.heap.size W13 w') => disk_pending (H13.out.h3.later hb)
    rw [HC1L.out] at hpn
    have HPN : Hid (∀ w', Below W13.heap.size W13 w' → Calls Try.prog 19 #[.pointer (some ⟨B3, 0, none⟩)] w' fun e w'' => e = .returned (.int .i64 0) ∧ w'' = w') := Lib.hid hpn
    clear htw3 hb13 hz3 hpn H12
    go_wp2_with fail
    refine htw4.mono ?_
    rintro e W14 ⟨rfl, hb14⟩
    have hpn := HPN.out W14 hb14
    have HB14 := Lib.hid (H13.out.later hb14).hd.below
    clear htw4 hb14
    go_wp2_with fail
    refine hpn.mono ?_
    rintro e W15 ⟨rfl, rfl⟩
    go_wp2_with fail
    refine (disk_works _).mono ?_
    rintro e W16 ⟨rfl, hb16⟩
    have HB16 := Lib.hid (HB14.out.trans (hb16.mono HB14.out.size))
    clear hb16
    go_wp2_with fail
    go_ret
    exact ⟨rfl, HB16.out⟩

set_option maxRecDepth 100000 in
theorem lifted (os : Os) (started : os.Started) (H : Type) (enc : TypeId × Value → H) :
    ReturnsInHanded {} Try.checked os 4 .any (Rows.diskSureSpec.pre6 enc Try.prog Try.f4 Rows.diskSureRow.domain false) (Rows.diskSureSpec.post enc Try.prog Try.f4 false true false false) := by
  refine returnsInHanded_of_change (C := Try.checked) own started (by kernel_rfl) Try.func4
    (ChangeSpec.witness6 (enc := enc) (C := Try.checked) false ⟨#[], #[.slice none 0 0, .int .i64 0, .int .i64 0], []⟩ 8 (by kernel_rfl) (by kernel_rfl) (by kernel_rfl) (by kernel_rfl)) ?_
  intro W base args ds gs before hval0 hW hcnd _
  have hval : ∀ (j : Nat) t v, Try.f4.params[j]? = some t → args[j]? = some v → Value.okWide Try.prog W .any base t v := hval0
  have hW' := hW
  obtain ⟨p, q, hA0, hV, rfl, hfz, hnd⟩ := hW
  have hA : DataW.TrodAll enc Try.prog W 0 (fun _ => true) true Try.f4.params.toList args.toList ds p := hA0
  rw [Try.params4] at hA hval
  obtain ⟨v0, vs0, d0, ds0, p0, q0, hargs, rfl, rfl, h0, r0⟩ := trodAll_cons hA
  obtain ⟨v1, vs1, d1, ds1, p1, q1, rfl, rfl, rfl, h1, r1⟩ := trodAll_cons r0
  obtain ⟨v2, vs2, d2, ds2, p2, q2, rfl, rfl, rfl, h2, r2⟩ := trodAll_cons r1
  obtain ⟨rfl, rfl, rfl⟩ := trodAll_nil r2
  obtain rfl : args = #[v0, v1, v2] := by cases args; simp_all
  obtain ⟨rfl, rfl⟩ := trodVars_none hV
  obtain ⟨a0, len0, cap0, rfl⟩ := okWide_slice Try.underlying23 (hval 0 23 v0 rfl rfl)
  have k0 := h0
  have lt0 : ∀ x ∈ p0, x.block < W.heap.size := by obtain ⟨m, hm⟩ := k0; exact DataW.trod_lt m _ _ _ hm
  obtain ⟨L0, w0⟩ : ∃ L, AL W a0 len0 cap0 L ∧ ∀ y ∈ L, AnyA y := by
    obtain ⟨fuel, hf⟩ := h0
    exact open_acts hf
  have k1 := h1
  have lt1 : ∀ x ∈ p1, x.block < W.heap.size := by obtain ⟨m, hm⟩ := k1; exact DataW.trod_lt m _ _ _ hm
  obtain ⟨a1, rfl, rfl, rfl, w1⟩ := open_int Try.underlying3 (hval 1 3 v1 rfl rfl) h1
  have k2 := h2
  have lt2 : ∀ x ∈ p2, x.block < W.heap.size := by obtain ⟨m, hm⟩ := k2; exact DataW.trod_lt m _ _ _ hm
  obtain ⟨a2, rfl, rfl, rfl, w2⟩ := open_int Try.underlying3 (hval 2 3 v2 rfl rfl) h2
  clear hA0 hval0
  refine (walk a0 len0 cap0 L0 a1 a2 W w0 w1 w2).mono fun e W' ⟨he, bel⟩ => ?_
  subst he
  exact ⟨_, rfl, _, _, _, [], _, [], hW', trodAll_mk1 (shut_bool Try.underlying4 _), (trodAll_cons_mk (Below.trod laidOut (by kernel_rfl) (of_decide_eq_true (by kernel_rfl)) k0 bel lt0) (trodAll_cons_mk (Below.trod laidOut (by kernel_rfl) (of_decide_eq_true (by kernel_rfl)) k1 bel lt1) (trodAll_cons_mk (Below.trod laidOut (by kernel_rfl) (of_decide_eq_true (by kernel_rfl)) k2 bel lt2) trodAll_mk0))), rfl, bel.frame _, fun h => by cases h⟩

theorem over : Rows.diskSureRow.holds Try.pinned (OpenSpec.ofChange Rows.diskSureSpec) :=
  OpenClaim.holds_of_wide 4 Try.f4 rfl rfl rfl rfl rfl rfl rfl ⟨rfl, rfl, rfl, rfl, rfl⟩ rfl rfl rfl rfl rfl (by kernel_rfl) Try.func4 (by kernel_rfl)
    (of_decide_eq_true (by kernel_rfl)) (by unfold Func.isWrapper; first | (rw [if_pos (by decide +kernel)]; kernel_rfl) | (rw [if_neg (by decide +kernel)]; exact ⟨rfl, rfl⟩))
    (fun os started H enc _ => lifted os started H enc)

theorem proved : Rows.DiskSureSaid := over
#print axioms proved
end Go.Proofs.Ytnciihekbbmiaaa.diskSure
