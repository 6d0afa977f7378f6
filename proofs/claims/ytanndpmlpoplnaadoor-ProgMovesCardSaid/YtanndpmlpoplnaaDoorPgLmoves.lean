/- What any program does, all steps together: the statement's walk. -/
import Derived.Test.YtanndpmlpoplnaaDoorPgWorks
import Derived.Test.YtanndpmlpoplnaaDoorPgSum
import Derived.Test.YtanndpmlpoplnaaDoorOpNet
import Derived.Test.YtanndpmlpoplnaaDoorGrOp
namespace Go.Proofs.YtanndpmlpoplnaaDoor
open Go.RowKit Go.ChangeShapes Go.WideShapes
set_option linter.unusedVariables false
set_option linter.unusedSimpArgs false
set_option maxRecDepth 10000

theorem op_lit (w : World) (d : Int) : ∀ i u, (oc (((0, 0, 0), d) : O))[i]? = some u → (w.alloc (.cells #[.int .u8 0, .int .u8 0, .int .u8 0, .int .i64 d] 58)).cell? ⟨w.heap.size, i, none⟩ = some u :=
  fun i u hu => block_cell (alloc_block w _) (by simpa [oc] using hu)
set_option maxHeartbeats 8000000 in
theorem law_moves (k od po : Int) (lp : Option Addr) (ln lcp : Nat) (tp : Option Addr) (tn tcp : Nat) (wp : Option Addr) (wn wcp : Nat) (sk fr to q : Int) (L : List Ln) (T : List Tk) (M : List Ln) (W : World) (hw : Words W) (hP : PgM W lp ln lcp L tp tn tcp T wp wn wcp M) (hok : Pgok ⟨k, od, po, L, T, M, sk, fr, to, q⟩) :
    Calls Tryd.prog 7 #[.agg #[.int .u8 k, .int .u32 od, .int .u8 po, .slice lp ln lcp, .slice tp tn tcp, .slice wp wn wcp, .int .u8 sk, .int .u8 fr, .int .u8 to, .int .i64 q]] W fun e w' => e = .returned (.bool true) ∧ Below W.heap.size W w' := by
  obtain ⟨W1, hW1, hbx, hb1⟩ : ∃ W1, W.alloc (.cells #[.int .u8 k, .int .u32 od, .int .u8 po, .slice lp ln lcp, .slice tp tn tcp, .slice wp wn wcp, .int .u8 sk, .int .u8 fr, .int .u8 to, .int .i64 q] 26) = W1 ∧ W1.heap[W.heap.size]? = some (.cells #[.int .u8 k, .int .u32 od, .int .u8 po, .slice lp ln lcp, .slice tp tn tcp, .slice wp wn wcp, .int .u8 sk, .int .u8 fr, .int .u8 to, .int .i64 q] 26 (0, 0)) ∧ Below W.heap.size W W1 := ⟨_, rfl, alloc_block W _, (Below.refl _ _).alloc (Nat.le_refl _) _⟩
  have HW1 := Lib.hid hW1
  have HB1 := Lib.hid hb1
  have HX1 := Lib.hid hbx
  have HP1 := Lib.hid (hP.later hb1)
  have HV1 := Lib.hid (hw.later hb1)
  have HOK := Lib.hid hok
  have HC := Lib.hid fun w' (h : Below W1.heap.size W1 w') => prog_cells k od po lp ln lcp tp tn tcp wp wn wcp sk fr to q (block_later HX1.out h)
  obtain ⟨a0, a1, a2, a3, a4, a5, a6, a7, a8, a9⟩ := HC.out W1 (Below.refl _ _)
  have hfew := few_p k od po lp ln lcp tp tn tcp wp wn wcp sk fr to q W1
  by_cases hf : ln ≤ 20 ∧ tn ≤ 30 ∧ wn ≤ 20
  case neg =>
    rw [show fewI ln tn wn = 0 from if_neg hf] at hfew
    clear hW1 hbx hb1 hP hok hw hf
    go_enter Tryd.func7, Tryd.ntmps7
    go_wp2_with fail
    rw [HW1.out]
    refine hfew.mono ?_
    rintro e w2 ⟨rfl, h2⟩
    have HB2 := Lib.hid h2
    clear hfew h2 a0 a1 a2 a3 a4 a5 a6 a7 a8 a9
    go_wp2_with fail
    refine (prog_works w2 (HV1.out.later HB2.out)).mono ?_
    rintro e w3 ⟨rfl, h3⟩
    have HB3 := Lib.hid (HB2.out.trans (h3.mono HB2.out.size))
    clear h3
    go_wp2_with fail
    go_ret
    exact ⟨rfl, HB1.out.trans (HB3.out.mono HB1.out.size)⟩
  rw [show fewI ln tn wn = 1 from if_pos hf] at hfew
  obtain ⟨hf1, hf2, hf3⟩ := hf
  clear hW1 hbx hb1 hP hok hw
  go_enter Tryd.func7, Tryd.ntmps7
  go_wp2_with fail
  rw [HW1.out]
  refine hfew.mono ?_
  rintro e w2 ⟨rfl, h2⟩
  have HB2 := Lib.hid h2
  clear hfew h2 a0 a1 a2 a3 a4 a5 a6 a7 a8 a9
  obtain ⟨a0, a1, a2, a3, a4, a5, a6, a7, a8, a9⟩ := HC.out w2 HB2.out
  go_wp2_with fail
  refine (steps_p k od po lp ln lcp tp tn tcp wp wn wcp sk fr to q L T M w2 (HV1.out.later HB2.out) (HP1.out.later HB2.out) HOK.out ⟨by omega, by omega, by omega⟩).mono ?_
  rintro e w3 ⟨p3, c3, H3, rfl, hs3, hb3⟩
  have HB3 := Lib.hid (HB2.out.trans (hb3.mono HB2.out.size))
  have HS3 := Lib.hid hs3
  have HMV := Lib.hid fun a => moves_all HOK.out a
  have HFN : Hid (∀ s ∈ stepsP ⟨k, od, po, L, T, M, sk, fr, to, q⟩, FineS s) := Lib.hid fun s hs => by
    cases hg : goodP 4 4 ⟨k, od, po, L, T, M, sk, fr, to, q⟩ with
    | true => exact (steps_fine hg HOK.out).2 s hs
    | false => rw [steps_no hg] at hs; cases hs
  have HFL : Hid ((stepsP ⟨k, od, po, L, T, M, sk, fr, to, q⟩).length ≤ 5) := Lib.hid (by
    cases hg : goodP 4 4 ⟨k, od, po, L, T, M, sk, fr, to, q⟩ with
    | true => exact (steps_fine hg HOK.out).1.2
    | false => rw [steps_no hg]; simp)
  clear hb3 hs3 a0 a1 a2 a3 a4 a5 a6 a7 a8 a9
  have HWI : Hid (∀ a, wantI ⟨k, od, po, L, T, M, sk, fr, to, q⟩ a = if k = 5 ∧ sk = a ∧ 0 < (opsAll (stepsP ⟨k, od, po, L, T, M, sk, fr, to, q⟩)).length then q else 0) := Lib.hid fun a => rfl
  generalize wantI ⟨k, od, po, L, T, M, sk, fr, to, q⟩ = wnt at *
  generalize stepsP ⟨k, od, po, L, T, M, sk, fr, to, q⟩ = SS at *
  generalize hno : SS.length = no at *
  have HNO := Lib.hid hno
  have hno5 := HFL.out
  have hcap3 := HS3.out.row.cap
  have HFJ := Lib.hid fun j (hj : j < no) => HFN.out (SS.getD j (0, 0, [])) (by rw [List.getD, List.getElem?_eq_getElem (by rw [hno]; exact hj)]; exact List.getElem_mem _)
  have HOT := Lib.hid fun j (hj : j < no) => opsAll_take SS j (by rw [hno]; exact hj)
  have HOE : Hid (SS.take no = SS) := Lib.hid (by rw [← hno, List.take_length])
  have HOLN : Hid (∀ j, (opsAll (SS.take j)).length ≤ 30) := Lib.hid fun j => by
    have h1 := opsAll_len (S := SS.take j) fun s hs => (HFN.out s (List.mem_of_mem_take hs)).2.2.2.2
    rw [List.length_take] at h1
    omega
  clear hno
  go_wp2_with fail
  go_loopw [3, 19] (fun v i wr => ∃ j : Nat, j ≤ no ∧ i = .int .i64 j ∧ Hid (FillO w3 wr v (opsAll (SS.take j)) (30 * j))) (fun _ i _ => no - (Go.RowKit.intOf i).toNat)
  case atStart => exact ⟨0, Nat.zero_le _, rfl, Lib.hid (by rw [List.take_zero]; exact FillG.nil w3)⟩
  case round =>
    obtain ⟨j, hj, rfl, HF⟩ := hrel
    by_cases hlt : j < no
    case pos =>
      have hlt' : (j : Int) < no := by omega
      have HSA := Lib.hid (HS3.out.later HF.out.below)
      obtain ⟨b, off, rfl, _, k0, k1, k2⟩ := step_cells HSA.out.row hlt
      obtain ⟨t1, t2, t3⟩ := HSA.out.tells.at j (by rw [HSA.out.row.len]; exact hlt)
      have hfine := HFJ.out j hlt
      have hst := HOT.out j hlt
      rw [t1] at k0
      rw [t2] at k1
      generalize SS.getD j (0, 0, []) = sj at *
      obtain ⟨ts, rs, Lq⟩ := sj
      generalize H3.getD j hs0 = h3 at *
      obtain ⟨y1, y2, ip, il, ic⟩ := h3
      dsimp only at k0 k1 k2 t1 t2 t3 hst
      obtain ⟨f1, f2, f3, f4, f5⟩ := hfine
      dsimp only at f1 f2 f3 f4 f5
      have HS := Lib.hid hst
      have hl1 := t3.len
      have hba : Below wr.heap.size wr (wr.alloc (.cells #[.int .u8 ts, .int .u8 rs, .slice ip il ic] 36)) := (Below.refl _ _).alloc (Nat.le_refl _) _
      have hop := ops_any ts rs ip il ic Lq (wr.alloc (.cells #[.int .u8 ts, .int .u8 rs, .slice ip il ic] 36)) (t3.later hba) f4 (by omega)
      have HOP := Lib.hid hop
      have HBA := Lib.hid hba
      have HLO := Lib.hid (HOLN.out (j + 1))
      rw [HS.out] at HLO
      clear hst t1 t2 t3 f1 f2 f3 f4 f5 hl1 hba hop
      go_wp2_with fail
      refine HOP.out.mono ?_
      rintro e w4 ⟨p4, c4, rfl, hs4, hb4, _⟩
      have HF4 := Lib.hid ((HF.out.later HBA.out).later hb4)
      have HS4 := Lib.hid hs4
      clear hs4 hb4 k0 k1 k2
      generalize hM : opsS ts rs Lq = MM at *
      generalize hL0 : opsAll (SS.take j) = LL0 at *
      obtain ⟨m1, hm1⟩ : ∃ m1, LL0.length = m1 := ⟨_, rfl⟩
      obtain ⟨m2, hm2⟩ : ∃ m2, MM.length = m2 := ⟨_, rfl⟩
      have HM1 := Lib.hid hm1
      have HM2 := Lib.hid hm2
      have hmm : m1 + m2 ≤ 30 := by have := HLO.out; rw [List.length_append, hm1, hm2] at this; exact this
      simp only [hm2] at HS4 ⊢
      have HOW : Hid (w4.ownsRow 0 58 4 u3 m1 (flatG oc LL0)) := Lib.hid (by rw [← hm1]; exact own_zero HF4.out.own)
      clear hm1 hm2 hM hL0
      go_wp2_with (at_builtin; refine wpList_append_ol rfl _ _ rfl u3 m1 LL0 rfl HOW.out p4 m2 c4 MM rfl HS4.out (m1 + m2) rfl (by omega) ?_; intro p5 c5 w5 g1 g2 g3)
      have HF5 : Hid (FillO w3 w5 (.slice p5 (m1 + m2) c5) (LL0 ++ MM) (30 * (j + 1))) := Lib.hid ⟨by
        rw [List.length_append, HM1.out, HM2.out]
        refine own_since g1 fun b hb => ?_
        rcases g3 b hb with h | h
        · exact (HF4.out.own.lt b h).1
        · exact Nat.le_trans HF4.out.below.size h, Chg.below HF4.out.below HF4.out.below.size g2 fun b hb => (HF4.out.own.lt b hb).1, by rw [List.length_append, HM1.out, HM2.out]; omega⟩
      clear g1 g2 g3
      go_roundw
      case rel => exact ⟨j + 1, by omega, by go_num, Lib.hid (by rw [HS.out]; exact HF5.out)⟩
      case measure => simp [Go.RowKit.intOf]; omega
    obtain rfl : no = j := by omega
    have hf := HF.out
    rw [HOE.out] at hf
    have hlen := HOLN.out no
    rw [HOE.out] at hlen
    obtain ⟨pl, cl, hv, hsl, _⟩ := SlG.of_own (d := o0) oc_len (by decide) hf.own
    have HIN := Lib.hid (opsAll_in HFN.out)
    have HBf := Lib.hid (HB3.out.trans (hf.below.mono HB3.out.size))
    generalize opsAll SS = AL at *
    generalize hal : AL.length = al at *
    have HAL := Lib.hid hal
    have HSL := Lib.hid hsl
    have hcapl := hsl.cap
    subst hv
    obtain ⟨wf, hwf⟩ : ∃ x, x = wr := ⟨_, rfl⟩
    subst hwf
    clear hf hsl hal HF HOT HOE HOLN HFJ HFN
    go_wp2_with fail
    go_loopw [6] (fun i wr => ∃ a : Nat, a ≤ 4 ∧ i = .int .u8 a ∧ Hid (Below wf.heap.size wf wr)) (fun i _ => 4 - (Go.RowKit.intOf i).toNat)
    case atStart => exact ⟨0, Nat.zero_le _, rfl, Lib.hid (Below.refl _ _)⟩
    case round =>
      obtain ⟨a, ha, rfl, HBr⟩ := hrel
      obtain ⟨wo, hwo⟩ : ∃ x, x = wr := ⟨_, rfl⟩
      subst hwo
      have HBX := Lib.hid (HBf.out.trans (HBr.out.mono HBf.out.size))
      by_cases hlta : a < 4
      case neg =>
        obtain rfl : a = 4 := by omega
        go_wp2_with fail
        refine (prog_works wo (HV1.out.later HBX.out)).mono ?_
        rintro e w9 ⟨rfl, h9⟩
        have HB9 := Lib.hid (HBX.out.trans (h9.mono HBX.out.size))
        clear h9
        go_wp2_with fail
        go_ret
        exact ⟨rfl, HB1.out.trans (HB9.out.mono HB1.out.size)⟩
      have hlta' : (a : Int) < 4 := by omega
      have hwa : IntKind.u8.wrap ((a : Int) + 1) = ((a + 1 : Nat) : Int) := by simp [IntKind.wrap, IntKind.bits, IntKind.signed]; omega
      have HST := Lib.hid fun j (hj : j < al) => sel_take AL (a : Int) j (by rw [HAL.out]; exact hj)
      have HSE : Hid (AL.take al = AL) := Lib.hid (by rw [← HAL.out, List.take_length])
      go_wp2_with fail
      go_loopw [7, 8] (fun v i wr => ∃ j : Nat, j ≤ al ∧ i = .int .i64 j ∧ Hid (FillO wo wr v (oneK (selA (AL.take j) a)) j)) (fun _ i _ => al - (Go.RowKit.intOf i).toNat)
      case atStart => exact ⟨0, Nat.zero_le _, rfl, Lib.hid (by rw [List.take_zero]; exact FillG.nil wo)⟩
      case round =>
        obtain ⟨j, hj, rfl, HF⟩ := hrel
        by_cases hlt : j < al
        case pos =>
          have hlt' : (j : Int) < al := by omega
          obtain ⟨b, off, rfl, _, k0, k1, _, k3⟩ := op_cells (HSL.out.later (HBr.out.trans (HF.out.below.mono HBr.out.size))) hlt
          have hst := HST.out j hlt
          generalize AL.getD j o0 = x at *
          obtain ⟨⟨xk, xs, xw⟩, xd⟩ := x
          dsimp only at k0 k1 k3 hst
          unfold ofArt at hst
          dsimp only at hst
          have hsz := HF.out.below.size
          have hmost := HF.out.most
          by_cases h1 : xs = (a : Int)
          case neg =>
            have d1 : (xs == (a : Int)) = false := by simpa using h1
            rw [decide_eq_false h1, Bool.false_and, if_neg (by decide), List.append_nil] at hst
            have HS := Lib.hid hst
            clear hst h1
            go_wp2_with fail
            go_roundw
            case rel => exact ⟨j + 1, by omega, by go_num, Lib.hid (by rw [HS.out]; exact HF.out.mono (by omega))⟩
            case measure => simp [Go.RowKit.intOf]; omega
          have d1 : (xs == (a : Int)) = true := by simpa using h1
          by_cases h2 : xk = 4
          case pos =>
            have d2 : (xk != 4) = false := by simp [h2]
            rw [decide_eq_true h1, decide_eq_true h2, if_neg (by decide), List.append_nil] at hst
            have HS := Lib.hid hst
            clear hst h1 h2
            go_wp2_with fail
            go_roundw
            case rel => exact ⟨j + 1, by omega, by go_num, Lib.hid (by rw [HS.out]; exact HF.out.mono (by omega))⟩
            case measure => simp [Go.RowKit.intOf]; omega
          have d2 : (xk != 4) = true := by simpa using h2
          rw [decide_eq_true h1, decide_eq_false h2, if_pos (by decide)] at hst
          have HS := Lib.hid hst
          clear hst h1 h2
          go_wp2_with (at_builtin; refine wpList_append_o rfl _ _ rfl wo.heap.size _ (oneK (selA (AL.take j) a)).length (oneK (selA (AL.take j) a)) rfl (HF.out.own.alloc _) (by omega) ((0, 0, 0), xd) wr.heap.size rfl (op_lit wr xd) (by simp; omega) ?_; intro v2 w2 g1 g2)
          have HF2 := Lib.hid (HF.out.step _ g1 g2)
          clear g1 g2 hsz hmost
          go_wp2_with fail
          go_roundw
          case rel => exact ⟨j + 1, by omega, by go_num, Lib.hid (by rw [HS.out]; exact HF2.out)⟩
          case measure => simp [Go.RowKit.intOf]; omega
        obtain rfl : al = j := by omega
        have hf := HF.out
        rw [HSE.out] at hf
        obtain ⟨pn, cn, hv, hsn, _⟩ := SlG.of_own (d := o0) oc_len (by decide) hf.own
        subst hv
        obtain ⟨hm1, hm2, hm3⟩ := HMV.out (a : Int)
        have hart : artI AL (a : Int) = total (selA AL a) := rfl
        rw [hart] at hm1
        have hokb : okB (total (selA AL a)) = true := by rw [hm1]; exact (okB_iff _).2 hm2
        have hnet := net_o pn (oneK (selA AL a)).length cn (oneK (selA AL a)) wr hsn (sel_in HIN.out a) (by have := sel_len AL (a : Int); rw [HAL.out] at this; omega)
        rw [netB_one, hokb, netV_one _ hokb, hm1] at hnet
        have HNT := Lib.hid hnet
        have HBN := Lib.hid (HBr.out.trans (hf.below.mono HBr.out.size))
        have hwi := HWI.out (a : Int)
        have HM2 := Lib.hid hm2
        generalize (oneK (selA AL a)).length = n5 at *
        generalize wnt (a : Int) = z at *
        clear hf hsn hm1 hm2 hm3 hart hokb hnet HF HST HSE
        obtain ⟨a0, a1, a2, a3, a4, a5, a6, a7, a8, a9⟩ := HC.out wr (HBf.out.trans (HBN.out.mono HBf.out.size))
        go_wp2_with fail
        refine HNT.out.mono ?_
        rintro e w7 ⟨p7, c7, rfl, hs7, hb7, _⟩
        have HB7 := Lib.hid (HBN.out.trans (hb7.mono HBN.out.size))
        have HS7 := Lib.hid hs7
        clear hs7 hb7 a0 a1 a2 a3 a4 a5 a6 a7 a8 a9
        obtain ⟨a0, a1, a2, a3, a4, a5, a6, a7, a8, a9⟩ := HC.out w7 (HBf.out.trans (HB7.out.mono HBf.out.size))
        have hcap7 := HS7.out.cap
        by_cases hk : k = 5
        case neg =>
          have dk : (k == 5) = false := by simpa using hk
          have hz : z = 0 := by rw [hwi]; exact if_neg (by omega)
          rw [if_pos hz] at HS7 hcap7 ⊢
          simp only [List.length_nil] at HS7 hcap7 ⊢
          clear hwi hz
          go_wp2_with fail
          go_roundw
          case rel => exact ⟨a + 1, by omega, by go_num, HB7⟩
          case measure => simp [Go.RowKit.intOf]; omega
        have dk : (k == 5) = true := by simpa using hk
        by_cases hsa : sk = (a : Int)
        case neg =>
          have ds : (sk == (a : Int)) = false := by simpa using hsa
          have hz : z = 0 := by rw [hwi]; exact if_neg (by omega)
          rw [if_pos hz] at HS7 hcap7 ⊢
          simp only [List.length_nil] at HS7 hcap7 ⊢
          clear hwi hz
          go_wp2_with fail
          go_roundw
          case rel => exact ⟨a + 1, by omega, by go_num, HB7⟩
          case measure => simp [Go.RowKit.intOf]; omega
        have ds : (sk == (a : Int)) = true := by simpa using hsa
        by_cases hal0 : 0 < al
        case neg =>
          have dl : decide ((0 : Int) < al) = false := decide_eq_false (by omega)
          have dln : decide (0 < al) = false := decide_eq_false hal0
          have hz : z = 0 := by rw [hwi]; exact if_neg (by omega)
          rw [if_pos hz] at HS7 hcap7 ⊢
          simp only [List.length_nil] at HS7 hcap7 ⊢
          clear hwi hz
          clear hk hsa
          go_wp2_with fail
          go_roundw
          case rel => exact ⟨a + 1, by omega, by go_num, HB7⟩
          case measure => simp [Go.RowKit.intOf]; omega
        have dl : decide ((0 : Int) < al) = true := decide_eq_true (by omega)
        have dln : decide (0 < al) = true := decide_eq_true hal0
        have hzq : z = q := by rw [hwi]; exact if_pos ⟨hk, hsa, hal0⟩
        clear hk hsa hwi
        by_cases hz : z = 0
        case pos =>
          have dq : (q == 0) = true := by simp [← hzq, hz]
          have dq2 : (q != 0) = false := by simp [← hzq, hz]
          rw [if_pos hz] at HS7 hcap7 ⊢
          simp only [List.length_nil] at HS7 hcap7 ⊢
          clear hz hzq
          go_wp2_with fail
          go_roundw
          case rel => exact ⟨a + 1, by omega, by go_num, HB7⟩
          case measure => simp [Go.RowKit.intOf]; omega
        rw [if_neg hz] at HS7 hcap7 ⊢
        simp only [List.length_cons, List.length_nil, Nat.zero_add] at HS7 hcap7 ⊢
        have dq : (q == 0) = false := by simp [← hzq, hz]
        have dq2 : (q != 0) = true := by simp [← hzq, hz]
        have dq3 : (q != q) = false := by simp
        obtain ⟨b7, o7, rfl, _, _, _, _, k3⟩ := op_cells HS7.out (j := 0) (by omega)
        have k4 : w7.cell? ⟨b7, o7 + 3, none⟩ = some (.int .i64 q) := by rw [← hzq]; simpa using k3
        clear k3 hz hzq
        go_wp2_with fail
        go_roundw
        case rel => exact ⟨a + 1, by omega, by go_num, HB7⟩
        case measure => simp [Go.RowKit.intOf]; omega
end Go.Proofs.YtanndpmlpoplnaaDoor
