/- Whether of each article as much is taken and owed as the order has: the program's way. -/
import Derived.Test.YtdcanppiiikjgaaGreatDoorGrProgc
namespace Go.Proofs.YtdcanppiiikjgaaGreatDoor
open Go.RowKit Go.ChangeShapes Go.WideShapes
set_option linter.unusedVariables false
set_option linter.unusedSimpArgs false
set_option maxRecDepth 10000

theorem served_no {s : Int} {o : Int} {w : Int} {T : List Tk} {M L : List Ln} (h0 : 0 ≤ s) (h4 : s ≤ 4) (hL : linesB s L = true) (hM : linesB s M = true) (hT : takesB s w o T = true) (hok : ∀ x ∈ L, Lnok x) {a : Nat} (ha : (a : Int) < s) (h : servedAt T M L a = false) : coverB T M L = false := by
  cases hc : coverB T M L with
  | false => rfl
  | true =>
    have := (served_cover (o := o) h0 h4 hL hM (takes_sku hT) hok).2 hc a ha
    rw [h] at this
    cases this
theorem served_yes {s : Int} {o : Int} {w : Int} {T : List Tk} {M L : List Ln} (h0 : 0 ≤ s) (h4 : s ≤ 4) (hL : linesB s L = true) (hM : linesB s M = true) (hT : takesB s w o T = true) (hok : ∀ x ∈ L, Lnok x) (h : ∀ a : Nat, (a : Int) < s → servedAt T M L a = true) : coverB T M L = true :=
  (served_cover (o := o) h0 h4 hL hM (takes_sku hT) hok).1 h
theorem lnparts_zero (M : List Ln) (s : Int) : lnparts (M.take 0) s = [] := by simp [lnparts]
theorem tkparts_zero (T : List Tk) (s : Int) : tkparts (T.take 0) s = [] := by simp [tkparts]
set_option maxHeartbeats 8000000 in
theorem served_any (s w : Int) (k od po : Int) (lp : Option Addr) (ln lcp : Nat) (tp : Option Addr) (tn tcp : Nat) (wp : Option Addr) (wn wcp : Nat) (sk fr to q : Int) (L : List Ln) (T : List Tk) (M : List Ln) (W : World) (hP : PgM W lp ln lcp L tp tn tcp T wp wn wcp M) (hkL : ∀ x ∈ L, Lnok x) (hkT : ∀ x ∈ T, Tkok x) (hkM : ∀ x ∈ M, Lnok x) (h1 : 1 ≤ s) (h4 : s ≤ 4) (hL : linesB s L = true) (hM : linesB s M = true) (hT : takesB s w od T = true) (hn : ln ≤ 400 ∧ tn ≤ 400 ∧ wn ≤ 400) :
    Calls Tryz.prog 102 #[.int .i64 s, .agg #[.int .u8 k, .int .u32 od, .int .u8 po, .slice lp ln lcp, .slice tp tn tcp, .slice wp wn wcp, .int .u8 sk, .int .u8 fr, .int .u8 to, .int .i64 q]] W fun e w' => e = .returned (.bool (coverB T M L)) ∧ Below W.heap.size W w' := by
  obtain ⟨hn1, hn2, hn3⟩ := hn
  obtain ⟨ns, rfl⟩ : ∃ ns : Nat, s = (ns : Int) := ⟨s.toNat, by omega⟩
  obtain ⟨W2, hW2, hbx, hb2⟩ : ∃ W2, W.alloc (.cells #[.int .u8 k, .int .u32 od, .int .u8 po, .slice lp ln lcp, .slice tp tn tcp, .slice wp wn wcp, .int .u8 sk, .int .u8 fr, .int .u8 to, .int .i64 q] 28) = W2 ∧ W2.heap[W.heap.size]? = some (.cells #[.int .u8 k, .int .u32 od, .int .u8 po, .slice lp ln lcp, .slice tp tn tcp, .slice wp wn wcp, .int .u8 sk, .int .u8 fr, .int .u8 to, .int .i64 q] 28 (0, 0)) ∧ Below W.heap.size W W2 := ⟨_, rfl, alloc_block W _, (Below.refl _ _).alloc (Nat.le_refl _) _⟩
  have HW2 := Lib.hid hW2
  have HB2 := Lib.hid hb2
  have HX2 := Lib.hid hbx
  have HL := Lib.hid (hP.later hb2).l
  have HT := Lib.hid (hP.later hb2).t
  have HM := Lib.hid (hP.later hb2).o
  have HNO := Lib.hid (fun (a : Nat) => served_no (a := a) (o := od) (w := w) (by omega) h4 hL hM hT hkL)
  have HYE := Lib.hid (served_yes (o := od) (w := w) (s := (ns : Int)) (by omega) h4 hL hM hT hkL)
  have HPO := Lib.hid fun (a : Int) => named_lines_ok hL hkL a
  have HKL := Lib.hid fun (a : Int) => lnparts_in hkL a
  have HKT := Lib.hid fun (a : Int) => tkparts_in hkT a
  have HKM := Lib.hid fun (a : Int) => lnparts_in hkM a
  have HOL := Lib.hid fun j (hj : j < ln) => lnok_mem hkL (show j < L.length by rw [hP.l.len]; exact hj)
  have HOT := Lib.hid fun j (hj : j < tn) => tkok_at hkT (show j < T.length by rw [hP.t.len]; exact hj)
  have HOM := Lib.hid fun j (hj : j < wn) => lnok_mem hkM (show j < M.length by rw [hP.o.len]; exact hj)
  have HSL := Lib.hid fun a j (hj : j < ln) => lnparts_take L a j (by rw [hP.l.len]; exact hj)
  have HST := Lib.hid fun a j (hj : j < tn) => tkparts_take T a j (by rw [hP.t.len]; exact hj)
  have HSM := Lib.hid fun a j (hj : j < wn) => lnparts_take M a j (by rw [hP.o.len]; exact hj)
  have HEL : Hid (L.take ln = L) := Lib.hid (by rw [← hP.l.len, List.take_length])
  have HET : Hid (T.take tn = T) := Lib.hid (by rw [← hP.t.len, List.take_length])
  have HEM : Hid (M.take wn = M) := Lib.hid (by rw [← hP.o.len, List.take_length])
  have hcl := hP.l.cap
  have hct := hP.t.cap
  have hcm := hP.o.cap
  clear hW2 hb2 hbx hP hL hM hT hkL hkT hkM
  go_enter Tryz.func102, Tryz.ntmps102
  go_wp2_with fail
  rw [HW2.out]
  go_loopw [19] (fun i wr => ∃ a : Nat, a ≤ ns ∧ i = .int .i64 a ∧ Hid (Below W2.heap.size W2 wr) ∧ Hid (∀ b : Nat, b < a → servedAt T M L b = true)) (fun i _ => ns - (Go.RowKit.intOf i).toNat)
  case atStart => exact ⟨0, Nat.zero_le _, rfl, Lib.hid (Below.refl _ _), Lib.hid fun i hi => by omega⟩
  case round =>
    obtain ⟨a, ha, rfl, HBO, HE⟩ := hrel
    by_cases hlt : a < ns
    case neg =>
      obtain rfl : a = ns := by omega
      have HF := Lib.hid (HYE.out fun b hb => HE.out b (by omega))
      go_wp2_with fail
      go_ret
      exact ⟨by rw [HF.out]; rfl, HB2.out.trans (HBO.out.mono HB2.out.size)⟩
    have hlt' : (a : Int) < ns := by omega
    obtain ⟨wo, hwo⟩ : ∃ x, x = wr := ⟨_, rfl⟩
    subst hwo
    obtain ⟨a0, a1, a2, a3, a4, a5, a6, a7, a8, a9⟩ := prog_cells k od po lp ln lcp tp tn tcp wp wn wcp sk fr to q (block_later HX2.out HBO.out)
    go_wp2_with fail
    clear a0 a1 a2 a3 a4 a5 a6 a7 a8 a9
    -- what the order has
    go_loopw [6, 25] (fun v i w1 => ∃ j : Nat, j ≤ ln ∧ i = .int .i64 j ∧ Hid (FillI wo w1 v (lnparts (L.take j) a) j)) (fun _ i _ => ln - (Go.RowKit.intOf i).toNat)
    case atStart => exact ⟨0, Nat.zero_le _, rfl, Lib.hid (by rw [lnparts_zero]; exact FillG.nil wo)⟩
    case round =>
      obtain ⟨j, hj, rfl, HF⟩ := hrel
      by_cases hl : j < ln
      case pos =>
        have hl' : (j : Int) < ln := by omega
        obtain ⟨b, off, rfl, _, k0, k1⟩ := line_cells (HL.out.later (HBO.out.trans (HF.out.below.mono HBO.out.size))) hl
        have hst := HSL.out a j hl
        have hok := HOL.out j hl
        generalize L.getD j l0 = x at *
        obtain ⟨o, q⟩ := x
        dsimp only at k0 k1 hst
        have HS := Lib.hid hst
        have ho : 0 ≤ o ∧ o ≤ 255 := hok.1
        have HF1 := Lib.hid (HF.out.later ((Below.refl wr.heap.size wr).alloc (Nat.le_refl _) (.cells #[.int .u8 o, .int .i64 q] 110)))
        clear hst hok
        go_wp2_with fail
        refine (appendof_any wo _ _ (lnparts (L.take j) a) j a o q HF1.out ho (by omega)).mono ?_
        rintro e w2 ⟨v2, rfl, hf2⟩
        have HF2 := Lib.hid hf2
        clear hf2
        go_wp2_with fail
        go_roundw
        case rel => exact ⟨j + 1, by omega, by go_num, Lib.hid (by rw [HS.out]; exact HF2.out)⟩
        case measure => simp [Go.RowKit.intOf]; omega
      obtain rfl : ln = j := by omega
      obtain ⟨w1, hw1⟩ : ∃ x, x = wr := ⟨_, rfl⟩
      subst hw1
      obtain ⟨vh, hvh⟩ : ∃ x, x = u6 := ⟨_, rfl⟩
      subst hvh
      have hf := HF.out
      rw [HEL.out] at hf
      have HH := Lib.hid hf
      have HB1 := Lib.hid hf.below
      clear hf HF
      obtain ⟨a0, a1, a2, a3, a4, a5, a6, a7, a8, a9⟩ := prog_cells k od po lp ln lcp tp tn tcp wp wn wcp sk fr to q (block_later HX2.out (HBO.out.trans (HB1.out.mono HBO.out.size)))
      go_wp2_with fail
      clear a0 a1 a2 a3 a4 a5 a6 a7 a8 a9
      go_loopw [7, 40] (fun v i w2 => ∃ j : Nat, j ≤ tn ∧ i = .int .i64 j ∧ Hid (FillI w1 w2 v (tkparts (T.take j) a) j)) (fun _ i _ => tn - (Go.RowKit.intOf i).toNat)
      case atStart => exact ⟨0, Nat.zero_le _, rfl, Lib.hid (by rw [tkparts_zero]; exact FillG.nil w1)⟩
      case round =>
        obtain ⟨j, hj, rfl, HF⟩ := hrel
        by_cases hl : j < tn
        case pos =>
          have hl' : (j : Int) < tn := by omega
          obtain ⟨b, off, rfl, _, k0, k1, k2, k3⟩ := take_cells (HT.out.later (HBO.out.trans ((HB1.out.trans (HF.out.below.mono HB1.out.size)).mono HBO.out.size))) hl
          have hst := HST.out a j hl
          have hok := HOT.out j hl
          generalize T.getD j tk0 = x at *
          obtain ⟨od2, o, r2, q⟩ := x
          dsimp only at k0 k1 k2 k3 hst
          have HS := Lib.hid hst
          have ho : 0 ≤ o ∧ o ≤ 255 := hok.2.1
          have HF1 := Lib.hid (HF.out.later ((Below.refl wr.heap.size wr).alloc (Nat.le_refl _) (.cells #[.int .u32 od2, .int .u8 o, .int .u8 r2, .int .i64 q] 87)))
          clear hst hok
          go_wp2_with fail
          refine (appendof_any w1 _ _ (tkparts (T.take j) a) j a o q HF1.out ho (by omega)).mono ?_
          rintro e w2 ⟨v2, rfl, hf2⟩
          have HF2 := Lib.hid hf2
          clear hf2
          go_wp2_with fail
          go_roundw
          case rel => exact ⟨j + 1, by omega, by go_num, Lib.hid (by rw [HS.out]; exact HF2.out)⟩
          case measure => simp [Go.RowKit.intOf]; omega
        obtain rfl : tn = j := by omega
        obtain ⟨w2, hw2⟩ : ∃ x, x = wr := ⟨_, rfl⟩
        subst hw2
        have hf := HF.out
        rw [HET.out] at hf
        have HF := Lib.hid hf
        have HB2b := Lib.hid (HB1.out.trans (hf.below.mono HB1.out.size))
        clear hf
        obtain ⟨a0, a1, a2, a3, a4, a5, a6, a7, a8, a9⟩ := prog_cells k od po lp ln lcp tp tn tcp wp wn wcp sk fr to q (block_later HX2.out (HBO.out.trans (HB2b.out.mono HBO.out.size)))
        go_wp2_with fail
        clear a0 a1 a2 a3 a4 a5 a6 a7 a8 a9
        go_loopw [7, 55] (fun v i w3 => ∃ i' : Nat, i' ≤ wn ∧ i = .int .i64 i' ∧ Hid (FillI w1 w3 v (tkparts T a ++ lnparts (M.take i') a) (tn + i'))) (fun _ i _ => wn - (Go.RowKit.intOf i).toNat)
        case atStart => exact ⟨0, Nat.zero_le _, rfl, Lib.hid (by rw [lnparts_zero, List.append_nil]; exact HF.out)⟩
        case round =>
          clear HF
          obtain ⟨j, hj, rfl, HF⟩ := hrel
          by_cases hl : j < wn
          case pos =>
            have hl' : (j : Int) < wn := by omega
            obtain ⟨b, off, rfl, _, k0, k1⟩ := line_cells (HM.out.later (HBO.out.trans ((HB1.out.trans (HF.out.below.mono HB1.out.size)).mono HBO.out.size))) hl
            have hst := HSM.out a j hl
            have hok := HOM.out j hl
            generalize M.getD j l0 = x at *
            obtain ⟨o, q⟩ := x
            dsimp only at k0 k1 hst
            have HS := Lib.hid hst
            have ho : 0 ≤ o ∧ o ≤ 255 := hok.1
            have HF1 := Lib.hid (HF.out.later ((Below.refl wr.heap.size wr).alloc (Nat.le_refl _) (.cells #[.int .u8 o, .int .i64 q] 110)))
            clear hst hok
            go_wp2_with fail
            refine (appendof_any w1 _ _ (tkparts T a ++ lnparts (M.take j) a) (tn + j) a o q HF1.out ho (by omega)).mono ?_
            rintro e w2 ⟨v2, rfl, hf2⟩
            have HF2 := Lib.hid hf2
            clear hf2
            go_wp2_with fail
            go_roundw
            case rel => exact ⟨j + 1, by omega, by go_num, Lib.hid (by rw [HS.out, ← List.append_assoc]; exact HF2.out)⟩
            case measure => simp [Go.RowKit.intOf]; omega
          obtain rfl : wn = j := by omega
          obtain ⟨w3, hw3⟩ : ∃ x, x = wr := ⟨_, rfl⟩
          subst hw3
          have hg := HF.out
          rw [HEM.out] at hg
          have hh := HH.out.later hg.below
          have HB3 := Lib.hid (HBO.out.trans ((HB1.out.trans (hg.below.mono HB1.out.size)).mono HBO.out.size))
          obtain ⟨ph, ch, hv, hsh⟩ := filli_slice hh
          subst hv
          obtain ⟨pg, cg, hv, hsg⟩ := filli_slice hg
          subst hv
          have hm1 := hh.most
          have hm2 := hg.most
          have hs1 := sum_of ph _ ch _ _ (IL.row hsh (HKL.out a)) (by omega)
          have hs2 := sum_of pg _ cg _ _ (IL.row hsg (fun z hz => by rcases List.mem_append.1 hz with hz | hz; exact HKT.out a z hz; exact HKM.out a z hz)) (by omega)
          have h3 := HPO.out a
          have h4 : namedI [] L a = total (lnparts L a) := rfl
          have h5 : namedI T M a = total (tkparts T a ++ lnparts M a) := rfl
          have h6 : servedAt T M L a = (okB (namedI T M a) && decide (namedI T M a = namedI [] L a)) := rfl
          rw [h4] at h3
          rw [h4, h5] at h6
          have hv1 : val (total (lnparts L a)) = total (lnparts L a) := val_in _ ((okB_iff _).1 h3)
          rw [hv1] at hs1
          have HSA := Lib.hid h6
          clear hh hg hsh hsg hm1 hm2 h3 h4 h5 h6 hv1
          generalize total (lnparts L a) = zh at *
          generalize total (tkparts T a ++ lnparts M a) = zg at *
          generalize (lnparts L ↑a).length = n1 at *
          generalize (tkparts T ↑a ++ lnparts M ↑a).length = n2 at *
          go_wp2_with fail
          refine hs1.mono ?_
          rintro e w4 ⟨rfl, rfl⟩
          clear hs1
          go_wp2_with fail
          refine hs2.mono ?_
          rintro e w5 ⟨rfl, rfl⟩
          clear hs2
          cases hb : okB zg with
          | false =>
            have HF5 := Lib.hid (HNO.out a (by omega) (by rw [HSA.out, hb, Bool.false_and]))
            go_wp2_with fail
            go_ret
            exact ⟨by rw [HF5.out]; rfl, HB2.out.trans (HB3.out.mono HB2.out.size)⟩
          | true =>
            have hv2 : val zg = zg := val_in _ ((okB_iff _).1 hb)
            rw [hv2]
            by_cases hz : zg = zh
            case neg =>
              have d1 : (zg != zh) = true := by simpa using hz
              have HF5 := Lib.hid (HNO.out a (by omega) (by rw [HSA.out, hb, decide_eq_false hz]; rfl))
              go_wp2_with fail
              go_ret
              exact ⟨by rw [HF5.out]; rfl, HB2.out.trans (HB3.out.mono HB2.out.size)⟩
            have d1 : (zg != zh) = false := by simpa using hz
            have HF5 : Hid (servedAt T M L a = true) := Lib.hid (by rw [HSA.out, hb, decide_eq_true hz]; rfl)
            clear hz hv2
            go_wp2_with fail
            go_roundw
            case rel =>
              refine ⟨a + 1, by omega, by go_num, HB3, Lib.hid fun b hb => ?_⟩
              by_cases e : b = a
              · subst e; exact HF5.out
              · exact HE.out b (by omega)
            case measure => simp [Go.RowKit.intOf]; omega
end Go.Proofs.YtdcanppiiikjgaaGreatDoor
