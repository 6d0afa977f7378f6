/- What takes and lines name of an article: the document's way. -/
/- Whether what is taken and owed is just what is ordered: the document's way. -/
/- Whether takes of a restock may be: the document's way. -/
/- Rows of steps in memory: each with lines of its own behind it. -/
/- Which orders a program is about: the document's way. -/
/- Lists copied: slices.Clone over lines and over takes. -/
import Derived.Test.YtdcanppiiikjgaaGreatDoorPgRow
import Derived.Test.YtdcanppiiikjgaaGreatDoorGrCalc
import Derived.Test.YtdcanppiiikjgaaGreatDoorPgTakes
import Derived.Test.YtdcanppiiikjgaaGreatDoorGrBase
namespace Go.Proofs.YtdcanppiiikjgaaGreatDoor
open Go.RowKit Go.ChangeShapes Go.WideShapes
set_option linter.unusedVariables false
set_option maxRecDepth 10000

theorem filli_slice {W wr : World} {v : Value} {L : List Int} {N : Nat} (h : FillI W wr v L N) : ∃ p c, v = .slice p L.length c ∧ IL wr p L.length c L := by
  obtain ⟨p, c, hv, hs, _⟩ := SlG.of_own (d := 0) ic_len (by decide) h.own
  exact ⟨p, c, hv, hs⟩
set_option maxHeartbeats 2000000 in
theorem rnamed_any (tp : Option Addr) (tn tcp : Nat) (T : List Tk) (wp : Option Addr) (wn wcp : Nat) (M : List Ln) (s : Int) (W : World) (hT : TKL W tp tn tcp T) (hM : LL W wp wn wcp M) (hTok : ∀ x ∈ T, Tkok x) (hMok : ∀ x ∈ M, Lnok x) (htn : tn ≤ 1000) (hwn : wn ≤ 1000) :
    Calls Tryz.prog 84 #[.slice tp tn tcp, .slice wp wn wcp, .int .u8 s] W fun e w' => e = .returned (.tuple #[.int .i64 (val (namedI T M s)), .bool (okB (namedI T M s))]) ∧ Below W.heap.size W w' := by
  have HT := Lib.hid hT
  have HM := Lib.hid hM
  have HST := Lib.hid fun j (hj : j < tn) => tkparts_take T s j (by rw [hT.len]; exact hj)
  have HSM := Lib.hid fun j (hj : j < wn) => lnparts_take M s j (by rw [hM.len]; exact hj)
  have HET : Hid (tkparts (T.take tn) s = tkparts T s) := Lib.hid (by rw [← hT.len, List.take_length])
  have HEM : Hid (lnparts (M.take wn) s = lnparts M s) := Lib.hid (by rw [← hM.len, List.take_length])
  have HIN : Hid (∀ z ∈ tkparts T s ++ lnparts M s, In64 z) := Lib.hid fun z hz => by
    rcases List.mem_append.1 hz with hz | hz
    · exact tkparts_in hTok s z hz
    · exact lnparts_in hMok s z hz
  have hc1 := hT.cap
  have hc2 := hM.cap
  clear hT hM hTok hMok
  go_enter Tryz.func84, Tryz.ntmps84
  go_wp2_with fail
  go_loopw [8, 9] (fun v i wr => ∃ j : Nat, j ≤ tn ∧ i = .int .i64 j ∧ Hid (FillI W wr v (tkparts (T.take j) s) j)) (fun _ i _ => tn - (Go.RowKit.intOf i).toNat)
  case atStart => exact ⟨0, Nat.zero_le _, rfl, Lib.hid (by simpa [tkparts] using FillG.nil W)⟩
  case round =>
    obtain ⟨j, hj, rfl, HF⟩ := hrel
    by_cases hlt : j < tn
    · have hlt' : (j : Int) < tn := by omega
      obtain ⟨b, off, rfl, _, k0, k1, k2, k3⟩ := take_cells (HT.out.later HF.out.below) hlt
      have hst := HST.out j hlt
      generalize T.getD j tk0 = x at *
      obtain ⟨o, a, w, q⟩ := x
      dsimp only at k0 k1 k2 k3 hst
      by_cases ha : a = s
      · subst ha
        rw [if_pos rfl] at hst
        have hd : (a == a) = true := by simp
        have HS := Lib.hid hst
        have hsz := HF.out.below.size
        have hmost := HF.out.most
        clear hst
        go_wp2_with (at_builtin; refine wpList_append_i rfl _ _ rfl W.heap.size _ (tkparts (T.take j) a).length (tkparts (T.take j) a) rfl (HF.out.own.alloc _) (by omega) q wr.heap.size rfl (int_news wr q) (by simp; omega) ?_; intro v2 w2 h1 h2)
        have HF2 := Lib.hid (HF.out.step _ h1 h2)
        clear h1 h2 hsz hmost
        go_wp2_with fail
        go_roundw
        case rel => exact ⟨j + 1, by omega, by go_num, Lib.hid (by rw [HS.out]; exact HF2.out)⟩
        case measure => simp [Go.RowKit.intOf]; omega
      · have hd : (a == s) = false := by simpa using ha
        rw [if_neg ha, List.append_nil] at hst
        have HS := Lib.hid hst
        clear hst ha
        go_wp2_with fail
        go_roundw
        case rel => exact ⟨j + 1, by omega, by go_num, Lib.hid (by rw [HS.out]; exact HF.out.mono (by omega))⟩
        case measure => simp [Go.RowKit.intOf]; omega
    · obtain rfl : j = tn := by omega
      have hF := HF.out
      rw [HET.out] at hF
      have HG := Lib.hid hF
      clear hF HF HST
      obtain ⟨W1, hW1⟩ : ∃ W1, W1 = wr := ⟨_, rfl⟩
      subst hW1
      go_wp2_with fail
      go_loopw [8, 10] (fun v i wq => ∃ m : Nat, m ≤ wn ∧ i = .int .i64 m ∧ Hid (FillI W wq v (tkparts T s ++ lnparts (M.take m) s) (j + m))) (fun _ i _ => wn - (Go.RowKit.intOf i).toNat)
      case atStart => exact ⟨0, Nat.zero_le _, rfl, Lib.hid (by simpa [lnparts] using HG.out)⟩
      case round =>
        obtain ⟨m, hm, rfl, HF⟩ := hrel
        by_cases hlt2 : m < wn
        · have hlt' : (m : Int) < wn := by omega
          obtain ⟨b, off, rfl, _, k0, k1⟩ := line_cells (HM.out.later HF.out.below) hlt2
          have hst := HSM.out m hlt2
          generalize M.getD m l0 = x at *
          obtain ⟨a, q⟩ := x
          dsimp only at k0 k1 hst
          by_cases ha : a = s
          · subst ha
            rw [if_pos rfl] at hst
            have hd : (a == a) = true := by simp
            have HS := Lib.hid hst
            have hsz := HF.out.below.size
            have hmost := HF.out.most
            clear hst
            go_wp2_with (at_builtin; refine wpList_append_i rfl _ _ rfl W.heap.size _ (tkparts T a ++ lnparts (M.take m) a).length (tkparts T a ++ lnparts (M.take m) a) rfl (HF.out.own.alloc _) (by omega) q wr.heap.size rfl (int_news wr q) (by simp; omega) ?_; intro v2 w2 h1 h2)
            have HF2 := Lib.hid (HF.out.step _ h1 h2)
            clear h1 h2 hsz hmost
            go_wp2_with fail
            go_roundw
            case rel => exact ⟨m + 1, by omega, by go_num, Lib.hid (by rw [HS.out, ← List.append_assoc]; exact HF2.out)⟩
            case measure => simp [Go.RowKit.intOf]; omega
          · have hd : (a == s) = false := by simpa using ha
            rw [if_neg ha, List.append_nil] at hst
            have HS := Lib.hid hst
            clear hst ha
            go_wp2_with fail
            go_roundw
            case rel => exact ⟨m + 1, by omega, by go_num, Lib.hid (by rw [HS.out]; exact HF.out.mono (by omega))⟩
            case measure => simp [Go.RowKit.intOf]; omega
        · obtain rfl : m = wn := by omega
          have hF := HF.out
          rw [HEM.out] at hF
          obtain ⟨pv, cv, hv, hs⟩ := filli_slice hF
          have hm := hF.most
          have hsum := rsum_of pv _ cv _ _ (IL.row hs HIN.out) (by omega)
          have HB := Lib.hid hF.below
          clear hF HF hs hm
          change Calls _ _ _ _ (fun e w' => e = .returned (.tuple #[.int .i64 (val (namedI T M s)), .bool (okB (namedI T M s))]) ∧ _) at hsum
          generalize (tkparts T s ++ lnparts M s).length = nn at *
          subst hv
          go_wp2_with fail
          refine hsum.mono ?_
          rintro e w4 ⟨rfl, h4⟩
          have HB4 := Lib.hid (HB.out.trans (h4.mono HB.out.size))
          clear hsum h4
          go_wp2_with fail
          go_ret2
          exact ⟨rfl, HB4.out⟩
end Go.Proofs.YtdcanppiiikjgaaGreatDoor
namespace Go.Proofs.YtdcanppiiikjgaaGreatDoor
open Go.RowKit Go.ChangeShapes Go.WideShapes
set_option linter.unusedVariables false
set_option maxRecDepth 10000

set_option maxHeartbeats 4000000 in
theorem rcover_any (k od po : Int) (lp : Option Addr) (ln lcp : Nat) (tp : Option Addr) (tn tcp : Nat) (wp : Option Addr) (wn wcp : Nat) (sk fr to q : Int) (L : List Ln) (T : List Tk) (M : List Ln) (W : World) (hP : PgM W lp ln lcp L tp tn tcp T wp wn wcp M) (hL : ∀ x ∈ L, Lnok x) (hT : ∀ x ∈ T, Tkok x) (hM : ∀ x ∈ M, Lnok x) (h1 : ln ≤ 1000 ∧ tn ≤ 1000 ∧ wn ≤ 1000) :
    Calls Tryz.prog 48 #[.agg #[.int .u8 k, .int .u32 od, .int .u8 po, .slice lp ln lcp, .slice tp tn tcp, .slice wp wn wcp, .int .u8 sk, .int .u8 fr, .int .u8 to, .int .i64 q]] W fun e w' => e = .returned (.bool (coverB T M L)) ∧ Below W.heap.size W w' := by
  have hb1 : Below W.heap.size W (W.alloc (.cells #[.int .u8 k, .int .u32 od, .int .u8 po, .slice lp ln lcp, .slice tp tn tcp, .slice wp wn wcp, .int .u8 sk, .int .u8 fr, .int .u8 to, .int .i64 q] 28)) := (Below.refl _ _).alloc (Nat.le_refl _) _
  have HB1 := Lib.hid hb1
  have HP := Lib.hid (hP.later hb1)
  have HX := Lib.hid (alloc_block W (.cells #[.int .u8 k, .int .u32 od, .int .u8 po, .slice lp ln lcp, .slice tp tn tcp, .slice wp wn wcp, .int .u8 sk, .int .u8 fr, .int .u8 to, .int .i64 q] 28))
  have HA := Lib.hid fun (s : Int) w (h : PgM w lp ln lcp L tp tn tcp T wp wn wcp M) => rnamed_any tp tn tcp T wp wn wcp M s w h.t h.o hT hM h1.2.1 h1.2.2
  have HBB := Lib.hid fun (s : Int) w (h : PgM w lp ln lcp L tp tn tcp T wp wn wcp M) => rnamed_any none 0 0 [] lp ln lcp L s w (SlG.empty w) h.l (fun x hx => by cases hx) hL (by omega) h1.1
  clear hP hL hT hM h1 hb1
  go_enter Tryz.func48, Tryz.ntmps48
  go_wp2_with fail
  generalize W.alloc (.cells #[.int .u8 k, .int .u32 od, .int .u8 po, .slice lp ln lcp, .slice tp tn tcp, .slice wp wn wcp, .int .u8 sk, .int .u8 fr, .int .u8 to, .int .i64 q] 28) = W1 at *
  go_loopw [3] (fun i wr => ∃ j : Nat, j ≤ 4 ∧ i = .int .i64 j ∧ Hid (Below W1.heap.size W1 wr) ∧ Hid (∀ i, i < j → coverAt T M L i = true)) (fun i _ => 4 - (Go.RowKit.intOf i).toNat)
  case atStart => exact ⟨0, by omega, rfl, Lib.hid (Below.refl _ _), Lib.hid fun i hi => by omega⟩
  case round =>
    obtain ⟨j, hj, rfl, HB, HE⟩ := hrel
    by_cases hlt : j < 4
    case neg =>
      obtain rfl : j = 4 := by omega
      have HF := Lib.hid (cover_true T M L HE.out)
      go_wp2_with fail
      go_ret
      exact ⟨by rw [HF.out]; rfl, HB1.out.trans (HB.out.mono HB1.out.size)⟩
    have hlt' : (j : Int) < 4 := by omega
    have hwj : IntKind.u8.wrap (j : Int) = j := IntWalk.u8_in _ (by omega)
    obtain ⟨_, _, _, a3, a4, a5, _, _, _, _⟩ := prog_cells k od po lp ln lcp tp tn tcp wp wn wcp sk fr to q (block_later HX.out HB.out)
    have hca := HA.out (j : Int) wr (HP.out.later HB.out)
    have HFA := Lib.hid (cover_false T M L j hlt)
    have hcv : coverAt T M L j = (okB (namedI T M j) && okB (namedI [] L j) && decide (namedI T M j = namedI [] L j)) := rfl
    have HCV := Lib.hid hcv
    clear hcv
    generalize hz1 : namedI T M (j : Int) = z1 at *
    generalize hz2 : namedI [] L (j : Int) = z2 at *
    go_wp2_with fail
    refine hca.mono ?_
    rintro e w2 ⟨rfl, h2⟩
    have HB2 := Lib.hid (HB.out.trans (h2.mono HB.out.size))
    have hcb := HBB.out (j : Int) w2 (HP.out.later HB2.out)
    rw [hz2] at hcb
    clear hca h2 a3 a4 a5
    obtain ⟨_, _, _, a3, a4, a5, _, _, _, _⟩ := prog_cells k od po lp ln lcp tp tn tcp wp wn wcp sk fr to q (block_later HX.out HB2.out)
    go_wp2_with fail
    refine hcb.mono ?_
    rintro e w3 ⟨rfl, h3⟩
    have HB3 := Lib.hid (HB2.out.trans (h3.mono HB2.out.size))
    clear hcb h3 a3 a4 a5 hz1 hz2
    cases o1 : okB z1 with
    | false =>
      have HF := Lib.hid (HFA.out (by rw [HCV.out, o1]; rfl))
      go_wp2_with fail
      go_ret
      exact ⟨by rw [HF.out]; rfl, HB1.out.trans (HB3.out.mono HB1.out.size)⟩
    | true =>
      cases o2 : okB z2 with
      | false =>
        have HF := Lib.hid (HFA.out (by rw [HCV.out, o1, o2]; rfl))
        go_wp2_with fail
        go_ret
        exact ⟨by rw [HF.out]; rfl, HB1.out.trans (HB3.out.mono HB1.out.size)⟩
      | true =>
        have v1 : val z1 = z1 := val_in _ ((okB_iff _).1 o1)
        have v2 : val z2 = z2 := val_in _ ((okB_iff _).1 o2)
        by_cases hz : z1 = z2
        · have hd : (z1 != z2) = false := by simpa using hz
          have HT : Hid (coverAt T M L j = true) := Lib.hid (by rw [HCV.out, o1, o2, decide_eq_true hz]; rfl)
          clear hz
          go_wp2_with fail
          go_roundw
          case rel =>
            refine ⟨j + 1, by omega, by go_num, HB3, Lib.hid fun i hi => ?_⟩
            by_cases e : i = j
            · subst e; exact HT.out
            · exact HE.out i (by omega)
          case measure => simp [Go.RowKit.intOf]; omega
        · have hd : (z1 != z2) = true := by simpa using hz
          have HF := Lib.hid (HFA.out (by rw [HCV.out, o1, o2, decide_eq_false hz]; rfl))
          clear hz
          go_wp2_with fail
          go_ret
          exact ⟨by rw [HF.out]; rfl, HB1.out.trans (HB3.out.mono HB1.out.size)⟩
end Go.Proofs.YtdcanppiiikjgaaGreatDoor
namespace Go.Proofs.YtdcanppiiikjgaaGreatDoor
open Go.RowKit Go.ChangeShapes Go.WideShapes
set_option linter.unusedVariables false
set_option maxRecDepth 10000

def fiA (sk to : Int) (x : Tk) : Bool := decide (x.1 ≠ 0) && decide (x.2.1 = sk) && decide (x.2.2.1 = to) && decide (1 ≤ x.2.2.2)
theorem fillAt_eq (sk to : Int) (T : List Tk) (j : Nat) : fillAt sk to T j = (fiA sk to (T.getD j tk0) && (List.range j).all fun k => decide ((T.getD k tk0).1 ≠ (T.getD j tk0).1)) := rfl
theorem all_yes {j : Nat} {f : Nat → Bool} (h : ∀ k, k < j → f k = true) : (List.range j).all f = true := by
  rw [List.all_eq_true]
  exact fun k hk => h k (List.mem_range.1 hk)
theorem all_no {j k : Nat} {f : Nat → Bool} (hk : k < j) (h : f k = false) : (List.range j).all f = false := by
  cases hc : (List.range j).all f with
  | false => rfl
  | true =>
    have := List.all_eq_true.1 hc k (List.mem_range.2 hk)
    rw [h] at this
    cases this
set_option maxHeartbeats 8000000 in
theorem rfills_any (k od po : Int) (lp : Option Addr) (ln lcp : Nat) (tp : Option Addr) (tn tcp : Nat) (wp : Option Addr) (wn wcp : Nat) (sk fr to q : Int) (T : List Tk) (W : World) (hT : TKL W tp tn tcp T) (hTok : ∀ x ∈ T, Tkok x) (hn : tn ≤ 1000) :
    Calls Tryz.prog 49 #[.agg #[.int .u8 k, .int .u32 od, .int .u8 po, .slice lp ln lcp, .slice tp tn tcp, .slice wp wn wcp, .int .u8 sk, .int .u8 fr, .int .u8 to, .int .i64 q]] W fun e w' => e = .returned (.bool (fillsB sk to q T)) ∧ Below W.heap.size W w' := by
  have hb1 : Below W.heap.size W (W.alloc (.cells #[.int .u8 k, .int .u32 od, .int .u8 po, .slice lp ln lcp, .slice tp tn tcp, .slice wp wn wcp, .int .u8 sk, .int .u8 fr, .int .u8 to, .int .i64 q] 28)) := (Below.refl _ _).alloc (Nat.le_refl _) _
  have HB1 := Lib.hid hb1
  have HT := Lib.hid (hT.later hb1)
  have HLN := Lib.hid hT.len
  have HX := Lib.hid (alloc_block W (.cells #[.int .u8 k, .int .u32 od, .int .u8 po, .slice lp ln lcp, .slice tp tn tcp, .slice wp wn wcp, .int .u8 sk, .int .u8 fr, .int .u8 to, .int .i64 q] 28))
  have HOK := Lib.hid fun j (hj : j < tn) => tkok_at hTok (show j < T.length by rw [hT.len]; exact hj)
  have HFA := Lib.hid fun j (hj : j < tn) => fills_false sk to q T j (by rw [hT.len]; exact hj)
  have HTR := Lib.hid (fills_true sk to q T)
  have HNA := Lib.hid fun w (h : TKL w tp tn tcp T) => rnamed_any tp tn tcp T none 0 0 [] sk w h (SlG.empty w) hTok (fun x hx => by cases hx) hn (by omega)
  have hcap := hT.cap
  clear hT hTok hb1
  go_enter Tryz.func49, Tryz.ntmps49
  go_wp2_with fail
  generalize W.alloc (.cells #[.int .u8 k, .int .u32 od, .int .u8 po, .slice lp ln lcp, .slice tp tn tcp, .slice wp wn wcp, .int .u8 sk, .int .u8 fr, .int .u8 to, .int .i64 q] 28) = W1 at *
  go_loopw [4] (fun i wr => ∃ j : Nat, j ≤ tn ∧ i = .int .i64 j ∧ Hid (Below W1.heap.size W1 wr) ∧ Hid (∀ i, i < j → fillAt sk to T i = true)) (fun i _ => tn - (Go.RowKit.intOf i).toNat)
  case atStart => exact ⟨0, Nat.zero_le _, rfl, Lib.hid (Below.refl _ _), Lib.hid fun i hi => by omega⟩
  case round =>
    obtain ⟨j, hj, rfl, HB, HE⟩ := hrel
    by_cases hlt : j < tn
    case neg =>
      obtain rfl : j = tn := by omega
      have hna := HNA.out wr (HT.out.later HB.out)
      have HF : Hid (fillsB sk to q T = (decide ((j : Int) ≤ 12) && okB (namedI T [] sk) && decide (namedI T [] sk ≤ q))) := Lib.hid (by
        rw [HTR.out (fun i hi => HE.out i (by rw [← HLN.out]; exact hi)), HLN.out]
        have : decide (j ≤ 12) = decide ((j : Int) ≤ 12) := decide_eq_decide.2 (by omega)
        rw [this])
      obtain ⟨_, _, _, _, _, _, c6, _, _, c9⟩ := prog_cells _ _ _ _ _ _ _ _ _ _ _ _ _ _ _ _ (block_later HX.out HB.out)
      go_wp2_with fail
      refine hna.mono ?_
      rintro e w3 ⟨rfl, h3⟩
      have HB3 := Lib.hid (HB.out.trans (h3.mono HB.out.size))
      clear hna h3 c6 c9
      obtain ⟨_, _, _, _, _, _, c6, _, _, c9⟩ := prog_cells _ _ _ _ _ _ _ _ _ _ _ _ _ _ _ _ (block_later HX.out HB3.out)
      generalize namedI T [] sk = z at *
      by_cases h12 : j ≤ 12
      case neg =>
        have d1 : decide ((j : Int) ≤ 12) = false := decide_eq_false (by omega)
        have d1n : decide (j ≤ 12) = false := decide_eq_false h12
        rw [d1] at HF
        clear h12
        go_wp2_with fail
        go_ret
        exact ⟨by rw [HF.out]; rfl, HB1.out.trans (HB3.out.mono HB1.out.size)⟩
      have d1 : decide ((j : Int) ≤ 12) = true := decide_eq_true (by omega)
      have d1n : decide (j ≤ 12) = true := decide_eq_true h12
      rw [d1] at HF
      clear h12
      cases o1 : okB z with
      | false =>
        rw [o1] at HF
        go_wp2_with fail
        go_ret
        exact ⟨by rw [HF.out]; rfl, HB1.out.trans (HB3.out.mono HB1.out.size)⟩
      | true =>
        rw [o1] at HF
        have v1 : val z = z := val_in _ ((okB_iff _).1 o1)
        go_wp2_with fail
        go_ret
        exact ⟨by rw [HF.out]; simp, HB1.out.trans (HB3.out.mono HB1.out.size)⟩
    have hlt' : (j : Int) < tn := by omega
    have hat := fillAt_eq sk to T j
    obtain ⟨b, off, rfl, _, _⟩ := take_cells (HT.out.later HB.out) hlt
    have HTC : Hid (∀ k, k < tn → ∀ w', Below W1.heap.size W1 w' → w'.cell? ⟨b, off + k * 4, none⟩ = some (.int .u32 (T.getD k tk0).1) ∧ w'.cell? ⟨b, off + k * 4 + 1, none⟩ = some (.int .u8 (T.getD k tk0).2.1) ∧ w'.cell? ⟨b, off + k * 4 + 2, none⟩ = some (.int .u8 (T.getD k tk0).2.2.1) ∧ w'.cell? ⟨b, off + k * 4 + 3, none⟩ = some (.int .i64 (T.getD k tk0).2.2.2)) := Lib.hid fun k hk w' h => by
      obtain ⟨b', off', he, _, d0, d1, d2, d3⟩ := take_cells (HT.out.later h) hk
      cases he
      exact ⟨d0, d1, d2, d3⟩
    have HFAJ := Lib.hid (HFA.out j hlt)
    obtain ⟨⟨ho0, ho1⟩, ⟨ha0, ha1⟩, ⟨hw0, hw1⟩, hq0, hq1⟩ := HOK.out j hlt
    obtain ⟨c0, c1, c2, c3⟩ := HTC.out j hlt wr HB.out
    obtain ⟨_, _, _, _, _, _, e6, _, e8, _⟩ := prog_cells _ _ _ _ _ _ _ _ _ _ _ _ _ _ _ _ (block_later HX.out HB.out)
    generalize hx : T.getD j tk0 = x at *
    obtain ⟨o, a, v, qq⟩ := x
    dsimp only at c0 c1 c2 c3 ho0 ho1 ha0 ha1 hw0 hw1 hq0 hq1 hat
    have HAT := Lib.hid hat
    have HX1 := Lib.hid hx
    clear hat hx
    by_cases h1 : o = 0
    case pos =>
      have d1 : (o == 0) = true := by simpa using h1
      have HF := Lib.hid (HFAJ.out (by rw [HAT.out, show fiA sk to (o, a, v, qq) = false from by unfold fiA; simp; omega]; simp))
      go_wp2_with fail
      go_quiet (fail)
      go_wp2_with fail
      go_ret
      exact ⟨by rw [HF.out]; rfl, HB1.out.trans ((below_drewN HB.out _).mono HB1.out.size)⟩
    have d1 : (o == 0) = false := by simpa using h1
    by_cases h2 : a = sk
    case neg =>
      have d2 : (a != sk) = true := by simpa using h2
      have HF := Lib.hid (HFAJ.out (by rw [HAT.out, show fiA sk to (o, a, v, qq) = false from by unfold fiA; simp; omega]; simp))
      go_wp2_with fail
      go_quiet (fail)
      go_wp2_with fail
      go_ret
      exact ⟨by rw [HF.out]; rfl, HB1.out.trans ((below_drewN HB.out _).mono HB1.out.size)⟩
    have d2 : (a != sk) = false := by simpa using h2
    by_cases h3 : v = to
    case neg =>
      have d3 : (v != to) = true := by simpa using h3
      have HF := Lib.hid (HFAJ.out (by rw [HAT.out, show fiA sk to (o, a, v, qq) = false from by unfold fiA; simp; omega]; simp))
      go_wp2_with fail
      go_quiet (fail)
      go_wp2_with fail
      go_ret
      exact ⟨by rw [HF.out]; rfl, HB1.out.trans ((below_drewN HB.out _).mono HB1.out.size)⟩
    have d3 : (v != to) = false := by simpa using h3
    by_cases h4 : qq < 1
    case pos =>
      have d4 : decide (qq < 1) = true := decide_eq_true h4
      have HF := Lib.hid (HFAJ.out (by rw [HAT.out, show fiA sk to (o, a, v, qq) = false from by unfold fiA; simp; omega]; simp))
      go_wp2_with fail
      go_quiet (fail)
      go_wp2_with fail
      go_ret
      exact ⟨by rw [HF.out]; rfl, HB1.out.trans ((below_drewN HB.out _).mono HB1.out.size)⟩
    have d4 : decide (qq < 1) = false := decide_eq_false h4
    have HA : Hid (fiA sk to (o, a, v, qq) = true) := Lib.hid (by unfold fiA; simp; omega)
    clear h1 h2 h3 h4
    go_wp2_with fail
    go_quiet (fail)
    go_wp2_with fail
    clear c0 c1 c2 c3 e6 e8
    go_loopw [5] (fun i wq => ∃ m : Nat, m ≤ j ∧ i = .int .i64 m ∧ Hid (Below W1.heap.size W1 wq) ∧ Hid (∀ i, i < m → decide ((T.getD i tk0).1 ≠ o) = true)) (fun i _ => j - (Go.RowKit.intOf i).toNat)
    case atStart => exact ⟨0, Nat.zero_le _, rfl, Lib.hid (by repeat (first | exact HB.out | refine below_drewN ?_ _)), Lib.hid fun i hi => by omega⟩
    case round =>
      obtain ⟨m, hm, rfl, HBQ, HEQ⟩ := hrel
      by_cases hlt2 : m < j
      case neg =>
        obtain rfl : m = j := by omega
        have HAJ : Hid (fillAt sk to T m = true) := Lib.hid (by rw [HAT.out, HA.out]; exact all_yes HEQ.out)
        go_wp2_with fail
        go_roundw
        case rel =>
          refine ⟨m + 1, by omega, by go_num, HBQ, Lib.hid fun i hi => ?_⟩
          by_cases e : i = m
          · subst e; exact HAJ.out
          · exact HE.out i (by omega)
        case measure => simp [Go.RowKit.intOf]; omega
      have hlt2' : (m : Int) < j := by omega
      have hmn : (m : Int) < tn := by omega
      obtain ⟨c0, c1, c2, c3⟩ := HTC.out j hlt _ HBQ.out
      obtain ⟨k0, k1, k2, k3⟩ := HTC.out m (by omega) _ HBQ.out
      rw [HX1.out] at c0 c1 c2 c3
      dsimp only at c0 c1 c2 c3
      have hfm := fun (h : decide ((T.getD m tk0).1 ≠ o) = false) => all_no (f := fun k => decide ((T.getD k tk0).1 ≠ o)) hlt2 h
      have HFM := Lib.hid hfm
      clear hfm
      generalize hy : T.getD m tk0 = y at *
      obtain ⟨yo, ya, yw, yq⟩ := y
      dsimp only at k0 k1 k2 k3
      have HY := Lib.hid hy
      clear hy
      by_cases g1 : yo = o
      case pos =>
        have d5 : (yo == o) = true := by simpa using g1
        have HF := Lib.hid (HFAJ.out (by rw [HAT.out, HFM.out (by simpa using g1), Bool.and_false]))
        clear g1
        go_wp2_with fail
        go_quiet (fail)
        go_wp2_with fail
        go_ret
        exact ⟨by rw [HF.out]; rfl, HB1.out.trans ((below_drewN HBQ.out _).mono HB1.out.size)⟩
      have d5 : (yo == o) = false := by simpa using g1
      have HNE : Hid (decide ((T.getD m tk0).1 ≠ o) = true) := Lib.hid (by rw [HY.out]; simpa using g1)
      clear g1
      go_wp2_with fail
      go_quiet (fail)
      go_wp2_with fail
      go_roundw
      case rel =>
        refine ⟨m + 1, by omega, by go_num, Lib.hid (by repeat (first | exact HBQ.out | refine below_drewN ?_ _)), Lib.hid fun i hi => ?_⟩
        by_cases e : i = m
        · subst e; exact HNE.out
        · exact HEQ.out i (by omega)
      case measure => simp [Go.RowKit.intOf]; omega
end Go.Proofs.YtdcanppiiikjgaaGreatDoor
namespace Go.Proofs.YtdcanppiiikjgaaGreatDoor
open Go.RowKit Go.ChangeShapes Go.WideShapes
set_option linter.unusedVariables false
set_option maxRecDepth 10000

/-- A step as it lies: its tag, its warehouse, where its lines lie. -/
abbrev Hs := Int × Int × Option Addr × Nat × Nat
abbrev hs0 : Hs := (0, 0, none, 0, 0)
def sc (h : Hs) : List Value := [.int .u8 h.1, .int .u8 h.2.1, .slice h.2.2.1 h.2.2.2.1 h.2.2.2.2]
theorem sc_len (h : Hs) : (sc h).length = 3 := rfl
theorem sc_one (h : Hs) : ∀ u ∈ sc h, u.oneCell' = true := by
  intro u hu
  simp only [sc, List.mem_cons, List.not_mem_nil, or_false] at hu
  rcases hu with rfl | rfl | rfl <;> rfl
/-- A header tells a step. -/
def Tells (w : World) (h : Hs) (s : Stp) : Prop := h.1 = s.1 ∧ h.2.1 = s.2.1 ∧ LL w h.2.2.1 h.2.2.2.1 h.2.2.2.2 s.2.2
theorem Tells.later {w w' : World} {h : Hs} {s : Stp} (ht : Tells w h s) (hb : Below w.heap.size w w') : Tells w' h s := ⟨ht.1, ht.2.1, ht.2.2.later hb⟩
/-- Headers tell steps, one by one. -/
def TellsAll (w : World) : List Hs → List Stp → Prop
  | [], [] => True
  | h :: H, s :: S => Tells w h s ∧ TellsAll w H S
  | _, _ => False
theorem TellsAll.later {w w' : World} (hb : Below w.heap.size w w') : ∀ {H : List Hs} {S : List Stp}, TellsAll w H S → TellsAll w' H S
  | [], [], _ => trivial
  | _ :: _, _ :: _, h => ⟨h.1.later hb, TellsAll.later hb h.2⟩
  | [], _ :: _, h => h.elim
  | _ :: _, [], h => h.elim
theorem TellsAll.len {w : World} : ∀ {H : List Hs} {S : List Stp}, TellsAll w H S → H.length = S.length
  | [], [], _ => rfl
  | _ :: _, _ :: _, h => by rw [List.length_cons, List.length_cons, TellsAll.len h.2]
  | [], _ :: _, h => h.elim
  | _ :: _, [], h => h.elim
theorem TellsAll.append {w : World} : ∀ {H H' : List Hs} {S S' : List Stp}, TellsAll w H S → TellsAll w H' S' → TellsAll w (H ++ H') (S ++ S')
  | [], _, [], _, _, h => h
  | _ :: _, _, _ :: _, _, h, h' => ⟨h.1, TellsAll.append h.2 h'⟩
  | [], _, _ :: _, _, h, _ => h.elim
  | _ :: _, _, [], _, h, _ => h.elim
theorem TellsAll.at {w : World} : ∀ {H : List Hs} {S : List Stp} (j : Nat), TellsAll w H S → j < H.length → Tells w (H.getD j hs0) (S.getD j (0, 0, []))
  | _ :: _, _ :: _, 0, h, _ => h.1
  | _ :: _, _ :: _, j + 1, h, hj => by simpa using TellsAll.at j h.2 (by simpa using hj)
  | [], [], j, _, hj => by simp at hj
  | [], _ :: _, _, h, _ => h.elim
  | _ :: _, [], _, h, _ => h.elim
abbrev HL (w : World) (p : Option Addr) (n c : Nat) (H : List Hs) : Prop := SlG sc 3 hs0 w p n c H
/-- A slice that holds steps. -/
structure SL (w : World) (p : Option Addr) (n c : Nat) (H : List Hs) (S : List Stp) : Prop where
  row : HL w p n c H
  tells : TellsAll w H S
theorem SL.later {w w' : World} {p : Option Addr} {n c : Nat} {H : List Hs} {S : List Stp} (h : SL w p n c H S) (hb : Below w.heap.size w w') : SL w' p n c H S := ⟨h.row.later hb, h.tells.later hb⟩
theorem info_step : (Tryz.prog.info? 147).map (fun i => (i.zero, i.size, i.bytes)) = some (some (.agg #[.int .u8 0, .int .u8 0, .slice none 0 0]), 3, 32) := by kernel_rfl
/-- A row of steps that grows. -/
structure FillS (W wr : World) (v : Value) (H : List Hs) (S : List Stp) (N : Nat) : Prop where
  own : wr.ownsRow W.heap.size 147 3 v H.length (flatG sc H)
  below : Below W.heap.size W wr
  most : H.length ≤ N
  tells : TellsAll wr H S
  apart : ∀ h ∈ H, 0 < h.2.2.2.1 → ∀ ad, h.2.2.1 = some ad → v.ownBlock ≠ some ad.block
theorem FillS.nil (W : World) : FillS W W (.slice none 0 0) [] [] 0 := ⟨World.ownsRow_nil _ _ _ _, Below.refl _ _, Nat.le_refl _, trivial, fun h hh => by cases hh⟩
theorem FillS.later {W wr w' : World} {v : Value} {H : List Hs} {S : List Stp} {N : Nat} (h : FillS W wr v H S N) (hb : Below wr.heap.size wr w') : FillS W w' v H S N := by
  refine ⟨⟨h.own.1, ?_⟩, h.below.trans (hb.mono h.below.size), h.most, h.tells.later hb, h.apart⟩
  rcases h.own.2 with hn | ⟨g, cap, cur, rfl, h1, h2, h3⟩
  · exact .inl hn
  · exact .inr ⟨g, cap, cur, rfl, h1, (hb.block g (Array.getElem?_eq_some_iff.1 h2).1).trans h2, h3⟩
theorem FillS.mono {W wr : World} {v : Value} {H : List Hs} {S : List Stp} {N K : Nat} (h : FillS W wr v H S N) (hn : N ≤ K) : FillS W wr v H S K := ⟨h.own, h.below, Nat.le_trans h.most hn, h.tells, h.apart⟩
/-- What a call that hands back steps in a row of its own says. -/
def GivesS (W : World) (S : List Stp) (e : Ending) (w' : World) : Prop := ∃ p c H, e = .returned (.slice p S.length c) ∧ SL w' p S.length c H S ∧ Below W.heap.size W w'
theorem FillS.gives {W wr : World} {v : Value} {H : List Hs} {S : List Stp} {N : Nat} (h : FillS W wr v H S N) : GivesS W S (.returned v) wr := by
  obtain ⟨p, c, rfl, hs, hp⟩ := SlG.of_own (d := hs0) sc_len (by decide) h.own
  rw [h.tells.len] at hs ⊢
  exact ⟨p, c, H, rfl, ⟨hs, h.tells⟩, h.below⟩
theorem GivesS.since {W W2 : World} {S : List Stp} {e : Ending} {w' : World} (h : GivesS W2 S e w') (hb : Below W.heap.size W W2) : GivesS W S e w' := by
  obtain ⟨p, c, H, rfl, hs, hb2⟩ := h
  exact ⟨p, c, H, rfl, hs, hb.trans (hb2.mono hb.size)⟩
/-- Steps that lie in a block made last, as append wants them. -/
theorem step_news {w : World} {B : Nat} {c : Array Value} {H : List Hs} (h : w.heap[B]? = some (.cells c 147 (0, 0))) (hc : c.toList = flatG sc H) : ∀ ad, (some (⟨B, 0, none⟩ : Addr)) = some ad → ∀ j u, (flatG sc H)[j]? = some u → w.cell? (ad.add j) = some u := by
  intro ad he j u hu
  cases he
  rw [Go.WideShapes.add_plain, Nat.zero_add]
  refine block_cell h ?_
  rw [← hc] at hu
  simpa using hu
/-- append of steps onto a row of the call's own. -/
theorem wpList_append_steps {W w : World} {ops : Array Oper} {rest : List Oper} {o : Oper} {a : Act} {Q : Exit → Act → World → Prop} (hgd : o.guard = none) (s x : Operand)
    (ho : o.op = .call { callee := .builtin .append, args := #[s, x], argTypes := #[148, 148] })
    (v : Value) (H : List Hs) (S : List Stp) (N : Nat) (hs : a.eval s = v) (hF : FillS W w v H S N) (B m : Nat) (H' : List Hs) (S' : List Stp) (hx : a.eval x = .slice (some ⟨B, 0, none⟩) m m) (hm : H'.length = m)
    (hnews : ∀ ad, (some (⟨B, 0, none⟩ : Addr)) = some ad → ∀ j u, (flatG sc H')[j]? = some u → w.cell? (ad.add j) = some u) (hT : TellsAll w H' S') (hapart' : ∀ h ∈ H', 0 < h.2.2.2.1 → ∀ ad, h.2.2.1 = some ad → v.ownBlock ≠ some ad.block) (hbig : N + m ≤ 1000000)
    (h : ∀ p' n' c' w', FillS W w' (.slice p' n' c') (H ++ H') (S ++ S') (N + m) → wpList Tryz.prog ops Q rest (a.put o.dst (.slice p' n' c')) w') : wpList Tryz.prog ops Q (o :: rest) a w := by
  have hmost := hF.most
  have hapart : ∀ h ∈ H ++ H', 0 < h.2.2.2.1 → ∀ ad, h.2.2.1 = some ad → v.ownBlock ≠ some ad.block := fun h hh => by
    rcases List.mem_append.1 hh with hh | hh
    · exact hF.apart h hh
    · exact hapart' h hh
  have hold : ∀ {K : List Hs} {R : List Stp}, TellsAll w K R → ∀ h ∈ K, 0 < h.2.2.2.1 → ∀ ad, h.2.2.1 = some ad → ad.block < w.heap.size := by
    intro K
    induction K with
    | nil => intro R _ h hh; cases hh
    | cons g K ih => intro R ht h hh h0 ad he; cases R with
      | nil => exact ht.elim
      | cons s R =>
        rcases List.mem_cons.1 hh with rfl | hh
        · obtain ⟨b, off, hp, hlt, _⟩ := ht.1.2.2.cell h0
          rw [he] at hp
          cases hp
          exact hlt
        · exact ih ht.2 h hh h0 ad he
  refine wpList_append_vals (k := 3) (by decide) Tryz.underlying148 info_step rfl (by omega) hgd s x ho v H.length (flatG sc H) hs (own_zero hF.own) (some ⟨B, 0, none⟩) m m (flatG sc H') hx (by rw [flatG_len sc_len, hm]) (fun h => by cases h) hnews (flatG_all sc_one H') (by omega) fun p' c' w' h1 h2 h3 => ?_
  rw [← flatG_append] at h1
  have htell : ∀ {K : List Hs} {R : List Stp}, (∀ h ∈ K, 0 < h.2.2.2.1 → ∀ ad, h.2.2.1 = some ad → v.ownBlock ≠ some ad.block) → TellsAll w K R → TellsAll w' K R := by
    intro K
    induction K with
    | nil => intro R _ hh; cases R with
      | nil => trivial
      | cons s R => exact hh.elim
    | cons g K ih => intro R ha hh; cases R with
      | nil => exact hh.elim
      | cons s R =>
        refine ⟨⟨hh.1.1, hh.1.2.1, ?_⟩, ih (fun x hx => ha x (List.mem_cons.2 (.inr hx))) hh.2⟩
        exact hh.1.2.2.turn h2.size fun h0 ad he hlt => h2.block ad.block hlt (ha g (List.mem_cons.2 (.inl rfl)) h0 ad he)
  have hall := htell hapart (hF.tells.append hT)
  refine h p' (H.length + m) c' w' ⟨?_, Chg.below hF.below hF.below.size h2 fun k hk => (hF.own.lt k hk).1, by rw [List.length_append, hm]; omega, hall, fun g hg h0 ad he hb => ?_⟩
  · have hlen : (H ++ H').length = H.length + m := by rw [List.length_append, hm]
    rw [hlen]
    refine ⟨h1.1, ?_⟩
    rcases h1.2 with hn | ⟨g, cap, cur, he, g1, g2, g3⟩
    · exact .inl hn
    · refine .inr ⟨g, cap, cur, he, ?_, g2, g3⟩
      rcases h3 g (by rw [he]; rfl) with hk | hk
      · exact (hF.own.lt g hk).1
      · exact Nat.le_trans hF.below.size hk
  · rcases h3 ad.block hb with hk | hk
    · exact hapart g hg h0 ad he hk
    · exact absurd (hold (hF.tells.append hT) g hg h0 ad he) (by omega)
/-- append of steps, as one step of a region that draws its order. -/
theorem step_append_steps {W w : World} {ops : Array Oper} {o : Oper} {a : Act} {K : Act → World → Prop} {Q : Exit → Act → World → Prop} {E : Prop} (hgd : o.guard = none) (s x : Operand)
    (ho : o.op = .call { callee := .builtin .append, args := #[s, x], argTypes := #[148, 148] })
    (v : Value) (H : List Hs) (S : List Stp) (N : Nat) (hs : a.eval s = v) (hF : FillS W w v H S N) (B m : Nat) (H' : List Hs) (S' : List Stp) (hx : a.eval x = .slice (some ⟨B, 0, none⟩) m m) (hm : H'.length = m)
    (hnews : ∀ ad, (some (⟨B, 0, none⟩ : Addr)) = some ad → ∀ j u, (flatG sc H')[j]? = some u → w.cell? (ad.add j) = some u) (hT : TellsAll w H' S') (hapart' : ∀ h ∈ H', 0 < h.2.2.2.1 → ∀ ad, h.2.2.1 = some ad → v.ownBlock ≠ some ad.block) (hbig : N + m ≤ 1000000)
    (h : ∀ p' n' c' w', FillS W w' (.slice p' n' c') (H ++ H') (S ++ S') (N + m) → K (a.put o.dst (.slice p' n' c')) w') :
    if Region.wanted o (yielded ops a.tmps) = true then Oper.wp Tryz.prog o a w K Q else E := by
  have hmost := hF.most
  have hapart : ∀ h ∈ H ++ H', 0 < h.2.2.2.1 → ∀ ad, h.2.2.1 = some ad → v.ownBlock ≠ some ad.block := fun h hh => by
    rcases List.mem_append.1 hh with hh | hh
    · exact hF.apart h hh
    · exact hapart' h hh
  have hold : ∀ {K : List Hs} {R : List Stp}, TellsAll w K R → ∀ h ∈ K, 0 < h.2.2.2.1 → ∀ ad, h.2.2.1 = some ad → ad.block < w.heap.size := by
    intro K
    induction K with
    | nil => intro R _ h hh; cases hh
    | cons g K ih => intro R ht h hh h0 ad he; cases R with
      | nil => exact ht.elim
      | cons s R =>
        rcases List.mem_cons.1 hh with rfl | hh
        · obtain ⟨b, off, hp, hlt, _⟩ := ht.1.2.2.cell h0
          rw [he] at hp
          cases hp
          exact hlt
        · exact ih ht.2 h hh h0 ad he
  refine step_append_vals (k := 3) (by decide) Tryz.underlying148 info_step rfl (by omega) hgd s x ho v H.length (flatG sc H) hs (own_zero hF.own) (some ⟨B, 0, none⟩) m m (flatG sc H') hx (by rw [flatG_len sc_len, hm]) (fun h => by cases h) hnews (flatG_all sc_one H') (by omega) fun p' c' w' h1 h2 h3 => ?_
  rw [← flatG_append] at h1
  have htell : ∀ {K : List Hs} {R : List Stp}, (∀ h ∈ K, 0 < h.2.2.2.1 → ∀ ad, h.2.2.1 = some ad → v.ownBlock ≠ some ad.block) → TellsAll w K R → TellsAll w' K R := by
    intro K
    induction K with
    | nil => intro R _ hh; cases R with
      | nil => trivial
      | cons s R => exact hh.elim
    | cons g K ih => intro R ha hh; cases R with
      | nil => exact hh.elim
      | cons s R =>
        refine ⟨⟨hh.1.1, hh.1.2.1, ?_⟩, ih (fun x hx => ha x (List.mem_cons.2 (.inr hx))) hh.2⟩
        exact hh.1.2.2.turn h2.size fun h0 ad he hlt => h2.block ad.block hlt (ha g (List.mem_cons.2 (.inl rfl)) h0 ad he)
  have hall := htell hapart (hF.tells.append hT)
  refine h p' (H.length + m) c' w' ⟨?_, Chg.below hF.below hF.below.size h2 fun k hk => (hF.own.lt k hk).1, by rw [List.length_append, hm]; omega, hall, fun g hg h0 ad he hb => ?_⟩
  · have hlen : (H ++ H').length = H.length + m := by rw [List.length_append, hm]
    rw [hlen]
    refine ⟨h1.1, ?_⟩
    rcases h1.2 with hn | ⟨g, cap, cur, he, g1, g2, g3⟩
    · exact .inl hn
    · refine .inr ⟨g, cap, cur, he, ?_, g2, g3⟩
      rcases h3 g (by rw [he]; rfl) with hk | hk
      · exact (hF.own.lt g hk).1
      · exact Nat.le_trans hF.below.size hk
  · rcases h3 ad.block hb with hk | hk
    · exact hapart g hg h0 ad he hk
    · exact absurd (hold (hF.tells.append hT) g hg h0 ad he) (by omega)
end Go.Proofs.YtdcanppiiikjgaaGreatDoor
namespace Go.Proofs.YtdcanppiiikjgaaGreatDoor
open Go.RowKit Go.ChangeShapes Go.WideShapes
set_option linter.unusedVariables false
set_option maxRecDepth 10000

/-- Orders in memory. -/
def uc (x : Int) : List Value := [.int .u32 x]
theorem uc_len (x : Int) : (uc x).length = 1 := rfl
theorem uc_one (x : Int) : ∀ u ∈ uc x, u.oneCell' = true := by
  intro u hu
  simp only [uc, List.mem_cons, List.not_mem_nil, or_false] at hu
  rw [hu]; rfl
abbrev UL (w : World) (p : Option Addr) (n c : Nat) (L : List Int) : Prop := SlG uc 1 0 w p n c L
abbrev FillU (W wr : World) (v : Value) (L : List Int) (N : Nat) : Prop := FillG uc 1 22 W wr v L N
abbrev GivesU (W : World) (L : List Int) (e : Ending) (w' : World) : Prop := GivesG uc 1 0 W L e w'
theorem info_u32 : (Tryz.prog.info? 22).map (fun i => (i.zero, i.size, i.bytes)) = some (some (.int .u32 0), 1, 4) := by kernel_rfl
theorem u_news (w : World) (x : Int) : ∀ i u, (uc x)[i]? = some u → (w.alloc (.cells #[.int .u32 x] 22)).cell? ⟨w.heap.size, i, none⟩ = some u :=
  fun i u hu => block_cell (alloc_block w _) (by simpa [uc] using hu)
theorem gives_u {W w : World} (x : Int) (hb : Below W.heap.size W w) : GivesU W [x] (.returned (.slice (some ⟨w.heap.size, 0, none⟩) 1 1)) (w.alloc (.cells #[.int .u32 x] 22)) := by
  have hr := alloc_block w (.cells #[.int .u32 x] 22)
  refine ⟨_, 1, rfl, ⟨rfl, Nat.le_refl _, by unfold maxLen; omega, (fun h => by cases h), fun _ => ⟨_, 0, rfl, block_lt hr, fun j hj i v hv => ?_⟩⟩, hb.alloc hb.size _, fun a ha => by cases ha; exact hb.size⟩
  have hj' : j < 1 := hj
  refine block_cell hr ?_
  have hi : i < 1 := (List.getElem?_eq_some_iff.1 hv).1
  obtain rfl : j = 0 := by omega
  obtain rfl : i = 0 := by omega
  exact hv
theorem orders_take (T : List Tk) (j : Nat) (h : j < T.length) : (T.take (j + 1)).map (·.1) = (T.take j).map (·.1) ++ [(T.getD j tk0).1] := by
  rw [List.take_add_one, List.getElem?_eq_getElem h, List.map_append]
  simp [List.getD, List.getElem?_eq_getElem h]
end Go.Proofs.YtdcanppiiikjgaaGreatDoor
namespace Go.Proofs.YtdcanppiiikjgaaGreatDoor
open Go.RowKit Go.ChangeShapes Go.WideShapes
set_option linter.unusedVariables false
set_option maxRecDepth 10000

theorem info_ln : (Tryz.prog.info? 110).map (fun i => (i.zero, i.size, i.bytes)) = some (some (.agg #[.int .u8 0, .int .i64 0]), 2, 16) := by kernel_rfl
theorem info_tk : (Tryz.prog.info? 87).map (fun i => (i.zero, i.size, i.bytes)) = some (some (.agg #[.int .u32 0, .int .u8 0, .int .u8 0, .int .i64 0]), 4, 16) := by kernel_rfl
/-- The cells of a slice, as append wants them. -/
theorem slg_cells {α : Type} {enc : α → List Value} {k : Nat} {d : α} (hk : ∀ x, (enc x).length = k) (hk0 : 0 < k) {w : World} {p : Option Addr} {n c : Nat} {L : List α} (h : SlG enc k d w p n c L) : ∀ ad, p = some ad → ∀ j u, (flatG enc L)[j]? = some u → w.cell? (ad.add j) = some u := by
  intro ad ha j u hu
  have hj : j < L.length * k := by
    rw [← flatG_len hk L]
    exact (List.getElem?_eq_some_iff.1 hu).1
  have hn := h.len
  have hpos : 0 < L.length := by
    rcases Nat.eq_zero_or_pos L.length with h | h
    · rw [h, Nat.zero_mul] at hj; omega
    · exact h
  obtain ⟨b, off, rfl, _, hc⟩ := h.cell (by omega)
  cases ha
  have hd := Nat.div_add_mod j k
  have e : j / k * k + j % k = j := by rw [Nat.mul_comm]; exact hd
  have hq : j / k < L.length := Nat.div_lt_of_lt_mul (by rw [Nat.mul_comm]; exact hj)
  have hm : j % k < k := Nat.mod_lt _ hk0
  have hu2 : (flatG enc L)[j / k * k + j % k]? = some u := by rw [e]; exact hu
  rw [flatG_at (d := d) hk L (j / k) (j % k) hq hm] at hu2
  have := hc (j / k) (by omega) (j % k) u hu2
  rw [Go.WideShapes.add_plain]
  rwa [Nat.add_assoc, e] at this
theorem slg_none {α : Type} {enc : α → List Value} {k : Nat} {d : α} {w : World} {p : Option Addr} {n c : Nat} {L : List α} (h : SlG enc k d w p n c L) : p = none → n = 0 ∧ c = 0 := fun hp => by
  have h1 := h.nil hp
  have h2 := h.cap
  exact ⟨by omega, h1⟩
/-- A row that the call owns, out of an elder base. -/
theorem own_since {w : World} {B : Nat} {T : TypeId} {k : Nat} {v : Value} {n : Nat} {xs : List Value} (h : w.ownsRow 0 T k v n xs) (hb : ∀ b, v.ownBlock = some b → B ≤ b) : w.ownsRow B T k v n xs := by
  refine ⟨h.1, ?_⟩
  rcases h.2 with hn | ⟨g, cap, cur, he, h1, h2, h3⟩
  · exact .inl hn
  · exact .inr ⟨g, cap, cur, he, hb g (by rw [he]; rfl), h2, h3⟩
end Go.Proofs.YtdcanppiiikjgaaGreatDoor
