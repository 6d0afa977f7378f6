import Derived.Test.YtfdgnniicjdjdaaGreatDoorPr23
import Derived.Test.YtfdgnniicjdjdaaGreatDoorPr22
namespace Go.Proofs.YtfdgnniicjdjdaaGreatDoor
open Go.RowKit Go.ChangeShapes Go.WideShapes
set_option linter.unusedVariables false
set_option maxRecDepth 10000
def fiA (sk to : Int) (x : Tk) : Bool := decide (x.1 ≠ 0) && decide (x.2.1 = sk) && decide (x.2.2.1 = to) && decide (1 ≤ x.2.2.2)
theorem fillAt_eq (sk to : Int) (T : List Tk) (j : Nat) : fillAt sk to T j = (fiA sk to (T.getD j tk0) && (List.range j).all fun k => decide ((T.getD k tk0).1 ≠ (T.getD j tk0).1)) := rfl
theorem all_yes {j : Nat} {f : Nat → Bool} (h : ∀ k, k < j → f k = true) : (List.range j).all f = true := by
 rw [List.all_eq_true]
 exact fun k hk => h k (List.mem_range.1 hk)
theorem all_no {j k : Nat} {f : Nat → Bool} (hk : k < j) (h : f k = false) : (List.range j).all f = false := by
 cases hc : (List.range j).all f with
 | false => rfl
 | true =>
  have := List.all_eq_true.1 hc k (List.mem_range.2 hk)
  rw [h] at this
  cases this
set_option maxHeartbeats 8000000 in
theorem rfills_any (k od po : Int) (lp : Option Addr) (ln lcp : Nat) (tp : Option Addr) (tn tcp : Nat) (wp : Option Addr) (wn wcp : Nat) (sk fr to q : Int) (T : List Tk) (W : World) (hT : TKL W tp tn tcp T) (hTok : ∀ x ∈ T, Tkok x) (hn : tn ≤ 1000) :
 Calls Tryz.prog 132 #[.agg #[.int .u8 k, .int .u32 od, .int .u8 po, .slice lp ln lcp, .slice tp tn tcp, .slice wp wn wcp, .int .u8 sk, .int .u8 fr, .int .u8 to, .int .i64 q]] W fun e w' => e = .returned (.bool (fillsB sk to q T)) ∧ Below W.heap.size W w' := by
 have hb1 : Below W.heap.size W (W.alloc (.cells #[.int .u8 k, .int .u32 od, .int .u8 po, .slice lp ln lcp, .slice tp tn tcp, .slice wp wn wcp, .int .u8 sk, .int .u8 fr, .int .u8 to, .int .i64 q] 49)) := (Below.refl _ _).alloc (Nat.le_refl _) _
 have HB1 := Lib.hid hb1
 have HT := Lib.hid (hT.later hb1)
 have HLN := Lib.hid hT.len
 have HX := Lib.hid (alloc_block W (.cells #[.int .u8 k, .int .u32 od, .int .u8 po, .slice lp ln lcp, .slice tp tn tcp, .slice wp wn wcp, .int .u8 sk, .int .u8 fr, .int .u8 to, .int .i64 q] 49))
 have HOK := Lib.hid fun j (hj : j < tn) => tkok_at hTok (show j < T.length by rw [hT.len]; exact hj)
 have HFA := Lib.hid fun j (hj : j < tn) => fills_false sk to q T j (by rw [hT.len]; exact hj)
 have HTR := Lib.hid (fills_true sk to q T)
 have HNA := Lib.hid fun w (h : TKL w tp tn tcp T) => rnamed_any tp tn tcp T none 0 0 [] sk w h (SlG.empty w) hTok (fun x hx => by cases hx) hn (by omega)
 have hcap := hT.cap
 clear hT hTok hb1
 go_enter Tryz.func132, Tryz.ntmps132
 go_wp2_with fail
 generalize W.alloc (.cells #[.int .u8 k, .int .u32 od, .int .u8 po, .slice lp ln lcp, .slice tp tn tcp, .slice wp wn wcp, .int .u8 sk, .int .u8 fr, .int .u8 to, .int .i64 q] 49) = W1 at *
 go_loopw [4] (fun i wr => ∃ j : Nat, j ≤ tn ∧ i = .int .i64 j ∧ Hid (Below W1.heap.size W1 wr) ∧ Hid (∀ i, i < j → fillAt sk to T i = true)) (fun i _ => tn - (Go.RowKit.intOf i).toNat)
 case atStart => exact ⟨0, Nat.zero_le _, rfl, Lib.hid (Below.refl _ _), Lib.hid fun i hi => by omega⟩
 case round =>
  obtain ⟨j, hj, rfl, HB, HE⟩ := hrel
  by_cases hlt : j < tn
  case neg =>
   obtain rfl : j = tn := by omega
   have hna := HNA.out wr (HT.out.later HB.out)
   have HF : Hid (fillsB sk to q T = (decide ((j : Int) ≤ 12) && okB (namedI T [] sk) && decide (namedI T [] sk ≤ q))) := Lib.hid (by
    rw [HTR.out (fun i hi => HE.out i (by rw [← HLN.out]; exact hi)), HLN.out]
    have : decide (j ≤ 12) = decide ((j : Int) ≤ 12) := decide_eq_decide.2 (by omega)
    rw [this])
   obtain ⟨_, _, _, _, _, _, c6, _, _, c9⟩ := prog_cells _ _ _ _ _ _ _ _ _ _ _ _ _ _ _ _ (block_later HX.out HB.out)
   go_wp2_with fail
   refine hna.mono ?_
   rintro e w3 ⟨rfl, h3⟩
   have HB3 := Lib.hid (HB.out.trans (h3.mono HB.out.size))
   clear hna h3 c6 c9
   obtain ⟨_, _, _, _, _, _, c6, _, _, c9⟩ := prog_cells _ _ _ _ _ _ _ _ _ _ _ _ _ _ _ _ (block_later HX.out HB3.out)
   generalize namedI T [] sk = z at *
   by_cases h12 : j ≤ 12
   case neg =>
    have d1 : decide ((j : Int) ≤ 12) = false := decide_eq_false (by omega)
    have d1n : decide (j ≤ 12) = false := decide_eq_false h12
    rw [d1] at HF
    clear h12
    go_wp2_with fail
    go_ret
    exact ⟨by rw [HF.out]; rfl, HB1.out.trans (HB3.out.mono HB1.out.size)⟩
   have d1 : decide ((j : Int) ≤ 12) = true := decide_eq_true (by omega)
   have d1n : decide (j ≤ 12) = true := decide_eq_true h12
   rw [d1] at HF
   clear h12
   cases o1 : okB z with
   | false =>
    rw [o1] at HF
    go_wp2_with fail
    go_ret
    exact ⟨by rw [HF.out]; rfl, HB1.out.trans (HB3.out.mono HB1.out.size)⟩
   | true =>
    rw [o1] at HF
    have v1 : val z = z := val_in _ ((okB_iff _).1 o1)
    go_wp2_with fail
    go_ret
    exact ⟨by rw [HF.out]; simp, HB1.out.trans (HB3.out.mono HB1.out.size)⟩
  have hlt' : (j : Int) < tn := by omega
  have hat := fillAt_eq sk to T j
  obtain ⟨b, off, rfl, _, _⟩ := take_cells (HT.out.later HB.out) hlt
  have HTC : Hid (∀ k, k < tn → ∀ w', Below W1.heap.size W1 w' → w'.cell? ⟨b, off + k * 4, none⟩ = some (.int .u32 (T.getD k tk0).1) ∧ w'.cell? ⟨b, off + k * 4 + 1, none⟩ = some (.int .u8 (T.getD k tk0).2.1) ∧ w'.cell? ⟨b, off + k * 4 + 2, none⟩ = some (.int .u8 (T.getD k tk0).2.2.1) ∧ w'.cell? ⟨b, off + k * 4 + 3, none⟩ = some (.int .i64 (T.getD k tk0).2.2.2)) := Lib.hid fun k hk w' h => by
   obtain ⟨b', off', he, _, d0, d1, d2, d3⟩ := take_cells (HT.out.later h) hk
   cases he
   exact ⟨d0, d1, d2, d3⟩
  have HFAJ := Lib.hid (HFA.out j hlt)
  obtain ⟨⟨ho0, ho1⟩, ⟨ha0, ha1⟩, ⟨hw0, hw1⟩, hq0, hq1⟩ := HOK.out j hlt
  obtain ⟨c0, c1, c2, c3⟩ := HTC.out j hlt wr HB.out
  obtain ⟨_, _, _, _, _, _, e6, _, e8, _⟩ := prog_cells _ _ _ _ _ _ _ _ _ _ _ _ _ _ _ _ (block_later HX.out HB.out)
  generalize hx : T.getD j tk0 = x at *
  obtain ⟨o, a, v, qq⟩ := x
  dsimp only at c0 c1 c2 c3 ho0 ho1 ha0 ha1 hw0 hw1 hq0 hq1 hat
  have HAT := Lib.hid hat
  have HX1 := Lib.hid hx
  clear hat hx
  by_cases h1 : o = 0
  case pos =>
   have d1 : (o == 0) = true := by simpa using h1
   have HF := Lib.hid (HFAJ.out (by rw [HAT.out, show fiA sk to (o, a, v, qq) = false from by unfold fiA; simp; omega]; simp))
   go_wp2_with fail
   go_quiet (fail)
   go_wp2_with fail
   go_ret
   exact ⟨by rw [HF.out]; rfl, HB1.out.trans ((below_drewN HB.out _).mono HB1.out.size)⟩
  have d1 : (o == 0) = false := by simpa using h1
  by_cases h2 : a = sk
  case neg =>
   have d2 : (a != sk) = true := by simpa using h2
   have HF := Lib.hid (HFAJ.out (by rw [HAT.out, show fiA sk to (o, a, v, qq) = false from by unfold fiA; simp; omega]; simp))
   go_wp2_with fail
   go_quiet (fail)
   go_wp2_with fail
   go_ret
   exact ⟨by rw [HF.out]; rfl, HB1.out.trans ((below_drewN HB.out _).mono HB1.out.size)⟩
  have d2 : (a != sk) = false := by simpa using h2
  by_cases h3 : v = to
  case neg =>
   have d3 : (v != to) = true := by simpa using h3
   have HF := Lib.hid (HFAJ.out (by rw [HAT.out, show fiA sk to (o, a, v, qq) = false from by unfold fiA; simp; omega]; simp))
   go_wp2_with fail
   go_quiet (fail)
   go_wp2_with fail
   go_ret
   exact ⟨by rw [HF.out]; rfl, HB1.out.trans ((below_drewN HB.out _).mono HB1.out.size)⟩
  have d3 : (v != to) = false := by simpa using h3
  by_cases h4 : qq < 1
  case pos =>
   have d4 : decide (qq < 1) = true := decide_eq_true h4
   have HF := Lib.hid (HFAJ.out (by rw [HAT.out, show fiA sk to (o, a, v, qq) = false from by unfold fiA; simp; omega]; simp))
   go_wp2_with fail
   go_quiet (fail)
   go_wp2_with fail
   go_ret
   exact ⟨by rw [HF.out]; rfl, HB1.out.trans ((below_drewN HB.out _).mono HB1.out.size)⟩
  have d4 : decide (qq < 1) = false := decide_eq_false h4
  have HA : Hid (fiA sk to (o, a, v, qq) = true) := Lib.hid (by unfold fiA; simp; omega)
  clear h1 h2 h3 h4
  go_wp2_with fail
  go_quiet (fail)
  go_wp2_with fail
  clear c0 c1 c2 c3 e6 e8
  go_loopw [5] (fun i wq => ∃ m : Nat, m ≤ j ∧ i = .int .i64 m ∧ Hid (Below W1.heap.size W1 wq) ∧ Hid (∀ i, i < m → decide ((T.getD i tk0).1 ≠ o) = true)) (fun i _ => j - (Go.RowKit.intOf i).toNat)
  case atStart => exact ⟨0, Nat.zero_le _, rfl, Lib.hid (by repeat (first | exact HB.out | refine below_drewN ?_ _)), Lib.hid fun i hi => by omega⟩
  case round =>
   obtain ⟨m, hm, rfl, HBQ, HEQ⟩ := hrel
   by_cases hlt2 : m < j
   case neg =>
    obtain rfl : m = j := by omega
    have HAJ : Hid (fillAt sk to T m = true) := Lib.hid (by rw [HAT.out, HA.out]; exact all_yes HEQ.out)
    go_wp2_with fail
    go_roundw
    case rel =>
     refine ⟨m + 1, by omega, by go_num, HBQ, Lib.hid fun i hi => ?_⟩
     by_cases e : i = m
     · subst e; exact HAJ.out
     · exact HE.out i (by omega)
    case measure => simp [Go.RowKit.intOf]; omega
   have hlt2' : (m : Int) < j := by omega
   have hmn : (m : Int) < tn := by omega
   obtain ⟨c0, c1, c2, c3⟩ := HTC.out j hlt _ HBQ.out
   obtain ⟨k0, k1, k2, k3⟩ := HTC.out m (by omega) _ HBQ.out
   rw [HX1.out] at c0 c1 c2 c3
   dsimp only at c0 c1 c2 c3
   have hfm := fun (h : decide ((T.getD m tk0).1 ≠ o) = false) => all_no (f := fun k => decide ((T.getD k tk0).1 ≠ o)) hlt2 h
   have HFM := Lib.hid hfm
   clear hfm
   generalize hy : T.getD m tk0 = y at *
   obtain ⟨yo, ya, yw, yq⟩ := y
   dsimp only at k0 k1 k2 k3
   have HY := Lib.hid hy
   clear hy
   by_cases g1 : yo = o
   case pos =>
    have d5 : (yo == o) = true := by simpa using g1
    have HF := Lib.hid (HFAJ.out (by rw [HAT.out, HFM.out (by simpa using g1), Bool.and_false]))
    clear g1
    go_wp2_with fail
    go_quiet (fail)
    go_wp2_with fail
    go_ret
    exact ⟨by rw [HF.out]; rfl, HB1.out.trans ((below_drewN HBQ.out _).mono HB1.out.size)⟩
   have d5 : (yo == o) = false := by simpa using g1
   have HNE : Hid (decide ((T.getD m tk0).1 ≠ o) = true) := Lib.hid (by rw [HY.out]; simpa using g1)
   clear g1
   go_wp2_with fail
   go_quiet (fail)
   go_wp2_with fail
   go_roundw
   case rel =>
    refine ⟨m + 1, by omega, by go_num, Lib.hid (by repeat (first | exact HBQ.out | refine below_drewN ?_ _)), Lib.hid fun i hi => ?_⟩
    by_cases e : i = m
    · subst e; exact HNE.out
    · exact HEQ.out i (by omega)
   case measure => simp [Go.RowKit.intOf]; omega
set_option maxHeartbeats 4000000 in
theorem rcover_any (k od po : Int) (lp : Option Addr) (ln lcp : Nat) (tp : Option Addr) (tn tcp : Nat) (wp : Option Addr) (wn wcp : Nat) (sk fr to q : Int) (L : List Ln) (T : List Tk) (M : List Ln) (W : World) (hP : PgM W lp ln lcp L tp tn tcp T wp wn wcp M) (hL : ∀ x ∈ L, Lnok x) (hT : ∀ x ∈ T, Tkok x) (hM : ∀ x ∈ M, Lnok x) (h1 : ln ≤ 1000 ∧ tn ≤ 1000 ∧ wn ≤ 1000) :
 Calls Tryz.prog 131 #[.agg #[.int .u8 k, .int .u32 od, .int .u8 po, .slice lp ln lcp, .slice tp tn tcp, .slice wp wn wcp, .int .u8 sk, .int .u8 fr, .int .u8 to, .int .i64 q]] W fun e w' => e = .returned (.bool (coverB T M L)) ∧ Below W.heap.size W w' := by
 have hb1 : Below W.heap.size W (W.alloc (.cells #[.int .u8 k, .int .u32 od, .int .u8 po, .slice lp ln lcp, .slice tp tn tcp, .slice wp wn wcp, .int .u8 sk, .int .u8 fr, .int .u8 to, .int .i64 q] 49)) := (Below.refl _ _).alloc (Nat.le_refl _) _
 have HB1 := Lib.hid hb1
 have HP := Lib.hid (hP.later hb1)
 have HX := Lib.hid (alloc_block W (.cells #[.int .u8 k, .int .u32 od, .int .u8 po, .slice lp ln lcp, .slice tp tn tcp, .slice wp wn wcp, .int .u8 sk, .int .u8 fr, .int .u8 to, .int .i64 q] 49))
 have HA := Lib.hid fun (s : Int) w (h : PgM w lp ln lcp L tp tn tcp T wp wn wcp M) => rnamed_any tp tn tcp T wp wn wcp M s w h.t h.o hT hM h1.2.1 h1.2.2
 have HBB := Lib.hid fun (s : Int) w (h : PgM w lp ln lcp L tp tn tcp T wp wn wcp M) => rnamed_any none 0 0 [] lp ln lcp L s w (SlG.empty w) h.l (fun x hx => by cases hx) hL (by omega) h1.1
 clear hP hL hT hM h1 hb1
 go_enter Tryz.func131, Tryz.ntmps131
 go_wp2_with fail
 generalize W.alloc (.cells #[.int .u8 k, .int .u32 od, .int .u8 po, .slice lp ln lcp, .slice tp tn tcp, .slice wp wn wcp, .int .u8 sk, .int .u8 fr, .int .u8 to, .int .i64 q] 49) = W1 at *
 go_loopw [3] (fun i wr => ∃ j : Nat, j ≤ 4 ∧ i = .int .i64 j ∧ Hid (Below W1.heap.size W1 wr) ∧ Hid (∀ i, i < j → coverAt T M L i = true)) (fun i _ => 4 - (Go.RowKit.intOf i).toNat)
 case atStart => exact ⟨0, by omega, rfl, Lib.hid (Below.refl _ _), Lib.hid fun i hi => by omega⟩
 case round =>
  obtain ⟨j, hj, rfl, HB, HE⟩ := hrel
  by_cases hlt : j < 4
  case neg =>
   obtain rfl : j = 4 := by omega
   have HF := Lib.hid (cover_true T M L HE.out)
   go_wp2_with fail
   go_ret
   exact ⟨by rw [HF.out]; rfl, HB1.out.trans (HB.out.mono HB1.out.size)⟩
  have hlt' : (j : Int) < 4 := by omega
  have hwj : IntKind.u8.wrap (j : Int) = j := IntWalk.u8_in _ (by omega)
  obtain ⟨_, _, _, a3, a4, a5, _, _, _, _⟩ := prog_cells k od po lp ln lcp tp tn tcp wp wn wcp sk fr to q (block_later HX.out HB.out)
  have hca := HA.out (j : Int) wr (HP.out.later HB.out)
  have HFA := Lib.hid (cover_false T M L j hlt)
  have hcv : coverAt T M L j = (okB (namedI T M j) && okB (namedI [] L j) && decide (namedI T M j = namedI [] L j)) := rfl
  have HCV := Lib.hid hcv
  clear hcv
  generalize hz1 : namedI T M (j : Int) = z1 at *
  generalize hz2 : namedI [] L (j : Int) = z2 at *
  go_wp2_with fail
  refine hca.mono ?_
  rintro e w2 ⟨rfl, h2⟩
  have HB2 := Lib.hid (HB.out.trans (h2.mono HB.out.size))
  have hcb := HBB.out (j : Int) w2 (HP.out.later HB2.out)
  rw [hz2] at hcb
  clear hca h2 a3 a4 a5
  obtain ⟨_, _, _, a3, a4, a5, _, _, _, _⟩ := prog_cells k od po lp ln lcp tp tn tcp wp wn wcp sk fr to q (block_later HX.out HB2.out)
  go_wp2_with fail
  refine hcb.mono ?_
  rintro e w3 ⟨rfl, h3⟩
  have HB3 := Lib.hid (HB2.out.trans (h3.mono HB2.out.size))
  clear hcb h3 a3 a4 a5 hz1 hz2
  cases o1 : okB z1 with
  | false =>
   have HF := Lib.hid (HFA.out (by rw [HCV.out, o1]; rfl))
   go_wp2_with fail
   go_ret
   exact ⟨by rw [HF.out]; rfl, HB1.out.trans (HB3.out.mono HB1.out.size)⟩
  | true =>
   cases o2 : okB z2 with
   | false =>
    have HF := Lib.hid (HFA.out (by rw [HCV.out, o1, o2]; rfl))
    go_wp2_with fail
    go_ret
    exact ⟨by rw [HF.out]; rfl, HB1.out.trans (HB3.out.mono HB1.out.size)⟩
   | true =>
    have v1 : val z1 = z1 := val_in _ ((okB_iff _).1 o1)
    have v2 : val z2 = z2 := val_in _ ((okB_iff _).1 o2)
    by_cases hz : z1 = z2
    · have hd : (z1 != z2) = false := by simpa using hz
      have HT : Hid (coverAt T M L j = true) := Lib.hid (by rw [HCV.out, o1, o2, decide_eq_true hz]; rfl)
      clear hz
      go_wp2_with fail
      go_roundw
      case rel =>
       refine ⟨j + 1, by omega, by go_num, HB3, Lib.hid fun i hi => ?_⟩
       by_cases e : i = j
       · subst e; exact HT.out
       · exact HE.out i (by omega)
      case measure => simp [Go.RowKit.intOf]; omega
    · have hd : (z1 != z2) = true := by simpa using hz
      have HF := Lib.hid (HFA.out (by rw [HCV.out, o1, o2, decide_eq_false hz]; rfl))
      clear hz
      go_wp2_with fail
      go_ret
      exact ⟨by rw [HF.out]; rfl, HB1.out.trans (HB3.out.mono HB1.out.size)⟩
theorem ask1 (s w od po : Int) (L : List Ln) (T : List Tk) (M : List Ln) (sk fr to q : Int) : askP s w ⟨1, od, po, L, T, M, sk, fr, to, q⟩ = (decide (od ≠ 0) && decide (po ≤ 1) && decide (1 ≤ L.length) && linesB s L && takesB s w od T && linesB s M && coverB T M L && (decide (po = 0) || decide (M.length = 0))) := rfl
theorem qof1 (od po : Int) (L : List Ln) (T : List Tk) (M : List Ln) (sk fr to q : Int) : qofP ⟨1, od, po, L, T, M, sk, fr, to, q⟩ = ⟨1, od, po, L, T, M, 0, 0, 0, 0⟩ := rfl
set_option maxHeartbeats 8000000 in
theorem rgood1 (s w : Int) (od po : Int) (lp : Option Addr) (ln lcp : Nat) (tp : Option Addr) (tn tcp : Nat) (wp : Option Addr) (wn wcp : Nat) (sk fr to q : Int) (L : List Ln) (T : List Tk) (M : List Ln) (W : World) (hs : sizedB s w = true) (hP : PgM W lp ln lcp L tp tn tcp T wp wn wcp M) (hok : Pgok ⟨1, od, po, L, T, M, sk, fr, to, q⟩) (h1 : ln ≤ 1000 ∧ tn ≤ 1000 ∧ wn ≤ 1000) :
 Calls Tryz.prog 85 #[.int .i64 s, .int .i64 w, .agg #[.int .u8 1, .int .u32 od, .int .u8 po, .slice lp ln lcp, .slice tp tn tcp, .slice wp wn wcp, .int .u8 sk, .int .u8 fr, .int .u8 to, .int .i64 q]] W fun e w' => e = .returned (.bool (goodP s w ⟨1, od, po, L, T, M, sk, fr, to, q⟩)) ∧ Below W.heap.size W w' := by
 have hg : goodP s w ⟨1, od, po, L, T, M, sk, fr, to, q⟩ = ((decide (od ≠ 0) && decide (po ≤ 1) && decide (1 ≤ L.length) && linesB s L && takesB s w od T && linesB s M && coverB T M L && (decide (po = 0) || decide (M.length = 0))) && decide ((⟨1, od, po, L, T, M, sk, fr, to, q⟩ : Pg) = ⟨1, od, po, L, T, M, 0, 0, 0, 0⟩)) := by
  show (sizedB s w && askP s w ⟨1, od, po, L, T, M, sk, fr, to, q⟩ && decide ((⟨1, od, po, L, T, M, sk, fr, to, q⟩ : Pg) = qofP ⟨1, od, po, L, T, M, sk, fr, to, q⟩)) = _
  rw [hs, Bool.true_and, ask1, qof1]
 have hs4 : 1 ≤ s ∧ s ≤ 4 ∧ 1 ≤ w ∧ w ≤ 4 := by
  unfold sizedB at hs
  simp only [Bool.and_eq_true, decide_eq_true_eq] at hs
  omega
 obtain ⟨W2, hW2, b0, b1, hb⟩ := two_progs W #[.int .u8 1, .int .u32 od, .int .u8 po, .slice lp ln lcp, .slice tp tn tcp, .slice wp wn wcp, .int .u8 sk, .int .u8 fr, .int .u8 to, .int .i64 q] #[.int .u8 1, .int .u32 od, .int .u8 po, .slice lp ln lcp, .slice tp tn tcp, .slice wp wn wcp, .int .u8 0, .int .u8 0, .int .u8 0, .int .i64 0]
 have HW := Lib.hid hW2
 have HB := Lib.hid hb
 have HX := Lib.hid b0
 have HY := Lib.hid b1
 have HP := Lib.hid (hP.later hb)
 have HLL := Lib.hid hP.l.len
 have HLT := Lib.hid hP.t.len
 have HLM := Lib.hid hP.o.len
 have hsk : 0 ≤ sk ∧ sk ≤ 255 := hok.sku
 have hfr : 0 ≤ fr ∧ fr ≤ 255 := hok.frm
 have hto : 0 ≤ to ∧ to ≤ 255 := hok.to
 have hpo : 0 ≤ po ∧ po ≤ 255 := hok.policy
 have HLI := Lib.hid fun w' (h : Below W2.heap.size W2 w') => rlines_any s lp ln lcp L w' (HP.out.later h).l hok.lines h1.1
 have HTA := Lib.hid fun w' (h : Below W2.heap.size W2 w') => rtakes_any s w 1 od po lp ln lcp tp tn tcp wp wn wcp sk fr to q T w' (HP.out.later h).t hok.takes h1.2.1
 have HLM2 := Lib.hid fun w' (h : Below W2.heap.size W2 w') => rlines_any s wp wn wcp M w' (HP.out.later h).o hok.owes h1.2.2
 have HCV := Lib.hid fun w' (h : Below W2.heap.size W2 w') => rcover_any 1 od po lp ln lcp tp tn tcp wp wn wcp sk fr to q L T M w' (HP.out.later h) hok.lines hok.takes hok.owes h1
 have HSA := Lib.hid fun w' (h : Below W2.heap.size W2 w') => rsame_p 1 od po lp ln lcp tp tn tcp wp wn wcp sk fr to q 1 od po lp ln lcp tp tn tcp wp wn wcp 0 0 0 0 L T M L T M w' (HP.out.later h) ⟨(HP.out.later h).l, (HP.out.later h).t, (HP.out.later h).o⟩ h1 ⟨h1.1, h1.2.1, h1.2.2⟩
 have HC := Lib.hid fun w' (h : Below W2.heap.size W2 w') => prog_cells 1 od po lp ln lcp tp tn tcp wp wn wcp sk fr to q (block_later HX.out h)
 have HD := Lib.hid fun w' (h : Below W2.heap.size W2 w') => prog_cells 1 od po lp ln lcp tp tn tcp wp wn wcp 0 0 0 0 (block_later HY.out h)
 have y1 : decide (s < 1) = false := decide_eq_false (by omega)
 have y2 : decide (4 < s) = false := decide_eq_false (by omega)
 have y3 : decide (w < 1) = false := decide_eq_false (by omega)
 have y4 : decide (4 < w) = false := decide_eq_false (by omega)
 have x6 : IntKind.i64.wrap sk = sk := IntWalk.i64_in _ (by omega)
 have x7 : IntKind.i64.wrap fr = fr := IntWalk.i64_in _ (by omega)
 have x8 : IntKind.i64.wrap to = to := IntWalk.i64_in _ (by omega)
 have HG := Lib.hid hg
 have H1 := Lib.hid h1
 clear hg hs hs4 hW2 b0 b1 hb hP hok hsk hfr hto hpo
 by_cases t0 : od ≠ 0
 case neg =>
  have f0 : (od != 0) = false := by simpa using t0
  have HF : Hid (goodP s w ⟨1, od, po, L, T, M, sk, fr, to, q⟩ = false) := Lib.hid (by rw [HG.out]; rw [decide_eq_false t0]; simp)
  go_enter Tryz.func85, Tryz.ntmps85
  go_wp2_with fail
  go_ret
  rw [HW.out]
  exact ⟨by rw [HF.out]; rfl, HB.out.trans ((Below.refl _ _).mono HB.out.size)⟩
 have f0 : (od != 0) = true := by simpa using t0
 by_cases t1 : po ≤ 1
 case neg =>
  have f1 : decide (po ≤ 1) = false := decide_eq_false t1
  have HF : Hid (goodP s w ⟨1, od, po, L, T, M, sk, fr, to, q⟩ = false) := Lib.hid (by rw [HG.out]; rw [decide_eq_false t1]; simp)
  go_enter Tryz.func85, Tryz.ntmps85
  go_wp2_with fail
  go_ret
  rw [HW.out]
  exact ⟨by rw [HF.out]; rfl, HB.out.trans ((Below.refl _ _).mono HB.out.size)⟩
 have f1 : decide (po ≤ 1) = true := decide_eq_true t1
 by_cases t2 : 1 ≤ ln
 case neg =>
  have f2 : decide (0 < (ln : Int)) = false := decide_eq_false (by omega)
  have f2n : decide (0 < ln) = false := decide_eq_false (by omega)
  have HF : Hid (goodP s w ⟨1, od, po, L, T, M, sk, fr, to, q⟩ = false) := Lib.hid (by rw [HG.out]; rw [decide_eq_false (show ¬ 1 ≤ L.length by rw [HLL.out]; exact t2)]; simp)
  go_enter Tryz.func85, Tryz.ntmps85
  go_wp2_with fail
  go_ret
  rw [HW.out]
  exact ⟨by rw [HF.out]; rfl, HB.out.trans ((Below.refl _ _).mono HB.out.size)⟩
 have f2 : decide (0 < (ln : Int)) = true := decide_eq_true (by omega)
 have f2n : decide (0 < ln) = true := decide_eq_true (by omega)
 obtain ⟨a0, a1, a2, a3, a4, a5, a6, a7, a8, a9⟩ := HC.out W2 (Below.refl _ _)
 go_enter Tryz.func85, Tryz.ntmps85
 go_wp2_with fail
 rw [HW.out]
 have hc0 := HLI.out W2 (Below.refl _ _)
 refine hc0.mono ?_
 rintro e w0 ⟨rfl, hb0⟩
 have HB0 : Hid (Below W2.heap.size W2 w0) := Lib.hid (hb0)
 clear hc0 hb0 a0 a1 a2 a3 a4 a5 a6 a7 a8 a9
 obtain ⟨a0, a1, a2, a3, a4, a5, a6, a7, a8, a9⟩ := HC.out w0 HB0.out
 cases t3 : linesB s L
 case false =>
  have HF : Hid (goodP s w ⟨1, od, po, L, T, M, sk, fr, to, q⟩ = false) := Lib.hid (by rw [HG.out]; rw [t3]; simp)
  go_wp2_with fail
  go_ret
  exact ⟨by rw [HF.out]; rfl, HB.out.trans (HB0.out.mono HB.out.size)⟩
 go_wp2_with fail
 have hc1 := HTA.out w0 HB0.out
 refine hc1.mono ?_
 rintro e w1 ⟨rfl, hb1⟩
 have HB1 : Hid (Below W2.heap.size W2 w1) := Lib.hid (HB0.out.trans (hb1.mono HB0.out.size))
 clear hc1 hb1 a0 a1 a2 a3 a4 a5 a6 a7 a8 a9
 obtain ⟨a0, a1, a2, a3, a4, a5, a6, a7, a8, a9⟩ := HC.out w1 HB1.out
 cases t4 : takesB s w od T
 case false =>
  have HF : Hid (goodP s w ⟨1, od, po, L, T, M, sk, fr, to, q⟩ = false) := Lib.hid (by rw [HG.out]; rw [t4]; simp)
  go_wp2_with fail
  go_ret
  exact ⟨by rw [HF.out]; rfl, HB.out.trans (HB1.out.mono HB.out.size)⟩
 go_wp2_with fail
 have hc2 := HLM2.out w1 HB1.out
 refine hc2.mono ?_
 rintro e w2 ⟨rfl, hb2⟩
 have HB2 : Hid (Below W2.heap.size W2 w2) := Lib.hid (HB1.out.trans (hb2.mono HB1.out.size))
 clear hc2 hb2 a0 a1 a2 a3 a4 a5 a6 a7 a8 a9
 obtain ⟨a0, a1, a2, a3, a4, a5, a6, a7, a8, a9⟩ := HC.out w2 HB2.out
 cases t5 : linesB s M
 case false =>
  have HF : Hid (goodP s w ⟨1, od, po, L, T, M, sk, fr, to, q⟩ = false) := Lib.hid (by rw [HG.out]; rw [t5]; simp)
  go_wp2_with fail
  go_ret
  exact ⟨by rw [HF.out]; rfl, HB.out.trans (HB2.out.mono HB.out.size)⟩
 go_wp2_with fail
 have hc3 := HCV.out w2 HB2.out
 refine hc3.mono ?_
 rintro e w3 ⟨rfl, hb3⟩
 have HB3 : Hid (Below W2.heap.size W2 w3) := Lib.hid (HB2.out.trans (hb3.mono HB2.out.size))
 clear hc3 hb3 a0 a1 a2 a3 a4 a5 a6 a7 a8 a9
 obtain ⟨a0, a1, a2, a3, a4, a5, a6, a7, a8, a9⟩ := HC.out w3 HB3.out
 cases t6 : coverB T M L
 case false =>
  have HF : Hid (goodP s w ⟨1, od, po, L, T, M, sk, fr, to, q⟩ = false) := Lib.hid (by rw [HG.out]; rw [t6]; simp)
  go_wp2_with fail
  go_ret
  exact ⟨by rw [HF.out]; rfl, HB.out.trans (HB3.out.mono HB.out.size)⟩
 have HO : Hid ((po = 0 ∨ wn = 0) ∨ ¬ (po = 0 ∨ wn = 0)) := Lib.hid (Classical.em _)
 by_cases g0 : po = 0
 case neg =>
  have f8 : (po == 0) = false := by simpa using g0
  by_cases g1 : wn = 0
  case neg =>
   have f9 : ((wn : Int) == 0) = false := by simp; omega
   have f9n : (wn == 0) = false := by simpa using g1
   have HF : Hid (goodP s w ⟨1, od, po, L, T, M, sk, fr, to, q⟩ = false) := Lib.hid (by rw [HG.out]; rw [decide_eq_false g0, decide_eq_false (show ¬ M.length = 0 by rw [HLM.out]; exact g1)]; simp)
   go_wp2_with fail
   go_ret
   exact ⟨by rw [HF.out]; rfl, HB.out.trans (HB3.out.mono HB.out.size)⟩
  have f9 : ((wn : Int) == 0) = true := by simp; omega
  have f9n : (wn == 0) = true := by simpa using g1
  have HOR : Hid ((decide (po = 0) || decide (M.length = 0)) = true) := Lib.hid (by rw [decide_eq_true (show M.length = 0 by rw [HLM.out]; exact g1)]; simp)
  clear g0 g1
  have HF : Hid (goodP s w ⟨1, od, po, L, T, M, sk, fr, to, q⟩ = decide ((⟨1, od, po, L, T, M, sk, fr, to, q⟩ : Pg) = ⟨1, od, po, L, T, M, 0, 0, 0, 0⟩)) := Lib.hid (by rw [HG.out, decide_eq_true t0, decide_eq_true t1, decide_eq_true (show 1 ≤ L.length by rw [HLL.out]; exact t2), t3, t4, t5, t6, HOR.out]; simp)
  clear HG
  generalize decide ((⟨1, od, po, L, T, M, sk, fr, to, q⟩ : Pg) = ⟨1, od, po, L, T, M, 0, 0, 0, 0⟩) = bb at *
  obtain ⟨b0, b1, b2, b3, b4, b5, b6, b7, b8, b9⟩ := HD.out w3 HB3.out
  go_wp2_with fail
  refine (HSA.out w3 HB3.out).mono ?_
  rintro e w9 ⟨rfl, hb9⟩
  have HB9 := Lib.hid (HB3.out.trans (hb9.mono HB3.out.size))
  clear hb9 a0 a1 a2 a3 a4 a5 a6 a7 a8 a9 b0 b1 b2 b3 b4 b5 b6 b7 b8 b9
  go_wp2_with fail
  go_ret
  exact ⟨by rw [HF.out]; rfl, HB.out.trans (HB9.out.mono HB.out.size)⟩
 have f8 : (po == 0) = true := by simpa using g0
 have HOR : Hid ((decide (po = 0) || decide (M.length = 0)) = true) := Lib.hid (by rw [decide_eq_true g0]; rfl)
 clear g0
 have HF : Hid (goodP s w ⟨1, od, po, L, T, M, sk, fr, to, q⟩ = decide ((⟨1, od, po, L, T, M, sk, fr, to, q⟩ : Pg) = ⟨1, od, po, L, T, M, 0, 0, 0, 0⟩)) := Lib.hid (by rw [HG.out, decide_eq_true t0, decide_eq_true t1, decide_eq_true (show 1 ≤ L.length by rw [HLL.out]; exact t2), t3, t4, t5, t6, HOR.out]; simp)
 clear HG
 generalize decide ((⟨1, od, po, L, T, M, sk, fr, to, q⟩ : Pg) = ⟨1, od, po, L, T, M, 0, 0, 0, 0⟩) = bb at *
 obtain ⟨b0, b1, b2, b3, b4, b5, b6, b7, b8, b9⟩ := HD.out w3 HB3.out
 go_wp2_with fail
 refine (HSA.out w3 HB3.out).mono ?_
 rintro e w9 ⟨rfl, hb9⟩
 have HB9 := Lib.hid (HB3.out.trans (hb9.mono HB3.out.size))
 clear hb9 a0 a1 a2 a3 a4 a5 a6 a7 a8 a9 b0 b1 b2 b3 b4 b5 b6 b7 b8 b9
 go_wp2_with fail
 go_ret
 exact ⟨by rw [HF.out]; rfl, HB.out.trans (HB9.out.mono HB.out.size)⟩
theorem ask2 (s w od po : Int) (L : List Ln) (T : List Tk) (M : List Ln) (sk fr to q : Int) : askP s w ⟨2, od, po, L, T, M, sk, fr, to, q⟩ = (decide (od ≠ 0) && takesB s w od T && linesB s M && decide (1 ≤ T.length + M.length)) := rfl
theorem qof2 (od po : Int) (L : List Ln) (T : List Tk) (M : List Ln) (sk fr to q : Int) : qofP ⟨2, od, po, L, T, M, sk, fr, to, q⟩ = ⟨2, od, 0, [], T, M, 0, 0, 0, 0⟩ := rfl
set_option maxHeartbeats 8000000 in
theorem rgood2 (s w : Int) (od po : Int) (lp : Option Addr) (ln lcp : Nat) (tp : Option Addr) (tn tcp : Nat) (wp : Option Addr) (wn wcp : Nat) (sk fr to q : Int) (L : List Ln) (T : List Tk) (M : List Ln) (W : World) (hs : sizedB s w = true) (hP : PgM W lp ln lcp L tp tn tcp T wp wn wcp M) (hok : Pgok ⟨2, od, po, L, T, M, sk, fr, to, q⟩) (h1 : ln ≤ 1000 ∧ tn ≤ 1000 ∧ wn ≤ 1000) :
 Calls Tryz.prog 85 #[.int .i64 s, .int .i64 w, .agg #[.int .u8 2, .int .u32 od, .int .u8 po, .slice lp ln lcp, .slice tp tn tcp, .slice wp wn wcp, .int .u8 sk, .int .u8 fr, .int .u8 to, .int .i64 q]] W fun e w' => e = .returned (.bool (goodP s w ⟨2, od, po, L, T, M, sk, fr, to, q⟩)) ∧ Below W.heap.size W w' := by
 have hg : goodP s w ⟨2, od, po, L, T, M, sk, fr, to, q⟩ = ((decide (od ≠ 0) && takesB s w od T && linesB s M && decide (1 ≤ T.length + M.length)) && decide ((⟨2, od, po, L, T, M, sk, fr, to, q⟩ : Pg) = ⟨2, od, 0, [], T, M, 0, 0, 0, 0⟩)) := by
  show (sizedB s w && askP s w ⟨2, od, po, L, T, M, sk, fr, to, q⟩ && decide ((⟨2, od, po, L, T, M, sk, fr, to, q⟩ : Pg) = qofP ⟨2, od, po, L, T, M, sk, fr, to, q⟩)) = _
  rw [hs, Bool.true_and, ask2, qof2]
 have hs4 : 1 ≤ s ∧ s ≤ 4 ∧ 1 ≤ w ∧ w ≤ 4 := by
  unfold sizedB at hs
  simp only [Bool.and_eq_true, decide_eq_true_eq] at hs
  omega
 obtain ⟨W2, hW2, b0, b1, hb⟩ := two_progs W #[.int .u8 2, .int .u32 od, .int .u8 po, .slice lp ln lcp, .slice tp tn tcp, .slice wp wn wcp, .int .u8 sk, .int .u8 fr, .int .u8 to, .int .i64 q] #[.int .u8 2, .int .u32 od, .int .u8 0, .slice none 0 0, .slice tp tn tcp, .slice wp wn wcp, .int .u8 0, .int .u8 0, .int .u8 0, .int .i64 0]
 have HW := Lib.hid hW2
 have HB := Lib.hid hb
 have HX := Lib.hid b0
 have HY := Lib.hid b1
 have HP := Lib.hid (hP.later hb)
 have HLL := Lib.hid hP.l.len
 have HLT := Lib.hid hP.t.len
 have HLM := Lib.hid hP.o.len
 have hsk : 0 ≤ sk ∧ sk ≤ 255 := hok.sku
 have hfr : 0 ≤ fr ∧ fr ≤ 255 := hok.frm
 have hto : 0 ≤ to ∧ to ≤ 255 := hok.to
 have hpo : 0 ≤ po ∧ po ≤ 255 := hok.policy
 have HTA := Lib.hid fun w' (h : Below W2.heap.size W2 w') => rtakes_any s w 2 od po lp ln lcp tp tn tcp wp wn wcp sk fr to q T w' (HP.out.later h).t hok.takes h1.2.1
 have HLM2 := Lib.hid fun w' (h : Below W2.heap.size W2 w') => rlines_any s wp wn wcp M w' (HP.out.later h).o hok.owes h1.2.2
 have HSA := Lib.hid fun w' (h : Below W2.heap.size W2 w') => rsame_p 2 od po lp ln lcp tp tn tcp wp wn wcp sk fr to q 2 od 0 none 0 0 tp tn tcp wp wn wcp 0 0 0 0 L T M [] T M w' (HP.out.later h) ⟨SlG.empty _, (HP.out.later h).t, (HP.out.later h).o⟩ h1 ⟨by omega, h1.2.1, h1.2.2⟩
 have HC := Lib.hid fun w' (h : Below W2.heap.size W2 w') => prog_cells 2 od po lp ln lcp tp tn tcp wp wn wcp sk fr to q (block_later HX.out h)
 have HD := Lib.hid fun w' (h : Below W2.heap.size W2 w') => prog_cells 2 od 0 none 0 0 tp tn tcp wp wn wcp 0 0 0 0 (block_later HY.out h)
 have y1 : decide (s < 1) = false := decide_eq_false (by omega)
 have y2 : decide (4 < s) = false := decide_eq_false (by omega)
 have y3 : decide (w < 1) = false := decide_eq_false (by omega)
 have y4 : decide (4 < w) = false := decide_eq_false (by omega)
 have x6 : IntKind.i64.wrap sk = sk := IntWalk.i64_in _ (by omega)
 have x7 : IntKind.i64.wrap fr = fr := IntWalk.i64_in _ (by omega)
 have x8 : IntKind.i64.wrap to = to := IntWalk.i64_in _ (by omega)
 have HG := Lib.hid hg
 have H1 := Lib.hid h1
 clear hg hs hs4 hW2 b0 b1 hb hP hok hsk hfr hto hpo
 by_cases t0 : od ≠ 0
 case neg =>
  have f0 : (od != 0) = false := by simpa using t0
  have HF : Hid (goodP s w ⟨2, od, po, L, T, M, sk, fr, to, q⟩ = false) := Lib.hid (by rw [HG.out]; rw [decide_eq_false t0]; simp)
  go_enter Tryz.func85, Tryz.ntmps85
  go_wp2_with fail
  go_ret
  rw [HW.out]
  exact ⟨by rw [HF.out]; rfl, HB.out.trans ((Below.refl _ _).mono HB.out.size)⟩
 have f0 : (od != 0) = true := by simpa using t0
 obtain ⟨a0, a1, a2, a3, a4, a5, a6, a7, a8, a9⟩ := HC.out W2 (Below.refl _ _)
 go_enter Tryz.func85, Tryz.ntmps85
 go_wp2_with fail
 rw [HW.out]
 have hc0 := HTA.out W2 (Below.refl _ _)
 refine hc0.mono ?_
 rintro e w0 ⟨rfl, hb0⟩
 have HB0 : Hid (Below W2.heap.size W2 w0) := Lib.hid (hb0)
 clear hc0 hb0 a0 a1 a2 a3 a4 a5 a6 a7 a8 a9
 obtain ⟨a0, a1, a2, a3, a4, a5, a6, a7, a8, a9⟩ := HC.out w0 HB0.out
 cases t1 : takesB s w od T
 case false =>
  have HF : Hid (goodP s w ⟨2, od, po, L, T, M, sk, fr, to, q⟩ = false) := Lib.hid (by rw [HG.out]; rw [t1]; simp)
  go_wp2_with fail
  go_ret
  exact ⟨by rw [HF.out]; rfl, HB.out.trans (HB0.out.mono HB.out.size)⟩
 go_wp2_with fail
 have hc1 := HLM2.out w0 HB0.out
 refine hc1.mono ?_
 rintro e w1 ⟨rfl, hb1⟩
 have HB1 : Hid (Below W2.heap.size W2 w1) := Lib.hid (HB0.out.trans (hb1.mono HB0.out.size))
 clear hc1 hb1 a0 a1 a2 a3 a4 a5 a6 a7 a8 a9
 obtain ⟨a0, a1, a2, a3, a4, a5, a6, a7, a8, a9⟩ := HC.out w1 HB1.out
 cases t2 : linesB s M
 case false =>
  have HF : Hid (goodP s w ⟨2, od, po, L, T, M, sk, fr, to, q⟩ = false) := Lib.hid (by rw [HG.out]; rw [t2]; simp)
  go_wp2_with fail
  go_ret
  exact ⟨by rw [HF.out]; rfl, HB.out.trans (HB1.out.mono HB.out.size)⟩
 have hw : IntKind.i64.wrap ((tn : Int) + (wn : Int)) = (tn : Int) + (wn : Int) := IntWalk.i64_in _ (by have := H1.out; omega)
 by_cases g0 : 1 ≤ tn + wn
 case neg =>
  have f8 : decide (0 < (tn : Int) + (wn : Int)) = false := decide_eq_false (by omega)
  have f8n : decide (0 < tn + wn) = false := decide_eq_false (by omega)
  have HF : Hid (goodP s w ⟨2, od, po, L, T, M, sk, fr, to, q⟩ = false) := Lib.hid (by rw [HG.out]; rw [decide_eq_false (show ¬ 1 ≤ T.length + M.length by rw [HLT.out, HLM.out]; exact g0)]; simp)
  go_wp2_with fail
  go_ret
  exact ⟨by rw [HF.out]; rfl, HB.out.trans (HB1.out.mono HB.out.size)⟩
 have f8 : decide (0 < (tn : Int) + (wn : Int)) = true := decide_eq_true (by omega)
 have f8n : decide (0 < tn + wn) = true := decide_eq_true (by omega)
 have HOR : Hid (decide (1 ≤ T.length + M.length) = true) := Lib.hid (decide_eq_true (by rw [HLT.out, HLM.out]; exact g0))
 clear g0
 have HF : Hid (goodP s w ⟨2, od, po, L, T, M, sk, fr, to, q⟩ = decide ((⟨2, od, po, L, T, M, sk, fr, to, q⟩ : Pg) = ⟨2, od, 0, [], T, M, 0, 0, 0, 0⟩)) := Lib.hid (by rw [HG.out, decide_eq_true t0, t1, t2, HOR.out]; simp)
 clear HG
 generalize decide ((⟨2, od, po, L, T, M, sk, fr, to, q⟩ : Pg) = ⟨2, od, 0, [], T, M, 0, 0, 0, 0⟩) = bb at *
 obtain ⟨b0, b1, b2, b3, b4, b5, b6, b7, b8, b9⟩ := HD.out w1 HB1.out
 go_wp2_with fail
 refine (HSA.out w1 HB1.out).mono ?_
 rintro e w9 ⟨rfl, hb9⟩
 have HB9 := Lib.hid (HB1.out.trans (hb9.mono HB1.out.size))
 clear hb9 a0 a1 a2 a3 a4 a5 a6 a7 a8 a9 b0 b1 b2 b3 b4 b5 b6 b7 b8 b9
 go_wp2_with fail
 go_ret
 exact ⟨by rw [HF.out]; rfl, HB.out.trans (HB9.out.mono HB.out.size)⟩
theorem ask3 (s w od po : Int) (L : List Ln) (T : List Tk) (M : List Ln) (sk fr to q : Int) : askP s w ⟨3, od, po, L, T, M, sk, fr, to, q⟩ = (decide (od ≠ 0) && takesB s w od T && decide (1 ≤ T.length)) := rfl
theorem qof3 (od po : Int) (L : List Ln) (T : List Tk) (M : List Ln) (sk fr to q : Int) : qofP ⟨3, od, po, L, T, M, sk, fr, to, q⟩ = ⟨3, od, 0, [], T, [], 0, 0, 0, 0⟩ := rfl
set_option maxHeartbeats 8000000 in
theorem rgood3 (s w : Int) (od po : Int) (lp : Option Addr) (ln lcp : Nat) (tp : Option Addr) (tn tcp : Nat) (wp : Option Addr) (wn wcp : Nat) (sk fr to q : Int) (L : List Ln) (T : List Tk) (M : List Ln) (W : World) (hs : sizedB s w = true) (hP : PgM W lp ln lcp L tp tn tcp T wp wn wcp M) (hok : Pgok ⟨3, od, po, L, T, M, sk, fr, to, q⟩) (h1 : ln ≤ 1000 ∧ tn ≤ 1000 ∧ wn ≤ 1000) :
 Calls Tryz.prog 85 #[.int .i64 s, .int .i64 w, .agg #[.int .u8 3, .int .u32 od, .int .u8 po, .slice lp ln lcp, .slice tp tn tcp, .slice wp wn wcp, .int .u8 sk, .int .u8 fr, .int .u8 to, .int .i64 q]] W fun e w' => e = .returned (.bool (goodP s w ⟨3, od, po, L, T, M, sk, fr, to, q⟩)) ∧ Below W.heap.size W w' := by
 have hg : goodP s w ⟨3, od, po, L, T, M, sk, fr, to, q⟩ = ((decide (od ≠ 0) && takesB s w od T && decide (1 ≤ T.length)) && decide ((⟨3, od, po, L, T, M, sk, fr, to, q⟩ : Pg) = ⟨3, od, 0, [], T, [], 0, 0, 0, 0⟩)) := by
  show (sizedB s w && askP s w ⟨3, od, po, L, T, M, sk, fr, to, q⟩ && decide ((⟨3, od, po, L, T, M, sk, fr, to, q⟩ : Pg) = qofP ⟨3, od, po, L, T, M, sk, fr, to, q⟩)) = _
  rw [hs, Bool.true_and, ask3, qof3]
 have hs4 : 1 ≤ s ∧ s ≤ 4 ∧ 1 ≤ w ∧ w ≤ 4 := by
  unfold sizedB at hs
  simp only [Bool.and_eq_true, decide_eq_true_eq] at hs
  omega
 obtain ⟨W2, hW2, b0, b1, hb⟩ := two_progs W #[.int .u8 3, .int .u32 od, .int .u8 po, .slice lp ln lcp, .slice tp tn tcp, .slice wp wn wcp, .int .u8 sk, .int .u8 fr, .int .u8 to, .int .i64 q] #[.int .u8 3, .int .u32 od, .int .u8 0, .slice none 0 0, .slice tp tn tcp, .slice none 0 0, .int .u8 0, .int .u8 0, .int .u8 0, .int .i64 0]
 have HW := Lib.hid hW2
 have HB := Lib.hid hb
 have HX := Lib.hid b0
 have HY := Lib.hid b1
 have HP := Lib.hid (hP.later hb)
 have HLL := Lib.hid hP.l.len
 have HLT := Lib.hid hP.t.len
 have HLM := Lib.hid hP.o.len
 have hsk : 0 ≤ sk ∧ sk ≤ 255 := hok.sku
 have hfr : 0 ≤ fr ∧ fr ≤ 255 := hok.frm
 have hto : 0 ≤ to ∧ to ≤ 255 := hok.to
 have hpo : 0 ≤ po ∧ po ≤ 255 := hok.policy
 have HTA := Lib.hid fun w' (h : Below W2.heap.size W2 w') => rtakes_any s w 3 od po lp ln lcp tp tn tcp wp wn wcp sk fr to q T w' (HP.out.later h).t hok.takes h1.2.1
 have HSA := Lib.hid fun w' (h : Below W2.heap.size W2 w') => rsame_p 3 od po lp ln lcp tp tn tcp wp wn wcp sk fr to q 3 od 0 none 0 0 tp tn tcp none 0 0 0 0 0 0 L T M [] T [] w' (HP.out.later h) ⟨SlG.empty _, (HP.out.later h).t, SlG.empty _⟩ h1 ⟨by omega, h1.2.1, by omega⟩
 have HC := Lib.hid fun w' (h : Below W2.heap.size W2 w') => prog_cells 3 od po lp ln lcp tp tn tcp wp wn wcp sk fr to q (block_later HX.out h)
 have HD := Lib.hid fun w' (h : Below W2.heap.size W2 w') => prog_cells 3 od 0 none 0 0 tp tn tcp none 0 0 0 0 0 0 (block_later HY.out h)
 have y1 : decide (s < 1) = false := decide_eq_false (by omega)
 have y2 : decide (4 < s) = false := decide_eq_false (by omega)
 have y3 : decide (w < 1) = false := decide_eq_false (by omega)
 have y4 : decide (4 < w) = false := decide_eq_false (by omega)
 have x6 : IntKind.i64.wrap sk = sk := IntWalk.i64_in _ (by omega)
 have x7 : IntKind.i64.wrap fr = fr := IntWalk.i64_in _ (by omega)
 have x8 : IntKind.i64.wrap to = to := IntWalk.i64_in _ (by omega)
 have HG := Lib.hid hg
 have H1 := Lib.hid h1
 clear hg hs hs4 hW2 b0 b1 hb hP hok hsk hfr hto hpo
 by_cases t0 : od ≠ 0
 case neg =>
  have f0 : (od != 0) = false := by simpa using t0
  have HF : Hid (goodP s w ⟨3, od, po, L, T, M, sk, fr, to, q⟩ = false) := Lib.hid (by rw [HG.out]; rw [decide_eq_false t0]; simp)
  go_enter Tryz.func85, Tryz.ntmps85
  go_wp2_with fail
  go_ret
  rw [HW.out]
  exact ⟨by rw [HF.out]; rfl, HB.out.trans ((Below.refl _ _).mono HB.out.size)⟩
 have f0 : (od != 0) = true := by simpa using t0
 obtain ⟨a0, a1, a2, a3, a4, a5, a6, a7, a8, a9⟩ := HC.out W2 (Below.refl _ _)
 go_enter Tryz.func85, Tryz.ntmps85
 go_wp2_with fail
 rw [HW.out]
 have hc0 := HTA.out W2 (Below.refl _ _)
 refine hc0.mono ?_
 rintro e w0 ⟨rfl, hb0⟩
 have HB0 : Hid (Below W2.heap.size W2 w0) := Lib.hid (hb0)
 clear hc0 hb0 a0 a1 a2 a3 a4 a5 a6 a7 a8 a9
 obtain ⟨a0, a1, a2, a3, a4, a5, a6, a7, a8, a9⟩ := HC.out w0 HB0.out
 cases t1 : takesB s w od T
 case false =>
  have HF : Hid (goodP s w ⟨3, od, po, L, T, M, sk, fr, to, q⟩ = false) := Lib.hid (by rw [HG.out]; rw [t1]; simp)
  go_wp2_with fail
  go_ret
  exact ⟨by rw [HF.out]; rfl, HB.out.trans (HB0.out.mono HB.out.size)⟩
 by_cases t2 : 1 ≤ tn
 case neg =>
  have f2 : decide (0 < (tn : Int)) = false := decide_eq_false (by omega)
  have f2n : decide (0 < tn) = false := decide_eq_false (by omega)
  have HF : Hid (goodP s w ⟨3, od, po, L, T, M, sk, fr, to, q⟩ = false) := Lib.hid (by rw [HG.out]; rw [decide_eq_false (show ¬ 1 ≤ T.length by rw [HLT.out]; exact t2)]; simp)
  go_wp2_with fail
  go_ret
  exact ⟨by rw [HF.out]; rfl, HB.out.trans (HB0.out.mono HB.out.size)⟩
 have f2 : decide (0 < (tn : Int)) = true := decide_eq_true (by omega)
 have f2n : decide (0 < tn) = true := decide_eq_true (by omega)
 have HF : Hid (goodP s w ⟨3, od, po, L, T, M, sk, fr, to, q⟩ = decide ((⟨3, od, po, L, T, M, sk, fr, to, q⟩ : Pg) = ⟨3, od, 0, [], T, [], 0, 0, 0, 0⟩)) := Lib.hid (by rw [HG.out, decide_eq_true t0, t1, decide_eq_true (show 1 ≤ T.length by rw [HLT.out]; exact t2)]; simp)
 clear HG
 generalize decide ((⟨3, od, po, L, T, M, sk, fr, to, q⟩ : Pg) = ⟨3, od, 0, [], T, [], 0, 0, 0, 0⟩) = bb at *
 obtain ⟨b0, b1, b2, b3, b4, b5, b6, b7, b8, b9⟩ := HD.out w0 HB0.out
 go_wp2_with fail
 refine (HSA.out w0 HB0.out).mono ?_
 rintro e w9 ⟨rfl, hb9⟩
 have HB9 := Lib.hid (HB0.out.trans (hb9.mono HB0.out.size))
 clear hb9 a0 a1 a2 a3 a4 a5 a6 a7 a8 a9 b0 b1 b2 b3 b4 b5 b6 b7 b8 b9
 go_wp2_with fail
 go_ret
 exact ⟨by rw [HF.out]; rfl, HB.out.trans (HB9.out.mono HB.out.size)⟩
end Go.Proofs.YtfdgnniicjdjdaaGreatDoor
