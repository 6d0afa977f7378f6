import Derived.Test.YtfdgnniicjdjdaaGreatDoorPC16
import Derived.StillTailTactics
namespace Go.Proofs.YtfdgnniicjdjdaaGreatDoor
open Go.RowKit Go.ChangeShapes Go.WideShapes
set_option linter.unusedVariables false
set_option maxRecDepth 10000
set_option linter.unusedSimpArgs false
theorem Seg.take {w : World} {Q : Nat → Prop} {z : Nat → Nat × Nat} {f s : Nat} {B : List Int} (h : Seg w Q z f s B) (l : Nat) : Seg w Q z f s (B.take l) := by
 have hlt : ∀ i, i * s < (B.take l).length → i * s < B.length := fun i hi => by rw [List.length_take] at hi; omega
 refine ⟨fun i hi => ⟨(h.row i (hlt i hi)).1, ?_⟩, fun i j hi hj => h.apart i j (hlt i hi) (hlt j hj)⟩
 rw [sg_take_all, List.length_take]
 have hr := (h.row i (hlt i hi)).2
 have := hr.take (m := min (l - i * s) (sgD s B i).length) (Nat.min_le_right _ _)
 rwa [← List.take_eq_take_min] at this
def ScD (z : Nat → Nat × Nat) (f s : Nat) (B : List Int) (l j : Nat) (y : Int) : Option Sv := if y < ((f + j : Nat) : Int) then So z f s (B.take l) y else So z f s B y
structure Cm (w wr : World) (T : Nat) (mb : Option Nat) (Q : Nat → Prop) (a : Int) (s : Nat) (t : TS) (l j : Nat) : Prop where
 blk : wr.heap[T]? = some (.cells #[.int .i64 a, .int .i64 (t.f * s : Nat), .int .i64 (t.f * s + t.B.length : Nat), .map mb] 171 (0, 0))
 yes : ∀ b, mb = some b → Q b ∧ ∃ z D, MapB wr b (nSD s l + (nSD s t.B.length - j)) D ∧ Tm D (ScD z t.f s t.B l j) (nSD s l + (nSD s t.B.length - j)) ∧ Seg wr Q z t.f s (t.B.take l)
 chg : Chg Q w wr
 lo : nSD s l ≤ j
theorem Seg.ne_map {w : World} {Q : Nat → Prop} {z : Nat → Nat × Nat} {f s b n : Nat} {B : List Int} {D : DataW Sv} (h : Seg w Q z f s B) (hm : MapB w b n D) (i : Nat) (hi : i * s < B.length) : (z (f + i)).1 ≠ b := by
 rcases (h.row i hi).2.own.2 with ⟨h3, _⟩ | ⟨g3, c3, cur3, h3, _, h4, _⟩
 · cases h3
 · cases h3
   exact hm.ne h4
theorem Cm.step {w wr w1 : World} {T b n : Nat} {Q : Nat → Prop} {a : Int} {s : Nat} {t : TS} {l j : Nat} {z : Nat → Nat × Nat} {D : DataW Sv} (hs : 0 < s) (h : Cm w wr T (some b) Q a s t l j) (hQT : Q T) (hl : l ≤ t.B.length) (hj : j * s < t.B.length)
 (hQb : Q b) (hm : MapB wr b (nSD s l + (nSD s t.B.length - j)) D) (hT : Tm D (ScD z t.f s t.B l j) (nSD s l + (nSD s t.B.length - j))) (hS : Seg wr Q z t.f s (t.B.take l))
 (hm1 : MapB w1 b n (D.del (kLD ((t.f + j : Nat) : Int)))) (hc : Chg (fun k => k = b) wr w1) : Cm w w1 T (some b) Q a s t l (j + 1) := by
 have hlt := (lt_nS hs).2 hj
 have hnl : ¬ j * s < l := fun e => by have := (lt_nS hs).2 e; have := h.lo; omega
 have h0 : ScD z t.f s t.B l j ((t.f + j : Nat) : Int) = some (some ⟨(z (t.f + j)).1, 0, none⟩, (sgD s t.B j).length, (z (t.f + j)).2) := by
  unfold ScD
  rw [if_neg (by omega), So_at, if_pos hj]
 have hT1 := hT.del ((t.f + j : Nat) : Int) (by rw [h0]; rfl)
 have ht := hm1.tight
 have e1 : nSD s l + (nSD s t.B.length - j) - 1 = nSD s l + (nSD s t.B.length - (j + 1)) := by omega
 rw [hT1.size, e1] at ht
 refine ⟨(hc.block T (block_lt h.blk) (hm.ne h.blk)).trans h.blk, fun b' e => ?_, h.chg.trans (hc.mono fun k _ e => by rw [e]; exact hQb) fun _ _ h => h, by have := h.lo; omega⟩
 cases e
 refine ⟨hQb, z, _, ht, hT1.congr (fun y => ?_) e1, hS.keep hc fun i hi => hS.ne_map hm i hi⟩
 unfold ScD
 by_cases e : y = ((t.f + j : Nat) : Int)
 · subst e
   rw [if_pos rfl, if_pos (by omega), So_at, if_neg (by rw [List.length_take]; omega)]
 · rw [if_neg e]
   by_cases e2 : y < ((t.f + j : Nat) : Int)
   · rw [if_pos e2, if_pos (by omega)]
   · rw [if_neg e2, if_neg (by omega)]
theorem Cm.sm {w wr : World} {T : Nat} {mb : Option Nat} {Q : Nat → Prop} {a : Int} {s : Nat} {t : TS} {l j b : Nat} (hs : 0 < s) (h : Cm w wr T mb Q a s t l j) (hmb : mb = some b) (hl : l ≤ t.B.length) (hj : ¬ j * s < t.B.length) : Sm wr Q b t.f s (t.B.take l) := by
 obtain ⟨hQb, z, D, hm, hT, hS⟩ := h.yes b hmb
 have hn : nSD s t.B.length ≤ j := by
  rcases Nat.lt_or_ge j (nSD s t.B.length) with h' | h'
  · exact absurd ((lt_nS hs).1 h') hj
  · exact h'
 have e : nSD s l + (nSD s t.B.length - j) = nSD s (t.B.take l).length := by rw [List.length_take, Nat.min_eq_left hl]; omega
 rw [e] at hm hT
 refine ⟨hQb, z, D, hm, hT.congr (fun y => ?_) rfl, hS⟩
 unfold ScD
 by_cases e2 : y < ((t.f + j : Nat) : Int)
 · rw [if_pos e2]
 · rw [if_neg e2]
   rcases low_or_at t.f y with h' | ⟨i, rfl⟩
   · rw [So_low _ _ _ _ h', So_low _ _ _ _ h']
   · have := Nat.mul_le_mul_right s (show j ≤ i by omega)
     rw [So_at, So_at, if_neg (by omega), if_neg (by rw [List.length_take]; omega)]
theorem cut_whole {w wr : World} {T : Nat} {mb : Option Nat} {Q : Nat → Prop} {a : Int} {s : Nat} {t : TS} {l : Nat} (h : Tp w T mb Q a s t) (hb : Below w.heap.size w wr) (hl : l ≤ t.B.length) (h0 : l % s = 0) : Cm w wr T mb Q a s t l (l / s) := by
 have hs : 0 < s := by have := h.s_in; omega
 have hdp : l / s * s + l % s = l := div_parts
 have hn : nSD s l = l / s := by rw [nS_div hs, if_neg (by omega)]
 refine ⟨(h.later hb).blk, fun b e => ?_, Chg.of_below hb, Nat.le_of_eq hn⟩
 obtain ⟨hQb, z, D, hm, hT, hS⟩ := (h.later hb).yes b e
 have e1 : nSD s t.B.length = nSD s l + (nSD s t.B.length - l / s) := by
  have := nS_mono (s := s) hl
  omega
 refine ⟨hQb, z, D, e1 ▸ hm, hT.congr (fun y => ?_) e1, hS.take l⟩
 unfold ScD
 by_cases e2 : y < ((t.f + l / s : Nat) : Int)
 · rw [if_pos e2]
   rcases low_or_at t.f y with h' | ⟨i, rfl⟩
   · rw [So_low _ _ _ _ h', So_low _ _ _ _ h']
   · have h1 := mul_succ_le (s := s) (show i < l / s by omega)
     rw [So_at, So_at, if_pos (by omega), if_pos (by rw [List.length_take]; omega), sg_take_lt t.B (by omega)]
 · rw [if_neg e2]
theorem cut_part {w wr w1 : World} {T b n : Nat} {Q : Nat → Prop} {a : Int} {s : Nat} {t : TS} {l : Nat} {z : Nat → Nat × Nat} {D : DataW Sv} (h : Tp w T (some b) Q a s t) (hb : Below w.heap.size w wr) (hl : l ≤ t.B.length) (h0 : 0 < l % s)
 (hm : MapB wr b (nSD s t.B.length) D) (hT : Tm D (So z t.f s t.B) (nSD s t.B.length)) (hS : Seg wr Q z t.f s t.B)
 (hm1 : MapB w1 b n (D.put (kLD ((t.f + l / s : Nat) : Int)) (.held (some ⟨(z (t.f + l / s)).1, 0, none⟩, l % s, (z (t.f + l / s)).2)))) (hc : Chg (fun k => k = b) wr w1) : Cm w w1 T (some b) Q a s t l (l / s + 1) := by
 have hs : 0 < s := by have := h.s_in; omega
 have hdp : l / s * s + l % s = l := div_parts
 have hmod := Nat.mod_lt l hs
 have hn : nSD s l = l / s + 1 := by rw [nS_div hs, if_pos h0]
 have hQb := (h.yes b rfl).1
 have hblk := (h.later hb).blk
 refine ⟨(hc.block T (block_lt hblk) (hm.ne hblk)).trans hblk, fun b' e => ?_, (Chg.of_below (S := Q) hb).trans (hc.mono fun k _ e => by rw [e]; exact hQb) fun _ _ h => h, Nat.le_of_eq hn⟩
 cases e
 have e1 : nSD s t.B.length = nSD s l + (nSD s t.B.length - (l / s + 1)) := by
  have := nS_mono (s := s) hl
  omega
 have hpos : l / s * s < t.B.length := by omega
 have hT1 := hT.put ((t.f + l / s : Nat) : Int) (some ⟨(z (t.f + l / s)).1, 0, none⟩, l % s, (z (t.f + l / s)).2)
 have hsome : (So z t.f s t.B ((t.f + l / s : Nat) : Int)).isSome = true := by rw [So_at, if_pos hpos]; rfl
 rw [if_pos hsome] at hT1
 have ht := hm1.tight
 rw [hT1.size, e1] at ht
 refine ⟨hQb, z, _, ht, hT1.congr (fun y => ?_) e1, (hS.keep hc fun i hi => hS.ne_map hm i hi).take l⟩
 unfold ScD
 by_cases e : y = ((t.f + l / s : Nat) : Int)
 · subst e
   rw [if_pos rfl, if_pos (by omega), So_at, if_pos (by rw [List.length_take]; omega), sg_len, List.length_take]
   congr 3
   omega
 · rw [if_neg e]
   by_cases e2 : y < ((t.f + (l / s + 1) : Nat) : Int)
   · rw [if_pos e2]
     rcases low_or_at t.f y with h' | ⟨i, rfl⟩
     · rw [So_low _ _ _ _ h', So_low _ _ _ _ h']
     · have h1 := mul_succ_le (s := s) (show i < l / s by omega)
       rw [So_at, So_at, if_pos (by omega), if_pos (by rw [List.length_take]; omega), sg_take_lt t.B (by omega)]
   · rw [if_neg e2]
theorem Cm.later {w wr w1 : World} {T : Nat} {mb : Option Nat} {Q : Nat → Prop} {a : Int} {s : Nat} {t : TS} {l j : Nat} (h : Cm w wr T mb Q a s t l j) (hb : Below wr.heap.size wr w1) : Cm w w1 T mb Q a s t l j := by
 have hc : Chg (fun _ => False) wr w1 := Chg.of_below hb
 refine ⟨block_later h.blk hb, fun b e => ?_, h.chg.trans hc fun _ _ h => h.elim, h.lo⟩
 obtain ⟨h1, z, D, h2, h3, h4⟩ := h.yes b e
 exact ⟨h1, z, D, h2.turn hc (fun h => h), h3, h4.keep hc fun _ _ h => h⟩
theorem idx_div {s : Nat} (hs : 0 < s) (f l : Nat) : (f * s + l) / s = f + l / s ∧ (f * s + l) % s = l % s := by
 constructor
 · rw [Nat.add_comm, Nat.add_mul_div_right _ _ hs, Nat.add_comm]
 · rw [Nat.add_comm, Nat.add_mul_mod_self_right]
section
variable {w : World} {T : Nat} {mb : Option Nat} {Q : Nat → Prop} {a : Int} {s : Nat} {t : TS}
set_option maxHeartbeats 1000000 in
set_option maxRecDepth 100000 in
theorem tape_cut (h : Tp w T mb Q a s t) (x : Int) (hbig : t.f * s + t.B.length ≤ 1000000) : Calls Tryz.prog 103 #[.pointer (some ⟨T, 0, none⟩), .int .i64 x] w fun e w' => e = .returned (.tuple #[]) ∧ Tp w' T mb Q a s (cutT s t x) ∧ Chg Q w w' := by
 have hs := h.s_in
 have hk := fun q => tape_kept x (t.f * s) (t.f * s + t.B.length) (w.drewN q)
 obtain ⟨g1, g2⟩ := left_spec s t x
 have HTP := Lib.hid h
 clear h
 rw [g1] at hk
 generalize hl : left' s t x = l at *
 have HCT : Hid (cutT s t x = ⟨t.f, t.B.take l⟩) := Lib.hid (by unfold cutT; rw [hl])
 obtain ⟨i1, i2⟩ := idx_div (by omega : 0 < s) t.f l
 clear g1 hl
 have hfs : t.f ≤ t.f * s := Nat.le_mul_of_pos_right _ (by omega)
 generalize hF : t.f * s = F at *
 generalize hE : F + t.B.length = E at *
 have HF := Lib.hid hF
 have HE := Lib.hid hE
 have HL := Lib.hid g2
 obtain ⟨c1, c2, _, hsg⟩ := HTP.out.at hF hE
 have hmod := Nat.mod_lt l (by omega : 0 < s)
 have hdle := Nat.div_le_self l s
 have hdp : l / s * s + l % s = l := div_parts
 have hpos := HL.out
 generalize hLL : F + l = C at *
 have HC := Lib.hid hLL
 have hCE : C ≤ E := by omega
 have hF6 : F ≤ 1000000 := by omega
 have q0 : ((s : Int) == 0) = false := by simp; omega
 have q1 : ¬ s = 0 := by omega
 generalize hy : l / s = y at *
 generalize hr : l % s = r at *
 have HY := Lib.hid hy
 have HR := Lib.hid hr
 have d1 : (C : Int).tdiv (s : Int) = ((t.f + y : Nat) : Int) := by rw [← i1]; rfl
 have d2 : (C : Int).tmod (s : Int) = (r : Int) := by rw [← i2]; rfl
 have d3 : IntKind.i64.wrap ((t.f + y : Nat) : Int) = ((t.f + y : Nat) : Int) := IntWalk.i64_in _ (by omega)
 have d4 : IntKind.i64.wrap (r : Int) = (r : Int) := IntWalk.i64_in _ (by omega)
 have HDP := Lib.hid hdp
 have hyb : t.f + y ≤ 1000000 := by omega
 have HYL : Hid (y + 1 ≤ t.B.length + 1) := Lib.hid (by omega)
 clear i1 i2 hF hE g2 hLL hdp hy hr hpos
 go_enter Tryz.func103, Tryz.ntmps103
 go_wp2_with fail
 go_quiet (first
  | (go_at_call 114; exact Calls.quiet_of_same (hk _)))
 go_wp2_with fail
 have HB1 : Hid (Below w.heap.size w (w.drewN nq)) := Lib.hid (below_drewN (Below.refl _ _) nq)
 clear hk hsg c1 c2
 obtain ⟨c1, c2, _, hsg⟩ := (HTP.out.drewN nq).at HF.out HE.out
 have HT1 := Lib.hid (HTP.out.drewN nq)
 generalize w.drewN nq = W1 at *
 go_quiet (first
  | (go_at_call 113; exact Calls.quiet_of_same (hsg _)))
 have HB2 := Lib.hid (below_drewN HB1.out nq)
 have HT2 := Lib.hid (HT1.out.drewN nq)
 clear hsg c1 c2 d1 d2 d3 d4 HB1 HT1
 generalize W1.drewN nq = W2 at *
 by_cases hr0 : 0 < r
 · have hpl : y * s < t.B.length := by have := HL.out; have := HDP.out; omega
   obtain ⟨b, rfl⟩ : ∃ b, mb = some b := by
    cases mb with
    | none =>
     have := (HTP.out.no rfl).2
     rw [this] at hpl
     simp at hpl
    | some b => exact ⟨b, rfl⟩
   obtain ⟨_, z, D, hown, hT, hS⟩ := HT2.out.yes b rfl
   have HO := Lib.hid hown
   have HTM := Lib.hid hT
   have HSG := Lib.hid hS
   have wf : (Lit.int .i64 ((t.f + y : Nat) : Int)).wf = true := WalkArith.wf_i64 (by omega)
   have hlk := look_at (w := W2.drew) (MapB.turn hown ((Chg.refl (fun _ => False) _).drewN 1) (fun h => h)) hT wf
   rw [So_at, if_pos hpl] at hlk
   unfold svV at hlk
   rw [Int.natCast_add] at hlk
   have hsgl : (sgD s t.B y).length = min s (t.B.length - y * s) := sg_len ..
   have hrl : r ≤ (sgD s t.B y).length := by have := HL.out; have := HDP.out; omega
   have hcap : (sgD s t.B y).length ≤ (z (t.f + y)).2 ∧ (z (t.f + y)).2 ≤ maxLen := by
    have hbl := (hS.row y hpl).2.bl
    exact ⟨hbl.cap, hbl.max⟩
   have hmx : (z (t.f + y)).2 ≤ 9223372036854775807 := by have := hcap.2; unfold maxLen at this; omega
   have HSTEP := Lib.hid fun (n : Nat) (w1 : World) (h1 : MapB w1 b n (D.put (kLD ((t.f + l / s : Nat) : Int)) (.held (some ⟨(z (t.f + l / s)).1, 0, none⟩, l % s, (z (t.f + l / s)).2)))) (hc : Chg (fun k => k = b) W2 w1) => cut_part HTP.out HB2.out HL.out (by rw [HR.out]; exact hr0) HO.out HTM.out HSG.out h1 hc
   rw [HY.out, HR.out] at HSTEP
   have h23 : r ≤ (z (t.f + y)).2 := by omega
   have c3 := HT2.out.cells.2.2.2
   clear hown hT hS hsgl
   generalize (sgD s t.B y).length = n0 at *
   generalize (z (t.f + y)).1 = zg at *
   generalize (z (t.f + y)).2 = zc at *
   clear hcap
   go_wp2_with fail
   go_still_tail 13, (by kernel_rfl)
   repeat still_step
   change wpList _ _ _ _ _ W2.drew
   refine wpList_mapUpdate_b rfl _ _ _ rfl b _ D rfl (MapB.turn HO.out ((Chg.refl (fun _ => False) _).drewN 1) (fun h => h)) ?_ ((t.f + y : Nat) : Int) wf rfl (some ⟨zg, 0, none⟩) r zc rfl ?_
   · have := nS_le (s := s) (n := t.B.length) (by omega)
     have := HE.out
     omega
   intro w3 hm3 hc3
   have HS0 : Hid (Cm w w3 T (some b) Q a s t l (y + 1)) := Lib.hid (HSTEP.out _ w3 hm3 hc3.undrew)
   have e9 : ((t.f : Int) + (y : Int)) + 1 = ((t.f + (y + 1) : Nat) : Int) := by omega
   have HJ : Hid (y + 1 ≤ t.B.length + 1) := HYL
   clear HSTEP hlk c3 hm3 hc3 HO HTM HSG wf h23 hrl hpl
   go_wp2_with fail
   go_loopw [6] (fun n wr => ∃ j : Nat, n = .int .i64 (t.f + j : Nat) ∧ Hid (j ≤ t.B.length + 1) ∧ Hid (Cm w wr T (some b) Q a s t l j)) (fun n _ => t.f + t.B.length + 2 - (intOf n).toNat)
   case atStart => exact ⟨y + 1, by go_num, HJ, HS0⟩
   case round =>
    obtain ⟨j, rfl, HJJ, HD⟩ := hrel
    have hblk := HD.out.blk
    rw [HF.out, HE.out] at hblk
    have hP : (t.f + j) * s = F + j * s := by rw [Nat.add_mul, HF.out]
    have hjs : j * s ≤ 1000001 * 4096 := Nat.mul_le_mul (by have := HJJ.out; have := HE.out; omega) hs.2
    have m1 : ((t.f : Int) + (j : Int)) * (s : Int) = ((F + j * s : Nat) : Int) := by
     rw [← hP]
     push_cast
     rfl
    have m2 : IntKind.i64.wrap ((F + j * s : Nat) : Int) = ((F + j * s : Nat) : Int) := IntWalk.i64_in _ (by omega)
    have hcond : F + j * s < E ↔ j * s < t.B.length := by have := HE.out; omega
    have c2 := fun q => show (wr.drewN q).cell? ⟨T, 2, none⟩ = some (.int .i64 (E : Nat)) from block_cell (j := 2) hblk rfl
    have hsg := fun q => tape_seg0 T a s (wr.drewN q) (block_cell (j := 0) hblk rfl) HTP.out.seg
    clear hP hblk
    generalize F + j * s = P at *
    by_cases hlt : P < E
    · have hlt' : decide ((P : Int) < (E : Int)) = true := decide_eq_true (by omega)
      have hlt2 : (P : Int) < (E : Int) := by omega
      go_wp2_with fail
      go_quiet (first
       | (go_at_call 113; exact Calls.quiet_of_same (hsg _)))
      have HD5 := Lib.hid (HD.out.later (below_drewN (Below.refl _ _) nq))
      clear c2 hsg HD m1 m2
      generalize wr.drewN nq = W5 at *
      have hjl := hcond.1 hlt
      obtain ⟨b', hb'⟩ : ∃ b', (some b) = some b' := by
       cases hmb : (some b) with
       | none =>
        have := (HTP.out.no hmb).2
        rw [this] at hjl
        simp at hjl
       | some b' => exact ⟨b', rfl⟩
      obtain rfl : b = b' := by cases hb'; rfl
      clear hb'
      obtain ⟨hQb, z, D, hown, hT, hS⟩ := HD5.out.yes b rfl
      have HTM := Lib.hid hT
      have HSG := Lib.hid hS
      have HO := Lib.hid hown
      have HQB := Lib.hid hQb
      have HJL := Lib.hid hjl
      have c3 := block_cell (j := 3) HD5.out.blk (v := .map (some b)) rfl
      have hjj : j ≤ 1000000 := by have := (lt_nS (s := s) (by omega)).2 hjl; have := nS_le (s := s) (n := t.B.length) (by omega); have := HE.out; omega
      have htf : t.f ≤ 1000000 := by omega
      have wf : (Lit.int .i64 ((t.f + j : Nat) : Int)).wf = true := WalkArith.wf_i64 (by omega)
      clear hown hT hS hQb hcond hjl
      go_wp2_with (first | (at_delete; refine wpList_delete_b rfl _ _ rfl b _ D rfl HO.out ((t.f + j : Nat) : Int) wf rfl ?_; intro w6 hm6 hc6) | fail)
      have HN := Lib.hid (Cm.step (by omega) HD5.out HTP.out.q HL.out HJL.out HQB.out HO.out HTM.out HSG.out hm6 hc6)
      go_wp2_with fail
      go_roundw
      case rel => exact ⟨j + 1, by go_num, Lib.hid (by have := HJL.out; have := (lt_nS (s := s) (by omega)).2 this; have := nS_le (s := s) (n := t.B.length) (by omega); omega), HN⟩
      case measure => simp [intOf]; have := HJJ.out; omega
    · have hlt' : decide ((P : Int) < (E : Int)) = false := decide_eq_false (by omega)
      have hlt2 : ¬ (P : Int) < (E : Int) := by omega
      have HNJ := Lib.hid fun h => hlt (hcond.2 h)
      go_wp2_with fail
      go_quiet (first
       | (go_at_call 113; exact Calls.quiet_of_same (hsg _)))
      have HD5 := Lib.hid (HD.out.later (below_drewN (Below.refl _ _) nq))
      clear c2 hsg HD m1 m2 hcond
      generalize wr.drewN nq = W5 at *
      have c2 := block_cell (j := 2) HD5.out.blk (v := .int .i64 (t.f * s + t.B.length : Nat)) rfl
      have f2 := block_free 2 HD5.out.blk
      have HBLK := Lib.hid HD5.out.blk
      go_wp2_with fail
      go_end0
      rw [HCT.out]
      refine ⟨rfl, ⟨HTP.out.seg, ?_, fun e => ?_, fun b e => (HD5.out.sm (by omega) e HL.out HNJ.out).put HBLK.out 2 _, HTP.out.q⟩, HD5.out.chg.trans (T := fun k => k = T) ((Chg.refl _ _).setCell _ _ fun _ => rfl) fun k _ e => by rw [e]; exact HTP.out.q⟩
      · have hput := block_put 2 (.int .i64 ((C : Nat) : Int)) HBLK.out
        have hx4 : t.f * s + (t.B.take l).length = C := by rw [List.length_take]; have := HC.out; have := HF.out; have := HL.out; omega
        show _ = some (Obj.cells #[.int .i64 a, .int .i64 (t.f * s : Nat), .int .i64 (t.f * s + (t.B.take l).length : Nat), .map _] _ _)
        rw [hx4]
        exact hput
      · obtain ⟨h1, h2⟩ := HTP.out.no e
        exact ⟨h1, by show t.B.take l = []; rw [h2]; simp⟩
 · have hr1 : ¬ (0 : Int) < (r : Int) := by omega
   have hr2 : ¬ 0 < r := hr0
   have HS0 : Hid (Cm w W2 T mb Q a s t l y) := Lib.hid (HY.out ▸ cut_whole HTP.out HB2.out HL.out (by rw [HR.out]; omega))
   have HJ : Hid (y ≤ t.B.length + 1) := Lib.hid (by have := HYL.out; omega)
   go_wp2_with fail
   generalize W2 = w3 at *
   go_loopw [6] (fun n wr => ∃ j : Nat, n = .int .i64 (t.f + j : Nat) ∧ Hid (j ≤ t.B.length + 1) ∧ Hid (Cm w wr T mb Q a s t l j)) (fun n _ => t.f + t.B.length + 2 - (intOf n).toNat)
   case atStart => exact ⟨y, by go_num, HJ, HS0⟩
   case round =>
    obtain ⟨j, rfl, HJJ, HD⟩ := hrel
    have hblk := HD.out.blk
    rw [HF.out, HE.out] at hblk
    have hP : (t.f + j) * s = F + j * s := by rw [Nat.add_mul, HF.out]
    have hjs : j * s ≤ 1000001 * 4096 := Nat.mul_le_mul (by have := HJJ.out; have := HE.out; omega) hs.2
    have m1 : ((t.f : Int) + (j : Int)) * (s : Int) = ((F + j * s : Nat) : Int) := by
     rw [← hP]
     push_cast
     rfl
    have m2 : IntKind.i64.wrap ((F + j * s : Nat) : Int) = ((F + j * s : Nat) : Int) := IntWalk.i64_in _ (by omega)
    have hcond : F + j * s < E ↔ j * s < t.B.length := by have := HE.out; omega
    have c2 := fun q => show (wr.drewN q).cell? ⟨T, 2, none⟩ = some (.int .i64 (E : Nat)) from block_cell (j := 2) hblk rfl
    have hsg := fun q => tape_seg0 T a s (wr.drewN q) (block_cell (j := 0) hblk rfl) HTP.out.seg
    clear hP hblk
    generalize F + j * s = P at *
    by_cases hlt : P < E
    · have hlt' : decide ((P : Int) < (E : Int)) = true := decide_eq_true (by omega)
      have hlt2 : (P : Int) < (E : Int) := by omega
      go_wp2_with fail
      go_quiet (first
       | (go_at_call 113; exact Calls.quiet_of_same (hsg _)))
      have HD5 := Lib.hid (HD.out.later (below_drewN (Below.refl _ _) nq))
      clear c2 hsg HD m1 m2
      generalize wr.drewN nq = W5 at *
      have hjl := hcond.1 hlt
      obtain ⟨b', hb'⟩ : ∃ b', mb = some b' := by
       cases hmb : mb with
       | none =>
        have := (HTP.out.no hmb).2
        rw [this] at hjl
        simp at hjl
       | some b' => exact ⟨b', rfl⟩
      subst hb'
      obtain ⟨hQb, z, D, hown, hT, hS⟩ := HD5.out.yes b' rfl
      have HTM := Lib.hid hT
      have HSG := Lib.hid hS
      have HO := Lib.hid hown
      have HQB := Lib.hid hQb
      have HJL := Lib.hid hjl
      have c3 := block_cell (j := 3) HD5.out.blk (v := .map (some b')) rfl
      have hjj : j ≤ 1000000 := by have := (lt_nS (s := s) (by omega)).2 hjl; have := nS_le (s := s) (n := t.B.length) (by omega); have := HE.out; omega
      have htf : t.f ≤ 1000000 := by omega
      have wf : (Lit.int .i64 ((t.f + j : Nat) : Int)).wf = true := WalkArith.wf_i64 (by omega)
      clear hown hT hS hQb hcond hjl
      go_wp2_with (first | (at_delete; refine wpList_delete_b rfl _ _ rfl b' _ D rfl HO.out ((t.f + j : Nat) : Int) wf rfl ?_; intro w6 hm6 hc6) | fail)
      have HN := Lib.hid (Cm.step (by omega) HD5.out HTP.out.q HL.out HJL.out HQB.out HO.out HTM.out HSG.out hm6 hc6)
      go_wp2_with fail
      go_roundw
      case rel => exact ⟨j + 1, by go_num, Lib.hid (by have := HJL.out; have := (lt_nS (s := s) (by omega)).2 this; have := nS_le (s := s) (n := t.B.length) (by omega); omega), HN⟩
      case measure => simp [intOf]; have := HJJ.out; omega
    · have hlt' : decide ((P : Int) < (E : Int)) = false := decide_eq_false (by omega)
      have hlt2 : ¬ (P : Int) < (E : Int) := by omega
      have HNJ := Lib.hid fun h => hlt (hcond.2 h)
      go_wp2_with fail
      go_quiet (first
       | (go_at_call 113; exact Calls.quiet_of_same (hsg _)))
      have HD5 := Lib.hid (HD.out.later (below_drewN (Below.refl _ _) nq))
      clear c2 hsg HD m1 m2 hcond
      generalize wr.drewN nq = W5 at *
      have c2 := block_cell (j := 2) HD5.out.blk (v := .int .i64 (t.f * s + t.B.length : Nat)) rfl
      have f2 := block_free 2 HD5.out.blk
      have HBLK := Lib.hid HD5.out.blk
      go_wp2_with fail
      go_end0
      rw [HCT.out]
      refine ⟨rfl, ⟨HTP.out.seg, ?_, fun e => ?_, fun b e => (HD5.out.sm (by omega) e HL.out HNJ.out).put HBLK.out 2 _, HTP.out.q⟩, HD5.out.chg.trans (T := fun k => k = T) ((Chg.refl _ _).setCell _ _ fun _ => rfl) fun k _ e => by rw [e]; exact HTP.out.q⟩
      · have hput := block_put 2 (.int .i64 ((C : Nat) : Int)) HBLK.out
        have hx4 : t.f * s + (t.B.take l).length = C := by rw [List.length_take]; have := HC.out; have := HF.out; have := HL.out; omega
        show _ = some (Obj.cells #[.int .i64 a, .int .i64 (t.f * s : Nat), .int .i64 (t.f * s + (t.B.take l).length : Nat), .map _] _ _)
        rw [hx4]
        exact hput
      · obtain ⟨h1, h2⟩ := HTP.out.no e
        exact ⟨h1, by show t.B.take l = []; rw [h2]; simp⟩
end
theorem last_row {w : World} {Q : Nat → Prop} {z : Nat → Nat × Nat} {f s : Nat} {B : List Int} (hs : 0 < s) (hS : Seg w Q z f s B) : ∃ p0 c0, Value.slice p0 (sgD s B (B.length / s)).length c0 = svV (So z f s B ((f + B.length / s : Nat) : Int)) ∧ RowB w (.slice p0 (sgD s B (B.length / s)).length c0) (sgD s B (B.length / s)).length (sgD s B (B.length / s)) ∧
 ∀ k, (Value.slice p0 (sgD s B (B.length / s)).length c0).ownBlock = some k → B.length / s * s < B.length ∧ k = (z (f + B.length / s)).1 := by
 rw [So_at]
 by_cases h : B.length / s * s < B.length
 · rw [if_pos h]
   exact ⟨_, _, rfl, (hS.row _ h).2, fun k hk => by cases hk; exact ⟨h, rfl⟩⟩
 · rw [if_neg h]
   have e : sgD s B (B.length / s) = [] := List.eq_nil_of_length_eq_zero (by rw [sg_len]; omega)
   rw [e]
   exact ⟨none, 0, rfl, RowB.nil w, fun k hk => by cases hk⟩
theorem app_one {W : World} {T b f s : Nat} {Q : Nat → Prop} {B x : List Int} {cT : Array Value} {z : Nat → Nat × Nat} {D : DataW Sv} (hs : 0 < s) (hblk : W.heap[T]? = some (.cells cT 171 (0, 0))) (hQb : Q b)
 (hm : MapB W b (nSD s B.length) D) (hT : Tm D (So z f s B) (nSD s B.length)) (hS : Seg W Q z f s B) (hx0 : 0 < x.length) (hx : x.length ≤ s - B.length % s) {p0 : Option Addr} {n0 c0 : Nat} (hn0 : n0 = (sgD s B (B.length / s)).length)
 (hv : Value.slice p0 n0 c0 = svV (So z f s B ((f + B.length / s : Nat) : Int))) (ho : ∀ k, (Value.slice p0 n0 c0).ownBlock = some k → B.length / s * s < B.length ∧ k = (z (f + B.length / s)).1)
 (p' : Option Addr) (c' : Nat) (w1 : World) (h1 : RowB w1 (.slice p' (n0 + x.length) c') (n0 + x.length) (sgD s B (B.length / s) ++ x)) (h2 : Chg (fun k => (Value.slice p0 n0 c0).ownBlock = some k) W.drew w1)
 (h3 : ∀ k, (Value.slice p' (n0 + x.length) c').ownBlock = some k → (Value.slice p0 n0 c0).ownBlock = some k ∨ W.drew.heap.size ≤ k) :
 w1.heap[T]? = some (.cells cT 171 (0, 0)) ∧ MapB w1 b (nSD s B.length) D ∧
 ∀ w2, MapB w2 b (nSD s B.length + 1) (D.put (kLD ((f + B.length / s : Nat) : Int)) (.held (p', n0 + x.length, c'))) → Chg (fun k => k = b) w1 w2 → w2.heap[T]? = some (.cells cT 171 (0, 0)) ∧ Sm w2 (fun k => Q k ∨ W.heap.size ≤ k) b f s (B ++ x) ∧ Chg Q W w2 := by
 have h2' : Chg (fun k => (Value.slice p0 n0 c0).ownBlock = some k) W w1 := h2.undrew (q := 1)
 have hne : ∀ k, (Value.slice p0 n0 c0).ownBlock = some k → k ≠ T ∧ k ≠ b ∧ Q k := by
  intro k hk
  obtain ⟨e1, e2⟩ := ho k hk
  refine ⟨fun e => ?_, e2 ▸ hS.ne_map hm _ e1, e2 ▸ (hS.row _ e1).1⟩
  rcases (hS.row _ e1).2.own.2 with ⟨h5, _⟩ | ⟨g5, c5, cur5, h5, _, h6, _⟩
  · cases h5
  · cases h5
    rw [← e2, e, hblk] at h6
    cases h6
 obtain ⟨g, rfl⟩ : ∃ g, p' = some ⟨g, 0, none⟩ := by
  obtain ⟨p2, c2, he, _, _, hg⟩ := h1.sl
  cases he
  exact hg (by omega)
 have hb1 : w1.heap[T]? = some (.cells cT 171 (0, 0)) := (h2'.block T (block_lt hblk) (fun e => (hne T e).1 rfl)).trans hblk
 refine ⟨hb1, hm.turn h2' (fun e => (hne b e).2.1 rfl), fun w2 hm2 hc2 => ?_⟩
 have hTb : ¬ T = b := hm.ne hblk
 have hsg : sgD s (B ++ x) (B.length / s) = sgD s B (B.length / s) ++ x := sg_app_same hs B x hx
 refine ⟨(hc2.block T (block_lt hb1) hTb).trans hb1, Sm.grown (v := .slice p0 n0 c0) hs hQb hm hT hS hx0 hx hv (n := n0 + x.length) ?_ (by rw [hsg]; exact h1) h2' (h3 g rfl) _ hm2 hc2, ?_⟩
 · rw [hsg, List.length_append, hn0]
 · exact (h2'.mono fun k _ e => (hne k e).2.2).trans hc2 fun k _ e => by rw [e]; exact hQb
theorem wf_nat (n : Nat) (h : n ≤ 1000000) : (Lit.int .i64 (n : Int)).wf = true := WalkArith.wf_i64 (by omega)
theorem map_nil_in (d : Nat) (q : Option Nat) (w : World) : (Op.equalIn (d + 1) 169 (.map q) (.map none)).run Tryz.prog w = .ok q.isNone w := by
 cases q <;> simp [Op.equalIn, run_underlying Tryz.underlying169]
theorem map_nil (q : Option Nat) (w : World) : (binOp .eql 169 (.map q) (.map none)).run Tryz.prog w = .ok (.bool q.isNone) w := by
 simp only [binOp]
 simp [show Op.equal 169 (.map q) (.map none) = Op.equalIn (9999 + 1) 169 (.map q) (.map none) from rfl, map_nil_in 9999 q w]
def lenV : Value → Nat
 | .slice _ n _ => n
 | _ => 0
theorem Tp.made {w : World} {T : Nat} {Q : Nat → Prop} {a : Int} {s : Nat} {t : TS} (h : Tp w T none Q a s t) : Tp ((w.alloc (.map #[] 0)).setCell ⟨T, 3, none⟩ (.map (some w.heap.size))) T (some w.heap.size) (fun k => Q k ∨ w.heap.size ≤ k) a s t ∧ Chg Q w ((w.alloc (.map #[] 0)).setCell ⟨T, 3, none⟩ (.map (some w.heap.size))) := by
 have hb1 : Below w.heap.size w (w.alloc (.map #[] 0)) := (Below.refl _ _).alloc (Nat.le_refl _) _
 have hT := block_later h.blk hb1
 have hlt := block_lt h.blk
 obtain ⟨h1, h2⟩ := h.no rfl
 have hc : Chg (fun k => k = T) (w.alloc (.map #[] 0)) ((w.alloc (.map #[] 0)).setCell ⟨T, 3, none⟩ (.map (some w.heap.size))) := (Chg.refl _ _).setCell _ _ fun _ => rfl
 have hn0 : nSD s 0 = 0 := nS_eq (by have := h.s_in; omega) (by omega) (fun i hi => by omega)
 refine ⟨⟨h.seg, block_put 3 _ hT, fun e => (by cases e), fun b e => ?_, .inl h.q⟩, (Chg.of_below hb1).trans hc fun k _ e => by rw [e]; exact h.q⟩
 cases e
 rw [h1, h2]
 refine ⟨.inr (Nat.le_refl _), fun _ => (0, 0), .map [], ?_, ?_, Seg.zero _ _ _ _ _⟩
 · have := (World.ownsMap_made (H := Sv) w Tryz.prog 2 heldElem).setCell (a := ⟨T, 3, none⟩) (by show w.heap.size ≠ T; omega) (.map (some w.heap.size))
   rw [List.length_nil, hn0]
   exact this
 · rw [List.length_nil, hn0]
   exact Tm.empty.congr (fun y => by unfold So; rw [if_neg (by simp)]) rfl
section
variable {w : World} {T : Nat} {mb : Option Nat} {Q : Nat → Prop} {a : Int} {s : Nat} {t : TS}
set_option maxHeartbeats 2000000 in
set_option maxRecDepth 100000 in
theorem tape_add (h : Tp w T mb Q a s t) (p : Option Addr) (m c : Nat) (b : List Int) (hb : BL w p m c b) (hap : 0 < m → ∀ a, p = some a → ¬ Q a.block) (hbig : t.f * s + t.B.length + m ≤ 1000000) :
 Calls Tryz.prog 68 #[.pointer (some ⟨T, 0, none⟩), .slice p m c] w fun e w' => e = .returned (.tuple #[]) ∧ (∃ mb', Tp w' T mb' (fun k => Q k ∨ w.heap.size ≤ k) a s (appT t b)) ∧ Chg Q w w' := by
 have hs := h.s_in
 have HB : Hid (b.length = m) := Lib.hid hb.len
 have HSEG := Lib.hid h.seg
 have HBIG := Lib.hid hbig
 have hap2 : 0 < m → ∀ a, p = some a → ¬ (Q a.block ∨ w.heap.size ≤ a.block) := fun h0 ad ha => by
  obtain ⟨b0, off, he, hlt, _⟩ := BL.at hb h0
  rw [he] at ha
  cases ha
  rintro (e | e)
  · exact hap h0 _ he e
  · have : w.heap.size ≤ b0 := e
    omega
 have HAP := Lib.hid hap2
 have HLO := Lib.hid (Nat.le_refl w.heap.size)
 clear hap hap2 hbig
 cases mb with
 | some mb =>
  have HTP : Hid (Tp w T (some mb) (fun k => Q k ∨ w.heap.size ≤ k) a s t) := Lib.hid (h.mono fun k hk _ => .inl hk)
  have HCH := Lib.hid (Chg.refl Q w)
  have HBL := Lib.hid hb
  have c3 := h.cells.2.2.2
  have hq := map_nil (some mb)
  clear h hb
  go_enter Tryz.func68, Tryz.ntmps68
  go_wp2_with fail
  clear c3 hq
  obtain ⟨W1, hW1⟩ : ∃ W1, W1 = w := ⟨_, rfl⟩
  have HTP1 : Hid (Tp W1 T (some mb) (fun k => Q k ∨ w.heap.size ≤ k) a s t) := by rw [hW1]; exact HTP
  have HCH1 : Hid (Chg Q w W1) := by rw [hW1]; exact HCH
  have HBL1 : Hid (BL W1 p m c b) := by rw [hW1]; exact HBL
  rw [← hW1]
  clear hW1 HTP HCH HBL
  go_loopw [1] (fun bv wr => ∃ (j : Nat) (pj : Option Addr) (cj : Nat), j ≤ m ∧ bv = .slice pj (m - j) cj ∧ Hid (BL wr pj (m - j) cj (b.drop j)) ∧ Hid (0 < m - j → ∀ a, pj = some a → ¬ (Q a.block ∨ w.heap.size ≤ a.block)) ∧ Hid (Tp wr T (some mb) (fun k => Q k ∨ w.heap.size ≤ k) a s ⟨t.f, t.B ++ b.take j⟩) ∧ Hid (Chg Q w wr)) (fun bv _ => lenV bv)
  case atStart => exact ⟨0, p, c, Nat.zero_le _, rfl, HBL1, HAP, by simpa using HTP1, HCH1⟩
  case round =>
   obtain ⟨j, pj, cj, hj, rfl, HBJ, HAJ, HTJ, HCJ⟩ := hrel
   have HJ := Lib.hid hj
   obtain ⟨k, hk⟩ : ∃ k, m - j = k := ⟨_, rfl⟩
   rw [hk] at HBJ HAJ ⊢
   have HK := Lib.hid hk
   clear hk hj
   by_cases hk0 : 0 < k
   · have hk0' : (0 : Int) < (k : Int) := by omega
     obtain ⟨pb, po, rfl, _, _⟩ := HBJ.out.at hk0
     have hlj : (t.B ++ b.take j).length + k = t.B.length + m := by
      rw [List.length_append, List.length_take]
      have := HB.out; have := HK.out; have := HJ.out
      omega
     have HBX : Hid (t.B ++ b.take j ++ (b.drop j).take (min (s - (t.B ++ b.take j).length % s) k) = t.B ++ b.take (j + min (s - (t.B ++ b.take j).length % s) k)) := Lib.hid (by rw [List.append_assoc, ← List.take_add])
     have HDX : Hid (∀ n, (b.drop j).drop n = b.drop (j + n)) := Lib.hid fun n => List.drop_drop
     generalize t.B ++ b.take j = B at *
     generalize b.drop j = L at *
     obtain ⟨i1, i2⟩ := idx_div (by omega : 0 < s) t.f B.length
     have hmod := Nat.mod_lt B.length (by omega : 0 < s)
     have hcap := HBJ.out.cap
     have hmax : cj ≤ 9223372036854775807 := by have := HBJ.out.max; unfold maxLen at this; omega
     have hE2 : t.f * s + B.length ≤ 1000000 := by have := HBIG.out; omega
     have hdb := Nat.div_le_self B.length s
     have hfs : t.f ≤ t.f * s := Nat.le_mul_of_pos_right _ (by omega)
     have HTWO : Hid (t.f * s + B.length + k ≤ 1000000) := Lib.hid (by have := HBIG.out; omega)
     obtain ⟨c1, c2, c3, hsg⟩ := HTJ.out.at rfl rfl
     clear c1 c3
     have hlk : t.f + B.length / s ≤ 1000000 := by omega
     have q0 : ((s : Int) == 0) = false := by simp; omega
     have q1 : ¬ s = 0 := by omega
     dsimp only at c2
     generalize hyy : B.length / s = y at *
     generalize hrr : B.length % s = r at *
     generalize hEE : t.f * s + B.length = E at *
     have d1 : (E : Int).tdiv (s : Int) = ((t.f + y : Nat) : Int) := by rw [← i1]; rfl
     have d2 : (E : Int).tmod (s : Int) = (r : Int) := by rw [← i2]; rfl
     have d3 : IntKind.i64.wrap ((t.f + y : Nat) : Int) = ((t.f + y : Nat) : Int) := IntWalk.i64_in _ (by omega)
     have d4 : IntKind.i64.wrap (r : Int) = (r : Int) := IntWalk.i64_in _ (by omega)
     have d5 : IntKind.i64.wrap ((s : Int) - (r : Int)) = ((s : Int) - (r : Int)) := IntWalk.i64_in _ (by omega)
     have hnpos : 0 < min (s - r) k := by omega
     have hnk : min (s - r) k ≤ k := by omega
     have hnr : min (s - r) k ≤ s - r := by omega
     have n1 : min ((s : Int) - (r : Int)) (k : Int) = ((min (s - r) k : Nat) : Int) := by omega
     have n2 : (if (k : Int) < (s : Int) - (r : Int) then (k : Int) else (s : Int) - (r : Int)) = ((min (s - r) k : Nat) : Int) := by split <;> omega
     generalize hnn : min (s - r) k = n at *
     have hnc : n ≤ cj := by omega
     have HYY := Lib.hid hyy
     have HRR := Lib.hid hrr
     have HEE := Lib.hid hEE
     clear i1 i2 hyy hrr hEE hnn hdb hfs
     go_wp2_with fail
     go_quiet (first
      | (go_at_call 113; exact Calls.quiet_of_same (hsg _)))
     have HT2 := Lib.hid (HTJ.out.drewN nq)
     have HB2 := Lib.hid (SlG.later HBJ.out (below_drewN (Below.refl _ _) nq))
     have HC2 := Lib.hid (HCJ.out.drewN nq)
     clear HTJ HBJ HCJ c2 hsg d1 d2 d3 d4 d5
     generalize wr.drewN nq = W2 at *
     obtain ⟨hQb, z, D, hown, hT, hS⟩ := HT2.out.yes mb rfl
     dsimp only at hown hT hS
     have hblk := HT2.out.blk
     dsimp only at hblk
     obtain ⟨p0, c0, hv, hrow, hown0⟩ := last_row (by omega) hS
     have hlx : (L.take n).length = n := by rw [List.length_take, HB2.out.len]; omega
     have hone := fun (p' : Option Addr) (c' : Nat) (w1 : World) => app_one (x := L.take n) (by omega) hblk hQb hown hT hS (by omega) (by rw [HRR.out]; omega) rfl hv hown0 p' c' w1
     rw [hlx] at hone
     have wf : (Lit.int .i64 ((t.f + y : Nat) : Int)).wf = true := wf_nat _ hlk
     have hlook := look_at (w := W2.drew) (MapB.turn hown ((Chg.refl (fun _ => False) _).drewN 1) (fun h => h)) hT wf
     rw [HYY.out] at hv hrow hone
     rw [← hv, Int.natCast_add] at hlook
     have hnb : (sgD s B y).length + n ≤ 1000000 := by
      rw [sg_len]
      have := HTWO.out
      omega
     have HNS := Lib.hid (show nSD s B.length ≤ 1000000 from Nat.le_trans (nS_le (by omega)) (by have := HEE.out; omega))
     have HO := Lib.hid (MapB.turn hown ((Chg.refl (fun _ => False) W2).drewN 1) (fun h => h))
     have HONE := Lib.hid hone
     have HROW := Lib.hid (hrow.later (Below.refl _ _).drew)
     have HBT : Hid (BL W2.drew (some ⟨pb, po, none⟩) n cj (L.take n)) := Lib.hid (SlG.later (SlG.take HB2.out n hnk) (Below.refl _ _).drew)
     have HWF := Lib.hid wf
     have c3 : W2.drew.cell? ⟨T, 3, none⟩ = some (.map (some mb)) := HT2.out.cells.2.2.2
     clear hown hT hS hv hrow hown0 hone hlx hblk wf
     generalize (sgD s B y).length = n0 at *
     go_wp2_with fail
     go_region_law (first
      | (refine step_append_rb rfl (.tmp 52) (.tmp 55) rfl (.slice p0 n0 c0) n0 (sgD s B y) (by simp [Act.eval]) HROW.out (some ⟨pb, po, none⟩) n cj (L.take n) (by simp [Act.eval]) HBT.out hnb ?_; intro p' c' w1 hr1 hc1 hl1 _; obtain ⟨hT1, hM1, hS1⟩ := HONE.out p' c' w1 hr1 hc1 hl1; have e3 := block_cell (j := 3) hT1 (v := .map (some mb)) rfl; obtain ⟨w2, hrun2, hm2, hc2⟩ := upd_at hM1 HNS.out HWF.out p' (n0 + n) c'; rw [Int.natCast_add] at hrun2; have hF := Lib.hid (hS1 w2 hm2 hc2); clear hS1 hm2 hc2 hM1 hT1 hr1 hc1 hl1))
     all_goals
      obtain ⟨hT3, hS3, hC3⟩ := hF.out
      have HT3 := Lib.hid hT3
      have HS3 := Lib.hid hS3
      have HC3 := Lib.hid hC3
      have x2 := block_cell (j := 2) hT3 (v := .int .i64 (t.f * s + B.length : Nat)) rfl
      rw [HEE.out] at x2
      have g2 := block_free 2 hT3
      obtain ⟨E2, hE2⟩ : ∃ E2, E + n = E2 := ⟨_, rfl⟩
      have HE2 := Lib.hid hE2
      have hE2b : E2 ≤ 1000000 := by have := HTWO.out; have := HEE.out; omega
      have HBN : Hid (∀ v q, (n < k → q = some ⟨pb, po + n, none⟩) → (q = none → cj = n) → BL (w2.setCell ⟨T, 2, none⟩ v) q (k - n) (cj - n) (b.drop (j + n))) := Lib.hid fun v q h1 h2 => by
       have hb2 : BL w2 (some ⟨pb, po, none⟩) k cj L := BL.keep HB2.out HC3.out fun h0 ad ha hq => HAJ.out hk0 ad ha hq
       have hcT : Chg (fun k => k = T) w2 (w2.setCell ⟨T, 2, none⟩ v) := (Chg.refl _ _).setCell _ _ fun _ => rfl
       have hb3 : BL (w2.setCell ⟨T, 2, none⟩ v) (some ⟨pb, po, none⟩) k cj L := BL.keep hb2 hcT fun h0 ad ha hq => HAJ.out hk0 ad ha (by rw [show ad.block = T from hq]; exact HT2.out.q)
       rw [← HDX.out]
       exact BL.drop hb3 n hnk q (fun h0 b' off' he => by cases he; exact h1 h0) h2
      have HTN : Hid (Tp (w2.setCell ⟨T, 2, none⟩ (.int .i64 ((E2 : Nat) : Int))) T (some mb) (fun k => Q k ∨ w.heap.size ≤ k) a s ⟨t.f, t.B ++ b.take (j + n)⟩) := Lib.hid ⟨HSEG.out, by
       have hp := block_put 2 (.int .i64 ((E2 : Nat) : Int)) HT3.out
       have hl : t.f * s + (t.B ++ b.take (j + n)).length = E2 := by
        rw [← HBX.out, List.length_append, List.length_take, HB2.out.len]
        have := HEE.out
        have := HE2.out
        omega
       rw [hl]
       exact hp, fun e => (by cases e), fun b' e => by
       cases e
       have h1 := HS3.out.put HT3.out 2 (.int .i64 ((E2 : Nat) : Int))
       rw [HBX.out] at h1
       exact h1.mono fun k hk _ => by
        rcases hk with hk | hk
        · exact hk
        · have := HC2.out.size
          exact .inr (by omega), HT2.out.q⟩
      have HCN : Hid (Chg Q w (w2.setCell ⟨T, 2, none⟩ (.int .i64 ((E2 : Nat) : Int)))) := Lib.hid (HC2.out.trans (HC3.out.trans (T := fun k => k = T) ((Chg.refl _ _).setCell _ _ fun _ => rfl) fun k _ e => by rw [e]; exact HT2.out.q) fun k hk hq => by
       rcases hq with hq | hq
       · exact hq
       · omega)
      have hen : (E : Int) + (n : Int) = (E2 : Int) := by omega
      have HAN : Hid (∀ q, (n < k → q = some (⟨pb, po + n, none⟩ : Addr)) → 0 < k - n → ∀ a, q = some a → ¬ (Q a.block ∨ w.heap.size ≤ a.block)) := Lib.hid fun q h1 h2 ad ha => by
       have := h1 (by omega)
       rw [this] at ha
       cases ha
       exact HAJ.out hk0 ⟨pb, po, none⟩ rfl
      have hkn : m - (j + n) = k - n := by have := HK.out; omega
      have hjn : j + n ≤ m := by have := HK.out; have := HJ.out; omega
      clear hT3 hS3 hC3 hE2 hF hrun2 e3 c3 hlook HT2 HB2 HC2 HAJ HROW HBT HONE HO
      go_wp2_with fail
      have hq1 : n < k → (if cj = n then some (⟨pb, po, none⟩ : Addr) else some ⟨pb, po + n, none⟩) = some ⟨pb, po + n, none⟩ := fun h => if_neg (by omega)
      refine ⟨⟨j + n, _, cj - n, hjn, by rw [hkn], ?_, ?_, HTN, HCN⟩, ?_⟩
      · rw [hkn]
        exact Lib.hid (HBN.out _ _ hq1 fun e => by split at e <;> cases e)
      · rw [hkn]
        exact Lib.hid (HAN.out _ hq1)
      · show k - n < k
        omega
   · obtain rfl : k = 0 := by omega
     go_wp2_with fail
     go_end0
     have e : j = m := by have := HK.out; have := HJ.out; omega
     subst e
     refine ⟨rfl, ⟨some mb, ?_⟩, HCJ.out⟩
     have h1 := HTJ.out
     rw [List.take_of_length_le (by rw [HB.out]; exact Nat.le_refl _)] at h1
     exact h1
 | none =>
  obtain ⟨htp, hch⟩ := h.made
  have hbl1 : BL ((w.alloc (.map #[] 0)).setCell ⟨T, 3, none⟩ (.map (some w.heap.size))) p m c b := BL.keep hb hch fun h0 ad ha hq => HAP.out h0 ad ha (.inl hq)
  have HTP1 := Lib.hid htp
  have HCH1 := Lib.hid hch
  have HBL1 := Lib.hid hbl1
  have c3 := h.cells.2.2.2
  have d3 := block_cell (j := 3) (block_later h.blk ((Below.refl _ _).alloc (Nat.le_refl _) (.map #[] 0))) (v := .map none) rfl
  have f3 := block_free 3 (block_later h.blk ((Below.refl _ _).alloc (Nat.le_refl _) (.map #[] 0)))
  have hq := map_nil none
  have hmm := @run_makeMap Tryz.prog
  clear h hb htp hch hbl1
  go_enter Tryz.func68, Tryz.ntmps68
  go_wp2_with fail
  clear c3 d3 f3 hq hmm
  generalize (w.alloc (.map #[] 0)).setCell ⟨T, 3, none⟩ (.map (some w.heap.size)) = W1 at *
  obtain ⟨mb, HTP1⟩ : ∃ mb, Hid (Tp W1 T (some mb) (fun k => Q k ∨ w.heap.size ≤ k) a s t) := ⟨_, HTP1⟩
  go_loopw [1] (fun bv wr => ∃ (j : Nat) (pj : Option Addr) (cj : Nat), j ≤ m ∧ bv = .slice pj (m - j) cj ∧ Hid (BL wr pj (m - j) cj (b.drop j)) ∧ Hid (0 < m - j → ∀ a, pj = some a → ¬ (Q a.block ∨ w.heap.size ≤ a.block)) ∧ Hid (Tp wr T (some mb) (fun k => Q k ∨ w.heap.size ≤ k) a s ⟨t.f, t.B ++ b.take j⟩) ∧ Hid (Chg Q w wr)) (fun bv _ => lenV bv)
  case atStart => exact ⟨0, p, c, Nat.zero_le _, rfl, HBL1, HAP, by simpa using HTP1, HCH1⟩
  case round =>
   obtain ⟨j, pj, cj, hj, rfl, HBJ, HAJ, HTJ, HCJ⟩ := hrel
   have HJ := Lib.hid hj
   obtain ⟨k, hk⟩ : ∃ k, m - j = k := ⟨_, rfl⟩
   rw [hk] at HBJ HAJ ⊢
   have HK := Lib.hid hk
   clear hk hj
   by_cases hk0 : 0 < k
   · have hk0' : (0 : Int) < (k : Int) := by omega
     obtain ⟨pb, po, rfl, _, _⟩ := HBJ.out.at hk0
     have hlj : (t.B ++ b.take j).length + k = t.B.length + m := by
      rw [List.length_append, List.length_take]
      have := HB.out; have := HK.out; have := HJ.out
      omega
     have HBX : Hid (t.B ++ b.take j ++ (b.drop j).take (min (s - (t.B ++ b.take j).length % s) k) = t.B ++ b.take (j + min (s - (t.B ++ b.take j).length % s) k)) := Lib.hid (by rw [List.append_assoc, ← List.take_add])
     have HDX : Hid (∀ n, (b.drop j).drop n = b.drop (j + n)) := Lib.hid fun n => List.drop_drop
     generalize t.B ++ b.take j = B at *
     generalize b.drop j = L at *
     obtain ⟨i1, i2⟩ := idx_div (by omega : 0 < s) t.f B.length
     have hmod := Nat.mod_lt B.length (by omega : 0 < s)
     have hcap := HBJ.out.cap
     have hmax : cj ≤ 9223372036854775807 := by have := HBJ.out.max; unfold maxLen at this; omega
     have hE2 : t.f * s + B.length ≤ 1000000 := by have := HBIG.out; omega
     have hdb := Nat.div_le_self B.length s
     have hfs : t.f ≤ t.f * s := Nat.le_mul_of_pos_right _ (by omega)
     have HTWO : Hid (t.f * s + B.length + k ≤ 1000000) := Lib.hid (by have := HBIG.out; omega)
     obtain ⟨c1, c2, c3, hsg⟩ := HTJ.out.at rfl rfl
     clear c1 c3
     have hlk : t.f + B.length / s ≤ 1000000 := by omega
     have q0 : ((s : Int) == 0) = false := by simp; omega
     have q1 : ¬ s = 0 := by omega
     dsimp only at c2
     generalize hyy : B.length / s = y at *
     generalize hrr : B.length % s = r at *
     generalize hEE : t.f * s + B.length = E at *
     have d1 : (E : Int).tdiv (s : Int) = ((t.f + y : Nat) : Int) := by rw [← i1]; rfl
     have d2 : (E : Int).tmod (s : Int) = (r : Int) := by rw [← i2]; rfl
     have d3 : IntKind.i64.wrap ((t.f + y : Nat) : Int) = ((t.f + y : Nat) : Int) := IntWalk.i64_in _ (by omega)
     have d4 : IntKind.i64.wrap (r : Int) = (r : Int) := IntWalk.i64_in _ (by omega)
     have d5 : IntKind.i64.wrap ((s : Int) - (r : Int)) = ((s : Int) - (r : Int)) := IntWalk.i64_in _ (by omega)
     have hnpos : 0 < min (s - r) k := by omega
     have hnk : min (s - r) k ≤ k := by omega
     have hnr : min (s - r) k ≤ s - r := by omega
     have n1 : min ((s : Int) - (r : Int)) (k : Int) = ((min (s - r) k : Nat) : Int) := by omega
     have n2 : (if (k : Int) < (s : Int) - (r : Int) then (k : Int) else (s : Int) - (r : Int)) = ((min (s - r) k : Nat) : Int) := by split <;> omega
     generalize hnn : min (s - r) k = n at *
     have hnc : n ≤ cj := by omega
     have HYY := Lib.hid hyy
     have HRR := Lib.hid hrr
     have HEE := Lib.hid hEE
     clear i1 i2 hyy hrr hEE hnn hdb hfs
     go_wp2_with fail
     go_quiet (first
      | (go_at_call 113; exact Calls.quiet_of_same (hsg _)))
     have HT2 := Lib.hid (HTJ.out.drewN nq)
     have HB2 := Lib.hid (SlG.later HBJ.out (below_drewN (Below.refl _ _) nq))
     have HC2 := Lib.hid (HCJ.out.drewN nq)
     clear HTJ HBJ HCJ c2 hsg d1 d2 d3 d4 d5
     generalize wr.drewN nq = W2 at *
     obtain ⟨hQb, z, D, hown, hT, hS⟩ := HT2.out.yes mb rfl
     dsimp only at hown hT hS
     have hblk := HT2.out.blk
     dsimp only at hblk
     obtain ⟨p0, c0, hv, hrow, hown0⟩ := last_row (by omega) hS
     have hlx : (L.take n).length = n := by rw [List.length_take, HB2.out.len]; omega
     have hone := fun (p' : Option Addr) (c' : Nat) (w1 : World) => app_one (x := L.take n) (by omega) hblk hQb hown hT hS (by omega) (by rw [HRR.out]; omega) rfl hv hown0 p' c' w1
     rw [hlx] at hone
     have wf : (Lit.int .i64 ((t.f + y : Nat) : Int)).wf = true := wf_nat _ hlk
     have hlook := look_at (w := W2.drew) (MapB.turn hown ((Chg.refl (fun _ => False) _).drewN 1) (fun h => h)) hT wf
     rw [HYY.out] at hv hrow hone
     rw [← hv, Int.natCast_add] at hlook
     have hnb : (sgD s B y).length + n ≤ 1000000 := by
      rw [sg_len]
      have := HTWO.out
      omega
     have HNS := Lib.hid (show nSD s B.length ≤ 1000000 from Nat.le_trans (nS_le (by omega)) (by have := HEE.out; omega))
     have HO := Lib.hid (MapB.turn hown ((Chg.refl (fun _ => False) W2).drewN 1) (fun h => h))
     have HONE := Lib.hid hone
     have HROW := Lib.hid (hrow.later (Below.refl _ _).drew)
     have HBT : Hid (BL W2.drew (some ⟨pb, po, none⟩) n cj (L.take n)) := Lib.hid (SlG.later (SlG.take HB2.out n hnk) (Below.refl _ _).drew)
     have HWF := Lib.hid wf
     have c3 : W2.drew.cell? ⟨T, 3, none⟩ = some (.map (some mb)) := HT2.out.cells.2.2.2
     clear hown hT hS hv hrow hown0 hone hlx hblk wf
     generalize (sgD s B y).length = n0 at *
     go_wp2_with fail
     go_region_law (first
      | (refine step_append_rb rfl (.tmp 52) (.tmp 55) rfl (.slice p0 n0 c0) n0 (sgD s B y) (by simp [Act.eval]) HROW.out (some ⟨pb, po, none⟩) n cj (L.take n) (by simp [Act.eval]) HBT.out hnb ?_; intro p' c' w1 hr1 hc1 hl1 _; obtain ⟨hT1, hM1, hS1⟩ := HONE.out p' c' w1 hr1 hc1 hl1; have e3 := block_cell (j := 3) hT1 (v := .map (some mb)) rfl; obtain ⟨w2, hrun2, hm2, hc2⟩ := upd_at hM1 HNS.out HWF.out p' (n0 + n) c'; rw [Int.natCast_add] at hrun2; have hF := Lib.hid (hS1 w2 hm2 hc2); clear hS1 hm2 hc2 hM1 hT1 hr1 hc1 hl1))
     all_goals
      obtain ⟨hT3, hS3, hC3⟩ := hF.out
      have HT3 := Lib.hid hT3
      have HS3 := Lib.hid hS3
      have HC3 := Lib.hid hC3
      have x2 := block_cell (j := 2) hT3 (v := .int .i64 (t.f * s + B.length : Nat)) rfl
      rw [HEE.out] at x2
      have g2 := block_free 2 hT3
      obtain ⟨E2, hE2⟩ : ∃ E2, E + n = E2 := ⟨_, rfl⟩
      have HE2 := Lib.hid hE2
      have hE2b : E2 ≤ 1000000 := by have := HTWO.out; have := HEE.out; omega
      have HBN : Hid (∀ v q, (n < k → q = some ⟨pb, po + n, none⟩) → (q = none → cj = n) → BL (w2.setCell ⟨T, 2, none⟩ v) q (k - n) (cj - n) (b.drop (j + n))) := Lib.hid fun v q h1 h2 => by
       have hb2 : BL w2 (some ⟨pb, po, none⟩) k cj L := BL.keep HB2.out HC3.out fun h0 ad ha hq => HAJ.out hk0 ad ha hq
       have hcT : Chg (fun k => k = T) w2 (w2.setCell ⟨T, 2, none⟩ v) := (Chg.refl _ _).setCell _ _ fun _ => rfl
       have hb3 : BL (w2.setCell ⟨T, 2, none⟩ v) (some ⟨pb, po, none⟩) k cj L := BL.keep hb2 hcT fun h0 ad ha hq => HAJ.out hk0 ad ha (by rw [show ad.block = T from hq]; exact HT2.out.q)
       rw [← HDX.out]
       exact BL.drop hb3 n hnk q (fun h0 b' off' he => by cases he; exact h1 h0) h2
      have HTN : Hid (Tp (w2.setCell ⟨T, 2, none⟩ (.int .i64 ((E2 : Nat) : Int))) T (some mb) (fun k => Q k ∨ w.heap.size ≤ k) a s ⟨t.f, t.B ++ b.take (j + n)⟩) := Lib.hid ⟨HSEG.out, by
       have hp := block_put 2 (.int .i64 ((E2 : Nat) : Int)) HT3.out
       have hl : t.f * s + (t.B ++ b.take (j + n)).length = E2 := by
        rw [← HBX.out, List.length_append, List.length_take, HB2.out.len]
        have := HEE.out
        have := HE2.out
        omega
       rw [hl]
       exact hp, fun e => (by cases e), fun b' e => by
       cases e
       have h1 := HS3.out.put HT3.out 2 (.int .i64 ((E2 : Nat) : Int))
       rw [HBX.out] at h1
       exact h1.mono fun k hk _ => by
        rcases hk with hk | hk
        · exact hk
        · have := HC2.out.size
          exact .inr (by omega), HT2.out.q⟩
      have HCN : Hid (Chg Q w (w2.setCell ⟨T, 2, none⟩ (.int .i64 ((E2 : Nat) : Int)))) := Lib.hid (HC2.out.trans (HC3.out.trans (T := fun k => k = T) ((Chg.refl _ _).setCell _ _ fun _ => rfl) fun k _ e => by rw [e]; exact HT2.out.q) fun k hk hq => by
       rcases hq with hq | hq
       · exact hq
       · omega)
      have hen : (E : Int) + (n : Int) = (E2 : Int) := by omega
      have HAN : Hid (∀ q, (n < k → q = some (⟨pb, po + n, none⟩ : Addr)) → 0 < k - n → ∀ a, q = some a → ¬ (Q a.block ∨ w.heap.size ≤ a.block)) := Lib.hid fun q h1 h2 ad ha => by
       have := h1 (by omega)
       rw [this] at ha
       cases ha
       exact HAJ.out hk0 ⟨pb, po, none⟩ rfl
      have hkn : m - (j + n) = k - n := by have := HK.out; omega
      have hjn : j + n ≤ m := by have := HK.out; have := HJ.out; omega
      clear hT3 hS3 hC3 hE2 hF hrun2 e3 c3 hlook HT2 HB2 HC2 HAJ HROW HBT HONE HO
      go_wp2_with fail
      have hq1 : n < k → (if cj = n then some (⟨pb, po, none⟩ : Addr) else some ⟨pb, po + n, none⟩) = some ⟨pb, po + n, none⟩ := fun h => if_neg (by omega)
      refine ⟨⟨j + n, _, cj - n, hjn, by rw [hkn], ?_, ?_, HTN, HCN⟩, ?_⟩
      · rw [hkn]
        exact Lib.hid (HBN.out _ _ hq1 fun e => by split at e <;> cases e)
      · rw [hkn]
        exact Lib.hid (HAN.out _ hq1)
      · show k - n < k
        omega
   · obtain rfl : k = 0 := by omega
     go_wp2_with fail
     go_end0
     have e : j = m := by have := HK.out; have := HJ.out; omega
     subst e
     refine ⟨rfl, ⟨some mb, ?_⟩, HCJ.out⟩
     have h1 := HTJ.out
     rw [List.take_of_length_le (by rw [HB.out]; exact Nat.le_refl _)] at h1
     exact h1
end
theorem made_room (n : Nat) (hn : n ≤ 5000000) (w : World) : (Instr.makeSlice 33 (.int .i64 0) (.int .i64 (n : Nat))).run Tryz.prog w = .ok (.slice (some ⟨w.heap.size, 0, none⟩) 0 n) (w.alloc (.cells (vB (List.replicate n 0)).toArray 5)) := by
 obtain ⟨i, hi, hz0, hz1, hz2⟩ := info_parts info_u8
 have hr := run_make (P := Tryz.prog) w 33 5 i _ Tryz.underlying33 hi hz0 .i64 .i64 0 (n : Nat) (by omega) (by omega) (by rw [hz2]; omega) (by omega)
 rw [hr, hz1, Int.toNat_natCast, Nat.mul_one]
 refine congrArg (fun c => Result.ok _ (w.alloc (.cells c 5))) ?_
 apply Array.ext
 · simp [size_madeCells, vB, cells_u8]
 · intro j h1 h2
   simp [madeCells, vB, cells_u8, Nat.mod_one]
def GivesBD (W : World) (L : List Int) (e : Ending) (w' : World) : Prop := ∃ p c, e = .returned (.slice p L.length c) ∧ BL w' p L.length c L ∧ Below W.heap.size W w' ∧ ∀ a, p = some a → W.heap.size ≤ a.block
theorem tape_bytes0 (x : Int) (w : World) : Calls Tryz.prog 77 #[.pointer none, .int .i64 x] w fun e w' => e = .returned (.slice none 0 0) ∧ w' = w := by
 have h1 := tape_first0 w
 have h2 := tape_end0 w
 obtain ⟨y, hy⟩ : ∃ y : Int, max x 0 = y := ⟨_, rfl⟩
 have hy2 : (if x < 0 then 0 else x) = y := by rw [← hy]; split <;> omega
 have hy0 : 0 ≤ y := by omega
 go_enter Tryz.func77, Tryz.ntmps77
 go_wp2_with fail
 refine h1.mono ?_
 rintro e w' ⟨rfl, rfl⟩
 go_wp2_with fail
 refine h2.mono ?_
 rintro e w' ⟨rfl, rfl⟩
 go_wp2_with fail
 go_ret
 exact ⟨rfl, rfl⟩
section
variable {w : World} {T : Nat} {mb : Option Nat} {Q : Nat → Prop} {a : Int} {s : Nat} {t : TS}
theorem bytes_none (h : Tp w T mb Q a s t) (x : Int) (hx : (t.f * s + t.B.length : Nat) ≤ max x (t.f * s : Nat)) : Calls Tryz.prog 77 #[.pointer (some ⟨T, 0, none⟩), .int .i64 x] w fun e w' => e = .returned (.slice none 0 0) ∧ w' = w := by
 have h1 := tape_first h
 have h2 := tape_end h
 clear h
 generalize t.f * s = F at *
 generalize F + t.B.length = E at *
 obtain ⟨y, hy⟩ : ∃ y : Int, max x F = y := ⟨_, rfl⟩
 have hy2 : (if x < F then (F : Int) else x) = y := by rw [← hy]; split <;> omega
 have hy0 : (E : Int) ≤ y := by omega
 clear hx
 go_enter Tryz.func77, Tryz.ntmps77
 go_wp2_with fail
 refine h1.mono ?_
 rintro e w' ⟨rfl, rfl⟩
 go_wp2_with fail
 refine h2.mono ?_
 rintro e w' ⟨rfl, rfl⟩
 go_wp2_with fail
 go_ret
 exact ⟨rfl, rfl⟩
def upTo (s : Nat) (B : List Int) (d i : Nat) : List Int := (B.take (i * s)).drop d
def skipAt (y r i : Nat) : Nat := if i = y then r else 0
theorem part_more {s : Nat} (hs : 0 < s) (B : List Int) (d i : Nat) (hd : d < B.length) (hi : i * s < B.length) (hi0 : d / s ≤ i) : skipAt (d / s) (d % s) i ≤ (sgD s B i).length ∧ upTo s B d i ++ (sgD s B i).drop (skipAt (d / s) (d % s) i) = upTo s B d (i + 1) := by
 unfold skipAt upTo
 have h1 : d / s * s + d % s = d := div_parts
 have h2 := Nat.mod_lt d hs
 rw [sg_len, Nat.add_mul, Nat.one_mul]
 by_cases e : i = d / s
 · subst e
   rw [if_pos rfl]
   refine ⟨by omega, ?_⟩
   have := part_step s B d (d / s) (by omega) (by omega)
   rwa [show d - d / s * s = d % s by omega] at this
 · rw [if_neg e, List.drop_zero]
   have h3 := mul_succ_le (s := s) (show d / s < i by omega)
   exact ⟨Nat.zero_le _, part_nextD s B d i (by omega) (by omega)⟩
set_option maxHeartbeats 2000000 in
set_option maxRecDepth 100000 in
theorem bytes_some (h : Tp w T mb Q a s t) (hbig : t.f * s + t.B.length ≤ 1000000) (x : Int) (d : Nat) (hx : max x (t.f * s : Nat) = ((t.f * s + d : Nat) : Int)) (hd : d < t.B.length) : Calls Tryz.prog 77 #[.pointer (some ⟨T, 0, none⟩), .int .i64 x] w (GivesBD w (t.B.drop d)) := by
 have hs := h.s_in
 have h1 := tape_first h
 have h2 := tape_end h
 have hsg := tape_seg h
 have HTP := Lib.hid h
 have c2 := h.cells.2.2.1
 obtain ⟨b, rfl⟩ : ∃ b, mb = some b := by
  cases mb with
  | none =>
   have := (h.no rfl).2
   rw [this] at hd
   simp at hd
  | some b => exact ⟨b, rfl⟩
 clear h
 obtain ⟨i1, i2⟩ := idx_div (by omega : 0 < s) t.f d
 have hmod := Nat.mod_lt d (by omega : 0 < s)
 have hdp : d / s * s + d % s = d := div_parts
 have hdle := Nat.div_le_self d s
 have HPART := Lib.hid fun i (hi : i * s < t.B.length) (hi0 : d / s ≤ i) => part_more (by omega) t.B d i hd hi hi0
 have hfs : t.f ≤ t.f * s := Nat.le_mul_of_pos_right _ (by omega)
 have HSTART : Hid (upTo s t.B d (d / s) = []) := Lib.hid (List.drop_eq_nil_of_le (by rw [List.length_take]; omega))
 obtain ⟨X, hX⟩ : ∃ X, t.f * s + d = X := ⟨_, rfl⟩
 rw [hX] at i1 i2 hx
 generalize hF : t.f * s = F at *
 generalize hE : F + t.B.length = E at *
 have HF := Lib.hid hF
 have HE := Lib.hid hE
 have HXX := Lib.hid hX
 generalize hy : d / s = y at *
 generalize hr : d % s = r at *
 have hx2 : (if x < (F : Int) then (F : Int) else x) = (X : Int) := by rw [← hx]; split <;> omega
 have hx3 : max (F : Int) x = (X : Int) := by omega
 have hXE : ¬ (E : Int) ≤ (X : Int) := by omega
 have q0 : ((s : Int) == 0) = false := by simp; omega
 have q1 : ¬ s = 0 := by omega
 have d1 : (X : Int).tdiv (s : Int) = ((t.f + y : Nat) : Int) := by rw [← i1]; rfl
 have d2 : (X : Int).tmod (s : Int) = (r : Int) := by rw [← i2]; rfl
 have d3 : IntKind.i64.wrap ((t.f + y : Nat) : Int) = ((t.f + y : Nat) : Int) := IntWalk.i64_in _ (by omega)
 have d4 : IntKind.i64.wrap (r : Int) = (r : Int) := IntWalk.i64_in _ (by omega)
 obtain ⟨cp, hcp⟩ : ∃ cp, E - X = cp := ⟨_, rfl⟩
 have hEX : (E : Int) - (X : Int) = (cp : Int) := by omega
 have hmk := made_room cp (by omega) w
 have hb1 : Below w.heap.size w (w.alloc (.cells (vB (List.replicate cp 0)).toArray 5)) := (Below.refl _ _).alloc (Nat.le_refl _) _
 have hsg1 := tape_seg (HTP.out.later hb1)
 have HB1 := Lib.hid hb1
 have HR1 : Hid (RowB (w.alloc (.cells (vB (List.replicate cp 0)).toArray 5)) (.slice (some ⟨w.heap.size, 0, none⟩) 0 cp) 0 []) := Lib.hid (RowB.fresh (alloc_block w _) (by simp [vB]) (by unfold maxLen; omega))
 have HDE := Lib.hid hd
 have HTF := Lib.hid hfs
 have HLT : Hid (y ≤ 1000000) := Lib.hid (by omega)
 have d5 : wrap64 ((t.f : Int) + (y : Int)) = (t.f : Int) + (y : Int) := IntWalk.wrap64_in _ (by omega)
 clear i1 i2 hdp hF hE hX hy hr hcp hdle hd hb1 hfs
 go_enter Tryz.func77, Tryz.ntmps77
 go_wp2_with fail
 refine h1.mono ?_
 rintro e w' ⟨rfl, rfl⟩
 go_wp2_with fail
 refine h2.mono ?_
 rintro e w' ⟨rfl, rfl⟩
 go_wp2_with fail
 refine hsg1.mono ?_
 rintro e w2 ⟨rfl, rfl⟩
 go_wp2_with fail
 refine hsg1.mono ?_
 rintro e w2 ⟨rfl, rfl⟩
 go_wp2_with fail
 have HTP1 := Lib.hid (HTP.out.later HB1.out)
 have hFE : F ≤ 1000000 := by have := HE.out; omega
 clear h1 h2 hsg hsg1 c2 d1 d2 d3 d4 hx hx2 hx3 hXE hEX hmk
 obtain ⟨pw, hpw⟩ : ∃ pw, pw = w'.heap.size := ⟨_, rfl⟩
 rw [← hpw] at HR1 ⊢
 have HPW := Lib.hid hpw
 clear hpw
 generalize w'.alloc (.cells (vB (List.replicate cp 0)).toArray 5) = W1 at *
 go_loopw [5, 6, 7] (fun bv sk n wr => ∃ (i : Nat) (pb : Option Addr) (cb : Nat), y ≤ i ∧ i ≤ 1000001 ∧ n = .int .i64 (t.f + i : Nat) ∧ sk = .int .i64 ((skipAt y r i : Nat) : Int) ∧ bv = .slice pb (upTo s t.B d i).length cb ∧ Hid (RowB wr (.slice pb (upTo s t.B d i).length cb) (upTo s t.B d i).length (upTo s t.B d i)) ∧ Hid (∀ k, (Value.slice pb (upTo s t.B d i).length cb).ownBlock = some k → w'.heap.size ≤ k) ∧ Hid (Below w'.heap.size w' wr)) (fun _ _ n _ => t.f + 1000002 - (intOf n).toNat)
 case atStart =>
  refine ⟨y, some ⟨pw, 0, none⟩, cp, Nat.le_refl _, by have := HLT.out; omega, by go_num, by unfold skipAt; rw [if_pos rfl], by rw [HSTART.out]; rfl, ?_, ?_, HB1⟩
  · rw [HSTART.out]
    exact HR1
  · exact Lib.hid fun k hk => by cases hk; rw [HPW.out]; exact Nat.le_refl _
 case round =>
  obtain ⟨i, pb, cb, hyi, hi6, rfl, rfl, rfl, HR, HOW, HBW⟩ := hrel
  have HT := Lib.hid (HTP.out.later HBW.out)
  obtain ⟨hK, hL⟩ : skipAt y r i ≤ s ∧ True := ⟨by unfold skipAt; split <;> omega, trivial⟩
  have hP : (t.f + i) * s = F + i * s := by rw [Nat.add_mul, HF.out]
  have hjs : i * s ≤ 1000001 * 4096 := Nat.mul_le_mul hi6 hs.2
  have m1 : ((t.f : Int) + (i : Int)) * (s : Int) = ((F + i * s : Nat) : Int) := by
   rw [← hP]
   push_cast
   rfl
  have m2 : IntKind.i64.wrap ((F + i * s : Nat) : Int) = ((F + i * s : Nat) : Int) := IntWalk.i64_in _ (by omega)
  have hcond : F + i * s < E ↔ i * s < t.B.length := by have := HE.out; omega
  obtain ⟨_, c2, _, hsg⟩ := HT.out.at HF.out HE.out
  clear hP hjs hL
  generalize F + i * s = P at *
  by_cases hlt : P < E
  · have hlt' : decide ((P : Int) < (E : Int)) = true := decide_eq_true (by omega)
    have hlt2 : (P : Int) < (E : Int) := by omega
    have hil := hcond.1 hlt
    obtain ⟨hkl, hpm⟩ := HPART.out i hil hyi
    have HPM := Lib.hid hpm
    have HIL := Lib.hid hil
    clear hcond hpm hil
    generalize hKK : skipAt y r i = K at *
    generalize hLL : upTo s t.B d i = L at *
    go_wp2_with fail
    go_quiet (first
     | (go_at_call 113; exact Calls.quiet_of_same (hsg _)))
    have HT5 := Lib.hid (HT.out.drewN nq)
    have HR5 := Lib.hid (HR.out.later (below_drewN (Below.refl _ _) nq))
    have HB5 := Lib.hid (below_drewN HBW.out nq)
    clear c2 hsg HT HR HBW m1 m2
    generalize wr.drewN nq = W5 at *
    obtain ⟨_, z, D, hown, hT, hS⟩ := HT5.out.yes b rfl
    have c3 := HT5.out.cells.2.2.2
    have htf : t.f + i ≤ 2000001 := by have := HF.out; have : t.f ≤ t.f * s := Nat.le_mul_of_pos_right _ (by omega); omega
    have wf : (Lit.int .i64 ((t.f + i : Nat) : Int)).wf = true := WalkArith.wf_i64 (by omega)
    have hlook := look_at hown hT wf
    rw [So_at, if_pos HIL.out, Int.natCast_add] at hlook
    unfold svV at hlook
    have hrow := (hS.row i HIL.out).2
    have hcapz := hrow.bl.cap
    have hmz := hrow.bl.max
    have hmx : (z (t.f + i)).2 ≤ 9223372036854775807 := by unfold maxLen at hmz; omega
    have hsl : (sgD s t.B i).length ≤ 4096 := by rw [sg_len]; omega
    have hLl := HR5.out.len
    have HM := Lib.hid fun (q : Option Addr) (h1 : K < (sgD s t.B i).length → q = some ⟨(z (t.f + i)).1, K, none⟩) (h2 : q = none → (z (t.f + i)).2 = K) => BL.drop hrow.bl K hkl q (fun h0 b' off' he => by cases he; rw [Nat.zero_add]; exact h1 h0) h2
    have hLb : L.length + ((sgD s t.B i).length - K) ≤ 1000000 := by
     have h9 := congrArg List.length HPM.out
     unfold upTo at h9
     rw [List.length_append, List.length_drop, List.length_drop, List.length_take] at h9
     have := HE.out
     omega
    have HNEW : Hid ((L ++ (sgD s t.B i).drop K).length = L.length + ((sgD s t.B i).length - K)) := Lib.hid (by rw [List.length_append, List.length_drop])
    clear hown hT hS hrow hmz wf
    generalize (sgD s t.B i) = G at *
    generalize hn0 : G.length = n0 at *
    generalize (z (t.f + i)).1 = zg at *
    generalize (z (t.f + i)).2 = zc at *
    go_wp2_with (first | (at_builtin; refine wpList_append_rb rfl _ _ rfl _ _ _ rfl HR5.out _ (n0 - K) (zc - K) _ rfl (HM.out _ (by intro h9; simp; omega) (by intro h9; split at h9 <;> cases h9)) hLb ?_; intro p6 c6 w6 hr6 hc6 hl6 hn6) | fail)
    have HR6 := Lib.hid hr6
    have HOW6 : Hid (∀ k, (Value.slice p6 (L.length + (n0 - K)) c6).ownBlock = some k → w'.heap.size ≤ k) := Lib.hid fun k hk => by
     rcases hl6 k hk with h | h
     · exact HOW.out k h
     · exact Nat.le_trans HB5.out.size h
    have HB6 : Hid (Below w'.heap.size w' w6) := Lib.hid (hc6.below HB5.out HB5.out.size fun k hk => HOW.out k hk)
    rw [HPM.out] at HR6 HNEW
    rw [← HNEW.out] at HR6 HOW6 ⊢
    clear hr6 hc6 hl6 hn6 hlook c3
    go_wp2_with fail
    go_roundw
    case rel => refine ⟨_, _, _, ⟨i + 1, by omega, by have := (lt_nS (s := s) (by omega)).2 HIL.out; have := nS_le (s := s) (n := t.B.length) (by omega); have := HE.out; omega, by go_num, by unfold skipAt; rw [if_neg (by omega)]; rfl, p6, c6, rfl, HR6, HOW6, HB6⟩, rfl, rfl, rfl⟩
    case measure => simp [intOf]; omega
  · have hlt' : decide ((P : Int) < (E : Int)) = false := decide_eq_false (by omega)
    have hlt2 : ¬ (P : Int) < (E : Int) := by omega
    have hnl : ¬ i * s < t.B.length := fun h => hlt (hcond.2 h)
    have hup : upTo s t.B d i = t.B.drop d := by unfold upTo; rw [List.take_of_length_le (by omega)]
    have HUP := Lib.hid hup
    clear hup
    go_wp2_with fail
    go_quiet (first
     | (go_at_call 113; exact Calls.quiet_of_same (hsg _)))
    have HR5 := Lib.hid (HR.out.later (below_drewN (Below.refl _ _) nq))
    have HB5 := Lib.hid (below_drewN HBW.out nq)
    clear c2 hsg HT HR HBW m1 m2 hcond hnl
    generalize wr.drewN nq = W5 at *
    go_wp2_with fail
    go_ret
    rw [← HUP.out]
    obtain ⟨p', c', he, hbl, hown, _⟩ := HR5.out.sl
    cases he
    exact ⟨_, _, rfl, hbl, HB5.out, fun ad ha => HOW.out _ (hown ad ha)⟩
theorem tape_bytes (h : Tp w T mb Q a s t) (hbig : t.f * s + t.B.length ≤ 1000000) (x : Int) : Calls Tryz.prog 77 #[.pointer (some ⟨T, 0, none⟩), .int .i64 x] w (GivesBD w (bytesT s t x)) := by
 have hm : max x (t.f * s : Nat) = ((t.f * s + fromT s t x : Nat) : Int) := by unfold fromT; omega
 by_cases hd : fromT s t x < t.B.length
 · exact bytes_some h hbig x _ hm hd
 · have e : bytesT s t x = [] := List.drop_eq_nil_of_le (by omega)
   rw [e]
   refine (bytes_none h x (by omega)).mono ?_
   rintro e w' ⟨rfl, rfl⟩
   exact ⟨none, 0, rfl, SlG.empty _, Below.refl _ _, fun a ha => by cases ha⟩
end
end Go.Proofs.YtfdgnniicjdjdaaGreatDoor
namespace Go.Proofs.YtfdgnniicjdjdaaGreatDoor
open Go.RowKit Go.ChangeShapes Go.WideShapes Go.Maps
set_option linter.unusedVariables false
set_option maxRecDepth 10000
set_option linter.unusedSimpArgs false
theorem sl_nil_in (d : Nat) (p : Option Addr) (n c : Nat) (w : World) : (Op.equalIn (d + 1) 33 (.slice p n c) (.slice none 0 0)).run Tryz.prog w = .ok p.isNone w := by
 cases p <;> simp [Op.equalIn, run_underlying Tryz.underlying33]
theorem sl_nil (p : Option Addr) (n c : Nat) (w : World) : (binOp .eql 33 (.slice p n c) (.slice none 0 0)).run Tryz.prog w = .ok (.bool p.isNone) w := by
 simp only [binOp]
 simp [show Op.equal 33 (.slice p n c) (.slice none 0 0) = Op.equalIn (9999 + 1) 33 (.slice p n c) (.slice none 0 0) from rfl, sl_nil_in 9999 p n c w]
theorem clone_bytes (p : Option Addr) (n c : Nat) (L : List Int) (w : World) (hL : BL w p n c L) (h0 : 0 < n) (hn : n ≤ 1000000) :
 Calls Tryz.prog 70 #[.slice p n c] w fun e w' => ∃ g c', e = .returned (.slice (some ⟨g, 0, none⟩) n c') ∧ RowB w' (.slice (some ⟨g, 0, none⟩) n c') n L ∧ w.heap.size ≤ g ∧ Below w.heap.size w w' := by
 have HL := Lib.hid hL
 obtain ⟨b, off, rfl, _, _⟩ := hL.at h0
 have hb1 : Below w.heap.size w (w.alloc (.cells #[] 5)) := (Below.refl _ _).alloc (Nat.le_refl _) _
 have HB1 := Lib.hid hb1
 have HR1 : Hid (RowB (w.alloc (.cells #[] 5)) (.slice (some ⟨w.heap.size, 0, none⟩) 0 0) 0 []) := Lib.hid (RowB.fresh (alloc_block w _) rfl (Nat.zero_le _))
 have HL1 := Lib.hid (SlG.later hL hb1)
 have hs1 : (w.alloc (.cells #[] 5)).heap.size = w.heap.size + 1 := by simp
 have hq := fun w => sl_nil (some ⟨b, off, none⟩) n c w
 clear hL hb1
 go_enter Tryz.func70, Tryz.ntmps70
 go_wp2_with (first | (at_builtin; refine wpList_append_rb rfl _ _ rfl _ _ _ rfl HR1.out _ n c L rfl HL1.out (by omega) ?_; intro p' c' w3 hr3 hc3 hl3 hn3) | fail)
 rw [Nat.zero_add] at hr3 hl3
 go_ret
 obtain ⟨p2, c2, he, _, _, hg⟩ := hr3.sl
 cases he
 obtain ⟨g, rfl⟩ := hg h0
 refine ⟨g, c', rfl, hr3, ?_, ?_⟩
 · rcases hl3 g rfl with h | h
   · cases h
     exact Nat.le_refl _
   · omega
 · exact hc3.below HB1.out HB1.out.size fun k hk => by cases hk; exact Nat.le_refl _
structure Cp (w wr : World) (Q : Nat → Prop) (b r b2 T2 : Nat) (z0 : Nat → Nat × Nat) (D0 : DataW Sv) (a : Int) (s : Nat) (t : TS) (left : Lit → Bool) (cnt : Nat) : Prop where
 rg : wr.ranges Tryz.prog 2 heldElem b r (nSD s t.B.length) D0 left cnt
 seg0 : Seg wr Q z0 t.f s t.B
 lt0 : ∀ i, i * s < t.B.length → (z0 (t.f + i)).1 < w.heap.size
 blk : wr.heap[T2]? = some (.cells #[.int .i64 a, .int .i64 (t.f * s : Nat), .int .i64 (t.f * s + t.B.length : Nat), .map (some b2)] 171 (0, 0))
 below : Below w.heap.size w wr
 lo : b < w.heap.size ∧ w.heap.size ≤ r ∧ w.heap.size ≤ b2 ∧ w.heap.size ≤ T2 ∧ r ≠ b2 ∧ r ≠ T2 ∧ b2 ≠ T2
 cntle : cnt ≤ nSD s t.B.length
 out : ∃ z D, MapB wr b2 (nSD s t.B.length - cnt) D ∧ (∀ x zd, D.atKey (kLD x) zd = match (if left (kLD x) = true then none else So z t.f s t.B x) with | some v => .held v | none => zd) ∧
  (∀ kl, Maps.has D kl = (Maps.has D0 kl && !left kl)) ∧ (∀ i, i * s < t.B.length → left (kLD ((t.f + i : Nat) : Int)) = false → w.heap.size ≤ (z (t.f + i)).1 ∧ RowB wr (.slice (some ⟨(z (t.f + i)).1, 0, none⟩) (sgD s t.B i).length (z (t.f + i)).2) (sgD s t.B i).length (sgD s t.B i)) ∧
  ∀ i j, i * s < t.B.length → j * s < t.B.length → i ≠ j → left (kLD ((t.f + i : Nat) : Int)) = false → left (kLD ((t.f + j : Nat) : Int)) = false → (z (t.f + i)).1 ≠ (z (t.f + j)).1
theorem cp_came {D0 : DataW Sv} {z0 : Nat → Nat × Nat} {f s m : Nat} {B : List Int} (hT : Tm D0 (So z0 f s B) m) {x : Int} {c : Sv} (hat : ∀ zd, D0.atKey (kLD x) zd = .held c) : ∃ i, i * s < B.length ∧ x = ((f + i : Nat) : Int) ∧ c = (some ⟨(z0 (f + i)).1, 0, none⟩, (sgD s B i).length, (z0 (f + i)).2) := by
 have h1 := hT.at_ x .nil
 rw [hat] at h1
 rcases low_or_at f x with h | ⟨i, rfl⟩
 · rw [So_low _ _ _ _ h] at h1
   cases h1
 · rw [So_at] at h1
   by_cases hi : i * s < B.length
   · rw [if_pos hi] at h1
     cases h1
     exact ⟨i, hi, rfl, rfl⟩
   · rw [if_neg hi] at h1
     cases h1
theorem Cp.keep {w wr w1 : World} {Q : Nat → Prop} {b r b2 T2 : Nat} {z0 : Nat → Nat × Nat} {D0 : DataW Sv} {a : Int} {s : Nat} {t : TS} {left left1 : Lit → Bool} {cnt cnt1 : Nat} (h : Cp w wr Q b r b2 T2 z0 D0 a s t left cnt) (hg : wr.grownBy w1 (some r)) :
 Seg w1 Q z0 t.f s t.B ∧ w1.heap[T2]? = some (.cells #[.int .i64 a, .int .i64 (t.f * s : Nat), .int .i64 (t.f * s + t.B.length : Nat), .map (some b2)] 171 (0, 0)) ∧ Below w.heap.size w w1 := by
 obtain ⟨l1, l2, l3, l4, l5, l6, l7⟩ := h.lo
 refine ⟨h.seg0.keep (Chg.of_grown hg) fun i hi e => ?_, (hg.block T2 (block_lt h.blk) (fun e => l6 (by cases e; rfl))).trans h.blk, h.below.grown hg h.below.size fun k hk => by cases hk; exact l2⟩
 have := h.lt0 i hi
 cases e
 omega
theorem Cp.step {w wr w1 w3 w4 : World} {Q : Nat → Prop} {b r b2 T2 : Nat} {z0 : Nat → Nat × Nat} {D0 : DataW Sv} {a : Int} {s : Nat} {t : TS} {left : Lit → Bool} {cnt cnt1 i : Nat} (h : Cp w wr Q b r b2 T2 z0 D0 a s t left cnt) (hg : wr.grownBy w1 (some r))
 (hrg : w1.ranges Tryz.prog 2 heldElem b r (nSD s t.B.length) D0 (fun y => left y && !y.sameKey (kLD ((t.f + i : Nat) : Int))) cnt1) (hlt : cnt1 < cnt) (hT0 : Tm D0 (So z0 t.f s t.B) (nSD s t.B.length)) (hi : i * s < t.B.length) (hlx : left (kLD ((t.f + i : Nat) : Int)) = true)
 {g c n : Nat} (hn : n = (sgD s t.B i).length) (hrow : RowB w3 (.slice (some ⟨g, 0, none⟩) n c) n (sgD s t.B i)) (hgl : w1.heap.size ≤ g) (hb3 : Below w1.heap.size w1 w3) {k : Nat} (hk : k = nSD s t.B.length - cnt + 1) {z : Nat → Nat × Nat} {D : DataW Sv}
 (hat : ∀ x zd, D.atKey (kLD x) zd = match (if left (kLD x) = true then none else So z t.f s t.B x) with | some v => .held v | none => zd) (hhas : ∀ kl, Maps.has D kl = (Maps.has D0 kl && !left kl))
 (hrows : ∀ i, i * s < t.B.length → left (kLD ((t.f + i : Nat) : Int)) = false → w.heap.size ≤ (z (t.f + i)).1 ∧ RowB wr (.slice (some ⟨(z (t.f + i)).1, 0, none⟩) (sgD s t.B i).length (z (t.f + i)).2) (sgD s t.B i).length (sgD s t.B i))
 (hap : ∀ i j, i * s < t.B.length → j * s < t.B.length → i ≠ j → left (kLD ((t.f + i : Nat) : Int)) = false → left (kLD ((t.f + j : Nat) : Int)) = false → (z (t.f + i)).1 ≠ (z (t.f + j)).1)
 (hm : MapB w3 b2 (nSD s t.B.length - cnt) D) (hm4 : MapB w4 b2 k (D.put (kLD ((t.f + i : Nat) : Int)) (.held (some ⟨g, 0, none⟩, n, c)))) (hc4 : Chg (fun k => k = b2) w3 w4) :
 Cp w w4 Q b r b2 T2 z0 D0 a s t (fun y => left y && !y.sameKey (kLD ((t.f + i : Nat) : Int))) cnt1 := by
 obtain ⟨l1, l2, l3, l4, l5, l6, l7⟩ := h.lo
 obtain ⟨k1, k2, k3⟩ := h.keep (left1 := left) (cnt1 := cnt) hg
 have hsame : ∀ j : Nat, (kLD ((t.f + j : Nat) : Int)).sameKey (kLD ((t.f + i : Nat) : Int)) = decide (j = i) := by
  intro j
  by_cases e : j = i
  · subst e
    rw [decide_eq_true rfl]
    exact WideAt.sameKey_self (kL_is _)
  · rw [decide_eq_false e]
    exact sameKey_ne fun e' => e (by have := kL_inj e'; omega)
 have hc3 : Chg (fun _ => False) w1 w3 := Chg.of_below hb3
 have hb2lt := hm.lt
 have hrg3 := World.ranges.kept (row := none) hrg (show w1.grownBy w3 none from ⟨hb3.os, hb3.tape, hb3.output, hb3.size, fun k hk _ => hb3.block k hk⟩) (by simp) (by simp)
 have hrg4 := World.ranges.kept (row := some b2) hrg3 (show w3.grownBy w4 (some b2) from ⟨hc4.os, hc4.tape, hc4.output, hc4.size, fun k hk hne => hc4.block k hk fun e => hne (by rw [e])⟩) (fun e => by cases e; omega) (fun e => by cases e; exact l5 rfl)
 have hk2 := block_later k2 hb3
 have hgne : g ≠ b2 := by
  rcases hrow.own.2 with ⟨h3, _⟩ | ⟨g3, c3, cur3, h3, _, h4, _⟩
  · cases h3
  · cases h3
    exact hm.ne h4
 have hg1 := hg.size
 refine ⟨hrg4, (k1.keep hc3 fun _ _ h => h).keep hc4 fun j hj e => ?_, h.lt0, (hc4.block T2 (block_lt hk2) (fun e => l7 e.symm)).trans hk2, hc4.below (k3.trans (hb3.mono k3.size)) (Nat.le_trans k3.size hb3.size) (fun k hk => by rw [hk]; exact l3), h.lo, by have := h.cntle; omega, ?_⟩
 · have := h.lt0 j hj
   omega
 refine ⟨fun y => if y = t.f + i then (g, c) else z y, _, hm4.mono (by have := h.cntle; omega), fun x zd => ?_, fun kl => ?_, fun j hj hl => ?_, fun j l hj hl hne h1 h2 => ?_⟩
 · by_cases e : x = ((t.f + i : Nat) : Int)
   · subst e
     rw [atKey_put_same hm.isMap (kL_is _)]
     have : (left (kLD ((t.f + i : Nat) : Int)) && !(kLD ((t.f + i : Nat) : Int)).sameKey (kLD ((t.f + i : Nat) : Int))) = false := by rw [hsame]; simp
     rw [this, if_neg (by simp), So_at, if_pos hi, if_pos rfl, hn]
   · rw [atKey_put_other (fun e' => e (kL_inj e')), hat]
     have hk : (kLD x).sameKey (kLD ((t.f + i : Nat) : Int)) = false := sameKey_ne fun e' => e (kL_inj e')
     rw [hk]
     simp only [Bool.not_false, Bool.and_true]
     have hSo : So (fun y => if y = t.f + i then (g, c) else z y) t.f s t.B x = So z t.f s t.B x := by
      rcases low_or_at t.f x with h' | ⟨j, rfl⟩
      · rw [So_low _ _ _ _ h', So_low _ _ _ _ h']
      · rw [So_at, So_at]
        rw [if_neg (show ¬ t.f + j = t.f + i by omega)]
     rw [hSo]
 · by_cases e : kl = kLD ((t.f + i : Nat) : Int)
   · subst e
     rw [has_put_same hm.isMap (kL_is _), hT0.has, So_at, if_pos hi, hsame]
     simp
   · rw [has_put_other e, hhas, sameKey_ne e]
     simp
 · dsimp only
   by_cases e : j = i
   · subst e
     rw [if_pos rfl]
     refine ⟨?_, hn ▸ hrow.keep hc4 fun k hk => by cases hk; exact hgne⟩
     have := h.below.size
     show w.heap.size ≤ g
     omega
   · rw [if_neg (show ¬ t.f + j = t.f + i by omega)]
     rw [hsame, decide_eq_false e] at hl
     simp only [Bool.not_false, Bool.and_true] at hl
     obtain ⟨r1, r2⟩ := hrows j hj hl
     refine ⟨r1, ((r2.keep (Chg.of_grown hg) fun k hk hk2 => ?_).keep hc3 fun _ _ h => h).keep hc4 fun k hk e2 => ?_⟩
     · cases hk
       cases hk2
       obtain ⟨es, clock, since, seen, c0, _, _, _, _, hr, _⟩ := h.rg
       rcases r2.own.2 with ⟨h3, _⟩ | ⟨g3, c3, cur3, h3, _, h4, _⟩
       · cases h3
       · cases h3
         rw [hr] at h4
         cases h4
     · cases hk
       have r3 := (r2.keep (Chg.of_grown hg) (fun k hk hk2 => by
        cases hk
        cases hk2
        obtain ⟨es, clock, since, seen, c0, _, _, _, _, hr, _⟩ := h.rg
        rcases r2.own.2 with ⟨h3, _⟩ | ⟨g3, c3, cur3, h3, _, h4, _⟩
        · cases h3
        · cases h3
          rw [hr] at h4
          cases h4)).keep hc3 fun _ _ h => h
       rcases r3.own.2 with ⟨h3, _⟩ | ⟨g3, c3, cur3, h3, _, h4, _⟩
       · cases h3
       · cases h3
         exact hm.ne h4 e2
 · have key : ∀ j, j * s < t.B.length → j ≠ i → left (kLD ((t.f + j : Nat) : Int)) = false → (z (t.f + j)).1 ≠ g := by
    intro j hj e hl e2
    have : (z (t.f + j)).1 < wr.heap.size := (hrows j hj hl).2.bound _ rfl
    omega
   dsimp only
   rw [hsame] at h1 h2
   by_cases e : j = i
   · rw [if_pos (by omega), if_neg (show ¬ t.f + l = t.f + i by omega)]
     rw [decide_eq_false (show ¬ l = i by omega)] at h2
     simp only [Bool.not_false, Bool.and_true] at h2
     exact fun h => key l hl (by omega) h2 h.symm
   · rw [if_neg (show ¬ t.f + j = t.f + i by omega)]
     rw [decide_eq_false e] at h1
     simp only [Bool.not_false, Bool.and_true] at h1
     by_cases e2 : l = i
     · rw [if_pos (by omega)]
       exact key j hj e h1
     · rw [if_neg (show ¬ t.f + l = t.f + i by omega)]
       rw [decide_eq_false e2] at h2
       simp only [Bool.not_false, Bool.and_true] at h2
       exact hap j l hj hl hne h1 h2
theorem Cp.done {w wr : World} {Q : Nat → Prop} {b r b2 T2 : Nat} {z0 : Nat → Nat × Nat} {D0 : DataW Sv} {a : Int} {s : Nat} {t : TS} {left : Lit → Bool} {cnt : Nat} (h : Cp w wr Q b r b2 T2 z0 D0 a s t left cnt) (hT0 : Tm D0 (So z0 t.f s t.B) (nSD s t.B.length)) (hs : s = cl a 64 4096) (hl : ∀ kl, left kl = false) : Tp wr T2 (some b2) (fun k => w.heap.size ≤ k) a s t := by
 obtain ⟨z, D, hm, hat, hhas, hrows, hap⟩ := h.out
 have hsz : Maps.size D = nSD s t.B.length := by
  rw [size_same hm h.rg.owns (fun kl => by rw [hhas, hl]; simp), hT0.size]
 refine ⟨hs, h.blk, fun e => (by cases e), fun b' e => ?_, h.lo.2.2.2.1⟩
 cases e
 refine ⟨h.lo.2.2.1, z, D, hsz ▸ hm.tight, ⟨hm.tidy mapLaw, fun x zd => ?_, hsz⟩, ⟨fun i hi => hrows i hi (hl _), fun i j hi hj hne => hap i j hi hj hne (hl _) (hl _)⟩⟩
 rw [hat, hl, if_neg (by simp)]
 cases So z t.f s t.B x <;> rfl
theorem made_map (n : Int) (w : World) : (Instr.makeMap 169 (some (.int .i64 n))).run Tryz.prog w = .ok (.map (some w.heap.size)) (w.alloc (.map #[] 0)) := by
 simp [Instr.makeMap, run_underlying Tryz.underlying169, asInt, asIntOf, Result.andThen]
theorem So_none {z : Nat → Nat × Nat} (z' : Nat → Nat × Nat) {f s : Nat} {B : List Int} {x : Int} (h : So z f s B x = none) : So z' f s B x = none := by
 unfold So at *
 split at h
 · cases h
 · rename_i hn
   rw [if_neg hn]
section
variable {w : World} {T : Nat} {mb : Option Nat} {Q : Nat → Prop} {a : Int} {s : Nat} {t : TS}
set_option maxHeartbeats 2000000 in
set_option maxRecDepth 100000 in
theorem tape_copy (h : Tp w T mb Q a s t) (hbig : t.f * s + t.B.length ≤ 1000000) : Calls Tryz.prog 101 #[.pointer (some ⟨T, 0, none⟩)] w fun e w' => e = .returned (.pointer (some ⟨w.heap.size, 0, none⟩)) ∧ (∃ mb', Tp w' w.heap.size mb' (fun k => w.heap.size ≤ k) a s t) ∧ Below w.heap.size w w' := by
 have hs := h.s_in
 have HTP := Lib.hid h
 have hTlt := block_lt h.blk
 have c0 := h.cells.1
 have hn := tape_new a w
 have hb1 : Below w.heap.size w (w.alloc (.cells #[.int .i64 a, .int .i64 0, .int .i64 0, .map none] 171)) := (Below.refl _ _).alloc (Nat.le_refl _) _
 have HB1 := Lib.hid hb1
 have HN1 := Lib.hid (alloc_block w (.cells #[.int .i64 a, .int .i64 0, .int .i64 0, .map none] 171))
 have hs1 : (w.alloc (.cells #[.int .i64 a, .int .i64 0, .int .i64 0, .map none] 171)).heap.size = w.heap.size + 1 := by simp
 clear h hb1
 go_enter Tryz.func101, Tryz.ntmps101
 go_wp2_with fail
 refine hn.mono ?_
 rintro e w' ⟨rfl, rfl⟩
 go_wp2_with fail
 clear hn
 have HT1 := Lib.hid (HTP.out.later HB1.out)
 generalize hW1 : w.alloc (.cells #[.int .i64 a, .int .i64 0, .int .i64 0, .map none] 171) = W1 at *
 clear hW1
 have c1 : W1.drew.cell? ⟨T, 1, none⟩ = some (.int .i64 (t.f * s : Nat)) := HT1.out.cells.2.1
 have c2 : W1.drew.cell? ⟨T, 2, none⟩ = some (.int .i64 (t.f * s + t.B.length : Nat)) := HT1.out.cells.2.2.1
 have n1 : W1.drew.cell? ⟨w.heap.size, 1, none⟩ = some (.int .i64 0) := block_cell (j := 1) HN1.out rfl
 have n2 : W1.drew.cell? ⟨w.heap.size, 2, none⟩ = some (.int .i64 0) := block_cell (j := 2) HN1.out rfl
 have m1 : W1.cell? ⟨w.heap.size, 1, none⟩ = some (.int .i64 0) := n1
 have m2 : W1.cell? ⟨w.heap.size, 2, none⟩ = some (.int .i64 0) := n2
 have e1 : W1.frozen? ⟨w.heap.size, 1, none⟩ = false := block_free 1 HN1.out
 have e2 : W1.frozen? ⟨w.heap.size, 2, none⟩ = false := block_free 2 HN1.out
 have f1 : W1.drew.frozen? ⟨w.heap.size, 1, none⟩ = false := block_free 1 HN1.out
 have f2 : W1.drew.frozen? ⟨w.heap.size, 2, none⟩ = false := block_free 2 HN1.out
 have HF : Hid (T < w.heap.size) := Lib.hid hTlt
 generalize hF : t.f * s = F at *
 generalize hE : F + t.B.length = E at *
 have HFF := Lib.hid hF
 have HEE := Lib.hid hE
 clear hF hE
 go_region
 have HN2 : Hid (((W1.setCell ⟨w.heap.size, 1, none⟩ (.int .i64 (F : Nat))).setCell ⟨w.heap.size, 2, none⟩ (.int .i64 (E : Nat))).drew.heap[w.heap.size]? = some (.cells #[.int .i64 a, .int .i64 (F : Nat), .int .i64 (E : Nat), .map none] 171 (0, 0))) := Lib.hid (block_put 2 _ (block_put 1 _ HN1.out))
 have hc2 : Chg (fun k => k = w.heap.size) W1 ((W1.setCell ⟨w.heap.size, 1, none⟩ (.int .i64 (F : Nat))).setCell ⟨w.heap.size, 2, none⟩ (.int .i64 (E : Nat))).drew := (((Chg.refl (fun k => k = w.heap.size) W1).setCell ⟨w.heap.size, 1, none⟩ _ fun _ => rfl).setCell ⟨w.heap.size, 2, none⟩ _ fun _ => rfl).drewN 1
 have HB2 := Lib.hid (hc2.below HB1.out HB1.out.size fun k hk => by omega)
 have hs2 : ((W1.setCell ⟨w.heap.size, 1, none⟩ (.int .i64 (F : Nat))).setCell ⟨w.heap.size, 2, none⟩ (.int .i64 (E : Nat))).drew.heap.size = w.heap.size + 1 := by simpa using hs1
 clear c1 c2 n1 n2 m1 m2 e1 e2 f1 f2 hc2 HN1 HB1 HT1 hs1
 generalize ((W1.setCell ⟨w.heap.size, 1, none⟩ (.int .i64 (F : Nat))).setCell ⟨w.heap.size, 2, none⟩ (.int .i64 (E : Nat))).drew = W2 at *
 have HT2 := Lib.hid (HTP.out.later HB2.out)
 obtain ⟨X, hX⟩ : ∃ X, w.heap.size = X := ⟨_, rfl⟩
 have HX := Lib.hid hX
 rw [hX] at HN2 HB2 HF hs2 ⊢
 have c3 : W2.cell? ⟨T, 3, none⟩ = some (.map mb) := HT2.out.cells.2.2.2
 have hlen : ∀ ty, (Builtin.len_ #[169] ty #[.map mb]).run Tryz.prog W2 = .ok (.int .i64 (nSD s t.B.length : Nat)) W2 := by
  intro ty
  cases mb with
  | none =>
   rw [(HTP.out.no rfl).2, nS_eq (s := s) (n := ([] : List Int).length) (m := 0) (by omega) (by simp) (fun i hi => by omega)]
   exact Maps.len_nil Tryz.underlying169 ty
  | some b =>
   obtain ⟨_, z, D, hown, hT, _⟩ := HT2.out.yes b rfl
   exact len_at hown hT ty
 have hmm := made_map
 have hb3 : Below W2.heap.size W2 (W2.alloc (.map #[] 0)) := (Below.refl _ _).alloc (Nat.le_refl _) _
 have hN3 := block_later HN2.out hb3
 have x3 := block_cell (j := 3) hN3 (v := .map none) rfl
 have y3 := block_free 3 hN3
 have HN3 : Hid (((W2.alloc (.map #[] 0)).setCell ⟨X, 3, none⟩ (.map (some (X + 1)))).heap[X]? = some (.cells #[.int .i64 a, .int .i64 (F : Nat), .int .i64 (E : Nat), .map (some (X + 1))] 171 (0, 0))) := Lib.hid (block_put 3 _ hN3)
 have hc3 : Chg (fun k => k = X) (W2.alloc (.map #[] 0)) ((W2.alloc (.map #[] 0)).setCell ⟨X, 3, none⟩ (.map (some (X + 1)))) := (Chg.refl _ _).setCell _ _ fun _ => rfl
 have HB3 : Hid (Below X w ((W2.alloc (.map #[] 0)).setCell ⟨X, 3, none⟩ (.map (some (X + 1))))) := Lib.hid (by
  have hb4 := HB2.out.trans (hb3.mono (by omega))
  exact hc3.below hb4 (hX ▸ hb4.size) fun k hk => by omega)
 have hs3 : ((W2.alloc (.map #[] 0)).setCell ⟨X, 3, none⟩ (.map (some (X + 1)))).heap.size = X + 2 := by simp [World.setCell, hs2]
 have hM3 : MapB ((W2.alloc (.map #[] 0)).setCell ⟨X, 3, none⟩ (.map (some (X + 1)))) (X + 1) 0 (.map []) := by
  have hm := World.ownsMap_made (H := Sv) W2 Tryz.prog 2 heldElem
  rw [hs2] at hm
  exact hm.setCell (a := ⟨X, 3, none⟩) (by show X + 1 ≠ X; omega) _
 have HM3 := Lib.hid hM3
 clear hb3 hN3 hc3 hM3
 generalize hN : nSD s t.B.length = N at *
 have HN := Lib.hid hN
 clear hN
 generalize hW3 : (W2.alloc (.map #[] 0)).setCell ⟨X, 3, none⟩ (.map (some (X + 1))) = W3 at *
 have HT3 := Lib.hid (HTP.out.later (hX ▸ HB3.out))
 have c3' : W3.cell? ⟨T, 3, none⟩ = some (.map mb) := HT3.out.cells.2.2.2
 clear hX hTlt c0
 cases mb with
 | none =>
  obtain ⟨t1, t2⟩ := HTP.out.no rfl
  have hrg := run_range_nilMap (P := Tryz.prog) W3 169 _ _ Tryz.underlying169
  have hnx : ∀ ty, (Instr.next (.pointer (some ⟨W3.heap.size, 0, none⟩)) false ty).run Tryz.prog (W3.alloc (.mapIter none 0 #[] 0)) = _ := fun ty => run_next_nilMap _ ty 0 0 #[]
  rw [hs3] at hrg hnx
  go_wp2_with fail
  simp only [hW3] at *
  go_wp2_with fail
  refine wp_loop_rounds 1 ?_
  rw [rounds_succ]
  go_wp2_with fail
  go_ret
  have hb4 : Below W3.heap.size W3 (W3.alloc (.mapIter none 0 #[] 0)) := (Below.refl _ _).alloc (Nat.le_refl _) _
  have hN4 := block_later HN3.out hb4
  have hn0 : nSD s 0 = 0 := nS_eq (by omega) (by omega) (fun i hi => by omega)
  refine ⟨by rw [HX.out]; rfl, ⟨some (X + 1), HTP.out.seg, ?_, fun e => (by cases e), fun b e => ?_, Nat.le_refl _⟩, ?_⟩
  · rw [HX.out, HFF.out, HEE.out]
    exact hN4
  · cases e
    rw [t1, t2, HX.out]
    refine ⟨Nat.le_succ X, fun _ => (0, 0), .map [], ?_, ?_, Seg.zero _ _ _ _ _⟩
    · rw [List.length_nil, hn0]
      exact HM3.out.turn (Chg.of_below (S := fun _ => False) hb4) fun h => h
    · rw [List.length_nil, hn0]
      exact Tm.empty.congr (fun y => by unfold So; rw [if_neg (by simp)]) rfl
  · rw [HX.out]
    exact HB3.out.trans (hb4.mono (by omega))
 | some b =>
  obtain ⟨_, z0, D0, hown9, hT0, hS9⟩ := HTP.out.yes b rfl
  have hc9 : Chg (fun _ => False) w W3 := Chg.of_below (HX.out ▸ HB3.out)
  have HO := Lib.hid (hown9.turn hc9 fun h => h)
  have HTM := Lib.hid hT0
  have HSG := Lib.hid (hS9.keep hc9 fun _ _ h => h)
  have HLT := Lib.hid fun i hi => hS9.lt (i := i) hi
  have hblt : b < w.heap.size := hown9.lt
  clear hown9 hS9 hT0 hc9
  obtain ⟨w0, hrun0, hrg0, hg0, hs0⟩ := HO.out.range mapLaw Tryz.underlying169
  rw [hs3] at hrun0 hrg0 hs0
  go_wp2_with fail
  simp only [hW3] at *
  go_wp2_with fail
  clear hrun0 hlen hmm x3 y3
  have hcp : Cp w w0 Q b (X + 2) (X + 1) X z0 D0 a s t (Maps.has D0) (Maps.size D0) := by
   have hb0 : Below W3.heap.size W3 w0 := ⟨hg0.os, hg0.tape, hg0.output, hg0.size, fun k hk => hg0.block k hk (by simp)⟩
   refine ⟨hrg0, HSG.out.keep (Chg.of_below (S := fun _ => False) hb0) (fun _ _ h => h), fun i hi => ?_, ?_, ?_, ?_, ?_, ?_⟩
   · exact HLT.out i hi
   · rw [HFF.out, HEE.out]
     exact block_later HN3.out hb0
   · rw [HX.out]
     exact HB3.out.trans (hb0.mono (by omega))
   · have := HX.out
     omega
   · rw [HTM.out.size]
     exact Nat.le_refl _
   · refine ⟨fun _ => (0, 0), .map [], (HM3.out.turn (Chg.of_below (S := fun _ => False) hb0) fun h => h).mono (Nat.zero_le _), fun x zd => ?_, fun kl => ?_, fun i hi hl => ?_, fun i j hi hj hne hl => ?_⟩
     · cases hh : Maps.has D0 (kLD x) with
       | true => rw [if_pos rfl]; rfl
       | false =>
        have h1 := HTM.out.has x
        rw [hh] at h1
        have h2 : So z0 t.f s t.B x = none := by
         cases e : So z0 t.f s t.B x with
         | none => rfl
         | some v => rw [e] at h1; cases h1
        rw [if_neg (by simp), So_none (fun _ => (0, 0)) h2]
        rfl
     · show false = _
       cases Maps.has D0 kl <;> rfl
     · rw [HTM.out.has, So_at, if_pos hi] at hl
       cases hl
     · rw [HTM.out.has, So_at, if_pos hi] at hl
       cases hl
  have HCP := Lib.hid hcp
  clear hcp hrg0 hg0 hs0
  go_loopw [4] (fun _ wr => ∃ (left : Lit → Bool) (cnt : Nat), Hid (Cp w wr Q b (X + 2) (X + 1) X z0 D0 a s t left cnt)) (fun _ wr => wr.rangeLeft b (X + 2))
  case atStart => exact ⟨_, _, HCP⟩
  case round =>
   obtain ⟨left, cnt, HC⟩ := hrel
   go_wp2_with (first | (at_next; refine wpList_next_ranges (α := Int) (β := Sv) _ rfl _ rfl 2 mapLaw heldElem (Value.int .i64) (fun c => .slice c.1 c.2.1 c.2.2) (fun key kl hk => by obtain ⟨x, rfl, _⟩ := Maps.keyOf_int_inv Tryz.underlying2 hk; exact ⟨x, rfl⟩) (fun v y hv => by obtain ⟨c, rfl, _⟩ := held_shape hv; exact ⟨c, rfl⟩) b (X + 2) _ D0 _ _ rfl HC.out.rg ?_ ?_) | fail)
   · intro hc0 hl0
     go_wp2_with fail
     go_ret
     refine ⟨by rw [HX.out]; rfl, ⟨some (X + 1), ?_⟩, HC.out.below⟩
     have hd := HC.out.done HTM.out HTP.out.seg hl0
     rw [HX.out] at hd ⊢
     exact hd
   · intro x cp cn cc kl yd yps w1 cnt1 hkey hlk hv hat hrg1 hlt hg1 hs1 hen
     obtain ⟨x', ex, rfl, hwx⟩ := Maps.keyOf_int_inv Tryz.underlying2 hkey
     cases ex
     obtain ⟨rfl, rfl⟩ : yd = .held (cp, cn, cc) ∧ yps = [] := by
      first
       | (cases hv; exact ⟨rfl, rfl⟩)
       | (obtain ⟨h1, h2⟩ := hv; exact ⟨h1.symm, h2.symm⟩)
       | (simp [heldElem] at hv; obtain ⟨h1, h2⟩ := hv; exact ⟨h1.symm, h2.symm⟩)
     obtain ⟨i, hi, rfl, hce⟩ := cp_came HTM.out hat
     cases hce
     obtain ⟨k1, k2, k3⟩ := HC.out.keep (left1 := left) (cnt1 := cnt) hg1
     have hrow := (k1.row i hi).2
     have hpos : 0 < (sgD s t.B i).length := by rw [sg_len]; omega
     have HCL := Lib.hid (clone_bytes _ _ _ _ w1.drew (SlG.later hrow.bl (Below.refl _ _).drew) hpos (by rw [sg_len]; omega))
     obtain ⟨z, D, hm, hatD, hhas, hrows, hap⟩ := HC.out.out
     have l5 : X + 2 ≠ X + 1 := by omega
     have HM1 := Lib.hid (World.ownsMap.kept hm hg1 (fun e => by have := Option.some.inj e; omega))
     have HST := Lib.hid fun (w3 w4 : World) (g c3 : Nat) (hr3 : RowB w3 (.slice (some ⟨g, 0, none⟩) (sgD s t.B i).length c3) (sgD s t.B i).length (sgD s t.B i)) (hg3 : w1.heap.size ≤ g) (hb3 : Below w1.heap.size w1 w3) (hm3 : MapB w3 (X + 1) (nSD s t.B.length - cnt) D) (hm4 : MapB w4 (X + 1) (nSD s t.B.length - cnt + 1) (D.put (kLD ((t.f + i : Nat) : Int)) (.held (some ⟨g, 0, none⟩, (sgD s t.B i).length, c3)))) (hc4 : Chg (fun k => k = X + 1) w3 w4) =>
      HC.out.step hg1 hrg1 hlt HTM.out hi hlk rfl hr3 hg3 hb3 rfl hatD hhas hrows hap hm3 hm4 hc4
     have HWX := Lib.hid hwx
     have hNle := nS_le (s := s) (n := t.B.length) (by omega)
     have HNN : Hid (nSD s t.B.length - cnt ≤ 1000000) := Lib.hid (by have := HEE.out; omega)
     have HK2 := Lib.hid k2
     have c3w : w1.drew.cell? ⟨X, 3, none⟩ = some (.map (some (X + 1))) := block_cell (j := 3) k2 rfl
     have HLT1 := Lib.hid hlt
     clear hatD hhas hrows hap hm hrow hlt hrg1 hat hkey hlk hwx k1 k2 hv
     go_wp2_with fail
     go_region_law (first
      | (go_simp; go_at_call 70; refine HCL.out.mono ?_; rintro e w3 ⟨g, c3, rfl, hr3, hg3, hb3⟩; have hb3' := below_undrew (q := 1) hb3; have e3 := block_cell (j := 3) (block_later HK2.out hb3') (v := .map (some (X + 1))) rfl; have hm3 := MapB.turn HM1.out (Chg.of_below (S := fun _ => False) hb3') (fun h => h); obtain ⟨w4, hrun4, hm4, hc4⟩ := upd_at hm3 HNN.out HWX.out (some ⟨g, 0, none⟩) (sgD s t.B i).length c3; rw [Int.natCast_add] at hrun4; have hF := Lib.hid (HST.out w3 w4 g c3 hr3 hg3 hb3' hm3 hm4 hc4); clear hr3 hg3 hb3 hb3' hm3 hm4 hc4))
     all_goals
      go_wp2_with fail
      go_roundw
      case rel => exact ⟨_, _, hF⟩
      case measure => rw [hF.out.rg.left_eq, HC.out.rg.left_eq]; exact HLT1.out
end
end Go.Proofs.YtfdgnniicjdjdaaGreatDoor
