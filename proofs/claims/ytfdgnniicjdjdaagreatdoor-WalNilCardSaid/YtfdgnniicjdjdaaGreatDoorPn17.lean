import Derived.Test.YtfdgnniicjdjdaaGreatDoorPn16
import Derived.StillTailTactics
import Derived.Deep.RegionLaw
namespace Go.Proofs.YtfdgnniicjdjdaaGreatDoor
open Go.RowKit Go.ChangeShapes Go.WideShapes
set_option linter.unusedVariables false
set_option maxRecDepth 10000
set_option linter.unusedSimpArgs false
theorem Seg.take {w : World} {Q : Nat → Prop} {z : Nat → Nat × Nat} {f s : Nat} {B : List Int} (h : Seg w Q z f s B) (l : Nat) : Seg w Q z f s (B.take l) := by
  have hlt : ∀ i, i * s < (B.take l).length → i * s < B.length := fun i hi => by rw [List.length_take] at hi; omega
  refine ⟨fun i hi => ⟨(h.row i (hlt i hi)).1, ?_⟩, fun i j hi hj => h.apart i j (hlt i hi) (hlt j hj)⟩
  rw [sg_take_all, List.length_take]
  have hr := (h.row i (hlt i hi)).2
  have := hr.take (m := min (l - i * s) (sgD s B i).length) (Nat.min_le_right _ _)
  rwa [← List.take_eq_take_min] at this
def ScD (z : Nat → Nat × Nat) (f s : Nat) (B : List Int) (l j : Nat) (y : Int) : Option Sv := if y < ((f + j : Nat) : Int) then So z f s (B.take l) y else So z f s B y
structure Cm (w wr : World) (T : Nat) (mb : Option Nat) (Q : Nat → Prop) (a : Int) (s : Nat) (t : TS) (l j : Nat) : Prop where
  blk : wr.heap[T]? = some (.cells #[.int .i64 a, .int .i64 (t.f * s : Nat), .int .i64 (t.f * s + t.B.length : Nat), .map mb] 171 (0, 0))
  yes : ∀ b, mb = some b → Q b ∧ ∃ z D, MapB wr b (nSD s l + (nSD s t.B.length - j)) D ∧ Tm D (ScD z t.f s t.B l j) (nSD s l + (nSD s t.B.length - j)) ∧ Seg wr Q z t.f s (t.B.take l)
  chg : Chg Q w wr
  lo : nSD s l ≤ j
theorem Seg.ne_map {w : World} {Q : Nat → Prop} {z : Nat → Nat × Nat} {f s b n : Nat} {B : List Int} {D : DataW Sv} (h : Seg w Q z f s B) (hm : MapB w b n D) (i : Nat) (hi : i * s < B.length) : (z (f + i)).1 ≠ b := by
  rcases (h.row i hi).2.own.2 with ⟨h3, _⟩ | ⟨g3, c3, cur3, h3, _, h4, _⟩
  · cases h3
  · cases h3
    exact hm.ne h4
theorem Cm.step {w wr w1 : World} {T b n : Nat} {Q : Nat → Prop} {a : Int} {s : Nat} {t : TS} {l j : Nat} {z : Nat → Nat × Nat} {D : DataW Sv} (hs : 0 < s) (h : Cm w wr T (some b) Q a s t l j) (hQT : Q T) (hl : l ≤ t.B.length) (hj : j * s < t.B.length)
    (hQb : Q b) (hm : MapB wr b (nSD s l + (nSD s t.B.length - j)) D) (hT : Tm D (ScD z t.f s t.B l j) (nSD s l + (nSD s t.B.length - j))) (hS : Seg wr Q z t.f s (t.B.take l))
    (hm1 : MapB w1 b n (D.del (kLD ((t.f + j : Nat) : Int)))) (hc : Chg (fun k => k = b) wr w1) : Cm w w1 T (some b) Q a s t l (j + 1) := by
  have hlt := (lt_nS hs).2 hj
  have hnl : ¬ j * s < l := fun e => by have := (lt_nS hs).2 e; have := h.lo; omega
  have h0 : ScD z t.f s t.B l j ((t.f + j : Nat) : Int) = some (some ⟨(z (t.f + j)).1, 0, none⟩, (sgD s t.B j).length, (z (t.f + j)).2) := by
    unfold ScD
    rw [if_neg (by omega), So_at, if_pos hj]
  have hT1 := hT.del ((t.f + j : Nat) : Int) (by rw [h0]; rfl)
  have ht := hm1.tight
  have e1 : nSD s l + (nSD s t.B.length - j) - 1 = nSD s l + (nSD s t.B.length - (j + 1)) := by omega
  rw [hT1.size, e1] at ht
  refine ⟨(hc.block T (block_lt h.blk) (hm.ne h.blk)).trans h.blk, fun b' e => ?_, h.chg.trans (hc.mono fun k _ e => by rw [e]; exact hQb) fun _ _ h => h, by have := h.lo; omega⟩
  cases e
  refine ⟨hQb, z, _, ht, hT1.congr (fun y => ?_) e1, hS.keep hc fun i hi => hS.ne_map hm i hi⟩
  unfold ScD
  by_cases e : y = ((t.f + j : Nat) : Int)
  · subst e
    rw [if_pos rfl, if_pos (by omega), So_at, if_neg (by rw [List.length_take]; omega)]
  · rw [if_neg e]
    by_cases e2 : y < ((t.f + j : Nat) : Int)
    · rw [if_pos e2, if_pos (by omega)]
    · rw [if_neg e2, if_neg (by omega)]
theorem Cm.sm {w wr : World} {T : Nat} {mb : Option Nat} {Q : Nat → Prop} {a : Int} {s : Nat} {t : TS} {l j b : Nat} (hs : 0 < s) (h : Cm w wr T mb Q a s t l j) (hmb : mb = some b) (hl : l ≤ t.B.length) (hj : ¬ j * s < t.B.length) : Sm wr Q b t.f s (t.B.take l) := by
  obtain ⟨hQb, z, D, hm, hT, hS⟩ := h.yes b hmb
  have hn : nSD s t.B.length ≤ j := by
    rcases Nat.lt_or_ge j (nSD s t.B.length) with h' | h'
    · exact absurd ((lt_nS hs).1 h') hj
    · exact h'
  have e : nSD s l + (nSD s t.B.length - j) = nSD s (t.B.take l).length := by rw [List.length_take, Nat.min_eq_left hl]; omega
  rw [e] at hm hT
  refine ⟨hQb, z, D, hm, hT.congr (fun y => ?_) rfl, hS⟩
  unfold ScD
  by_cases e2 : y < ((t.f + j : Nat) : Int)
  · rw [if_pos e2]
  · rw [if_neg e2]
    rcases low_or_at t.f y with h' | ⟨i, rfl⟩
    · rw [So_low _ _ _ _ h', So_low _ _ _ _ h']
    · have := Nat.mul_le_mul_right s (show j ≤ i by omega)
      rw [So_at, So_at, if_neg (by omega), if_neg (by rw [List.length_take]; omega)]
theorem cut_whole {w wr : World} {T : Nat} {mb : Option Nat} {Q : Nat → Prop} {a : Int} {s : Nat} {t : TS} {l : Nat} (h : Tp w T mb Q a s t) (hb : Below w.heap.size w wr) (hl : l ≤ t.B.length) (h0 : l % s = 0) : Cm w wr T mb Q a s t l (l / s) := by
  have hs : 0 < s := by have := h.s_in; omega
  have hdp : l / s * s + l % s = l := div_parts
  have hn : nSD s l = l / s := by rw [nS_div hs, if_neg (by omega)]
  refine ⟨(h.later hb).blk, fun b e => ?_, Chg.of_below hb, Nat.le_of_eq hn⟩
  obtain ⟨hQb, z, D, hm, hT, hS⟩ := (h.later hb).yes b e
  have e1 : nSD s t.B.length = nSD s l + (nSD s t.B.length - l / s) := by
    have := nS_mono (s := s) hl
    omega
  refine ⟨hQb, z, D, e1 ▸ hm, hT.congr (fun y => ?_) e1, hS.take l⟩
  unfold ScD
  by_cases e2 : y < ((t.f + l / s : Nat) : Int)
  · rw [if_pos e2]
    rcases low_or_at t.f y with h' | ⟨i, rfl⟩
    · rw [So_low _ _ _ _ h', So_low _ _ _ _ h']
    · have h1 := mul_succ_le (s := s) (show i < l / s by omega)
      rw [So_at, So_at, if_pos (by omega), if_pos (by rw [List.length_take]; omega), sg_take_lt t.B (by omega)]
  · rw [if_neg e2]
theorem cut_part {w wr w1 : World} {T b n : Nat} {Q : Nat → Prop} {a : Int} {s : Nat} {t : TS} {l : Nat} {z : Nat → Nat × Nat} {D : DataW Sv} (h : Tp w T (some b) Q a s t) (hb : Below w.heap.size w wr) (hl : l ≤ t.B.length) (h0 : 0 < l % s)
    (hm : MapB wr b (nSD s t.B.length) D) (hT : Tm D (So z t.f s t.B) (nSD s t.B.length)) (hS : Seg wr Q z t.f s t.B)
    (hm1 : MapB w1 b n (D.put (kLD ((t.f + l / s : Nat) : Int)) (.held (some ⟨(z (t.f + l / s)).1, 0, none⟩, l % s, (z (t.f + l / s)).2)))) (hc : Chg (fun k => k = b) wr w1) : Cm w w1 T (some b) Q a s t l (l / s + 1) := by
  have hs : 0 < s := by have := h.s_in; omega
  have hdp : l / s * s + l % s = l := div_parts
  have hmod := Nat.mod_lt l hs
  have hn : nSD s l = l / s + 1 := by rw [nS_div hs, if_pos h0]
  have hQb := (h.yes b rfl).1
  have hblk := (h.later hb).blk
  refine ⟨(hc.block T (block_lt hblk) (hm.ne hblk)).trans hblk, fun b' e => ?_, (Chg.of_below (S := Q) hb).trans (hc.mono fun k _ e => by rw [e]; exact hQb) fun _ _ h => h, Nat.le_of_eq hn⟩
  cases e
  have e1 : nSD s t.B.length = nSD s l + (nSD s t.B.length - (l / s + 1)) := by
    have := nS_mono (s := s) hl
    omega
  have hpos : l / s * s < t.B.length := by omega
  have hT1 := hT.put ((t.f + l / s : Nat) : Int) (some ⟨(z (t.f + l / s)).1, 0, none⟩, l % s, (z (t.f + l / s)).2)
  have hsome : (So z t.f s t.B ((t.f + l / s : Nat) : Int)).isSome = true := by rw [So_at, if_pos hpos]; rfl
  rw [if_pos hsome] at hT1
  have ht := hm1.tight
  rw [hT1.size, e1] at ht
  refine ⟨hQb, z, _, ht, hT1.congr (fun y => ?_) e1, (hS.keep hc fun i hi => hS.ne_map hm i hi).take l⟩
  unfold ScD
  by_cases e : y = ((t.f + l / s : Nat) : Int)
  · subst e
    rw [if_pos rfl, if_pos (by omega), So_at, if_pos (by rw [List.length_take]; omega), sg_len, List.length_take]
    congr 3
    omega
  · rw [if_neg e]
    by_cases e2 : y < ((t.f + (l / s + 1) : Nat) : Int)
    · rw [if_pos e2]
      rcases low_or_at t.f y with h' | ⟨i, rfl⟩
      · rw [So_low _ _ _ _ h', So_low _ _ _ _ h']
      · have h1 := mul_succ_le (s := s) (show i < l / s by omega)
        rw [So_at, So_at, if_pos (by omega), if_pos (by rw [List.length_take]; omega), sg_take_lt t.B (by omega)]
    · rw [if_neg e2]
end Go.Proofs.YtfdgnniicjdjdaaGreatDoor
namespace Go.Proofs.YtfdgnniicjdjdaaGreatDoor
open Go.RowKit Go.ChangeShapes Go.WideShapes
set_option linter.unusedVariables false
set_option maxRecDepth 10000
set_option linter.unusedSimpArgs false
theorem Cm.later {w wr w1 : World} {T : Nat} {mb : Option Nat} {Q : Nat → Prop} {a : Int} {s : Nat} {t : TS} {l j : Nat} (h : Cm w wr T mb Q a s t l j) (hb : Below wr.heap.size wr w1) : Cm w w1 T mb Q a s t l j := by
  have hc : Chg (fun _ => False) wr w1 := Chg.of_below hb
  refine ⟨block_later h.blk hb, fun b e => ?_, h.chg.trans hc fun _ _ h => h.elim, h.lo⟩
  obtain ⟨h1, z, D, h2, h3, h4⟩ := h.yes b e
  exact ⟨h1, z, D, h2.turn hc (fun h => h), h3, h4.keep hc fun _ _ h => h⟩
theorem idx_div {s : Nat} (hs : 0 < s) (f l : Nat) : (f * s + l) / s = f + l / s ∧ (f * s + l) % s = l % s := by
  constructor
  · rw [Nat.add_comm, Nat.add_mul_div_right _ _ hs, Nat.add_comm]
  · rw [Nat.add_comm, Nat.add_mul_mod_self_right]
section
variable {w : World} {T : Nat} {mb : Option Nat} {Q : Nat → Prop} {a : Int} {s : Nat} {t : TS}
set_option maxHeartbeats 1000000 in
set_option maxRecDepth 100000 in
theorem tape_cut (h : Tp w T mb Q a s t) (x : Int) (hbig : t.f * s + t.B.length ≤ 1000000) : Calls Tryz.prog 103 #[.pointer (some ⟨T, 0, none⟩), .int .i64 x] w fun e w' => e = .returned (.tuple #[]) ∧ Tp w' T mb Q a s (cutT s t x) ∧ Chg Q w w' := by
  have hs := h.s_in
  have hk := fun q => tape_kept x (t.f * s) (t.f * s + t.B.length) (w.drewN q)
  obtain ⟨g1, g2⟩ := left_spec s t x
  have HTP := Lib.hid h
  clear h
  rw [g1] at hk
  generalize hl : left' s t x = l at *
  have HCT : Hid (cutT s t x = ⟨t.f, t.B.take l⟩) := Lib.hid (by unfold cutT; rw [hl])
  obtain ⟨i1, i2⟩ := idx_div (by omega : 0 < s) t.f l
  clear g1 hl
  have hfs : t.f ≤ t.f * s := Nat.le_mul_of_pos_right _ (by omega)
  generalize hF : t.f * s = F at *
  generalize hE : F + t.B.length = E at *
  have HF := Lib.hid hF
  have HE := Lib.hid hE
  have HL := Lib.hid g2
  obtain ⟨c1, c2, _, hsg⟩ := HTP.out.at hF hE
  have hmod := Nat.mod_lt l (by omega : 0 < s)
  have hdle := Nat.div_le_self l s
  have hdp : l / s * s + l % s = l := div_parts
  have hpos := HL.out
  generalize hLL : F + l = C at *
  have HC := Lib.hid hLL
  have hCE : C ≤ E := by omega
  have hF6 : F ≤ 1000000 := by omega
  have q0 : ((s : Int) == 0) = false := by simp; omega
  have q1 : ¬ s = 0 := by omega
  generalize hy : l / s = y at *
  generalize hr : l % s = r at *
  have HY := Lib.hid hy
  have HR := Lib.hid hr
  have d1 : (C : Int).tdiv (s : Int) = ((t.f + y : Nat) : Int) := by rw [← i1]; rfl
  have d2 : (C : Int).tmod (s : Int) = (r : Int) := by rw [← i2]; rfl
  have d3 : IntKind.i64.wrap ((t.f + y : Nat) : Int) = ((t.f + y : Nat) : Int) := IntWalk.i64_in _ (by omega)
  have d4 : IntKind.i64.wrap (r : Int) = (r : Int) := IntWalk.i64_in _ (by omega)
  have HDP := Lib.hid hdp
  have hyb : t.f + y ≤ 1000000 := by omega
  have HYL : Hid (y + 1 ≤ t.B.length + 1) := Lib.hid (by omega)
  clear i1 i2 hF hE g2 hLL hdp hy hr hpos
  go_enter Tryz.func103, Tryz.ntmps103
  go_wp2_with fail
  go_quiet (first
    | (go_at_call 114; exact Calls.quiet_of_same (hk _)))
  go_wp2_with fail
  have HB1 : Hid (Below w.heap.size w (w.drewN nq)) := Lib.hid (below_drewN (Below.refl _ _) nq)
  clear hk hsg c1 c2
  obtain ⟨c1, c2, _, hsg⟩ := (HTP.out.drewN nq).at HF.out HE.out
  have HT1 := Lib.hid (HTP.out.drewN nq)
  generalize w.drewN nq = W1 at *
  go_quiet (first
    | (go_at_call 113; exact Calls.quiet_of_same (hsg _)))
  have HB2 := Lib.hid (below_drewN HB1.out nq)
  have HT2 := Lib.hid (HT1.out.drewN nq)
  clear hsg c1 c2 d1 d2 d3 d4 HB1 HT1
  generalize W1.drewN nq = W2 at *
  by_cases hr0 : 0 < r
  · have hpl : y * s < t.B.length := by have := HL.out; have := HDP.out; omega
    obtain ⟨b, rfl⟩ : ∃ b, mb = some b := by
      cases mb with
      | none =>
        have := (HTP.out.no rfl).2
        rw [this] at hpl
        simp at hpl
      | some b => exact ⟨b, rfl⟩
    obtain ⟨_, z, D, hown, hT, hS⟩ := HT2.out.yes b rfl
    have HO := Lib.hid hown
    have HTM := Lib.hid hT
    have HSG := Lib.hid hS
    have wf : (Lit.int .i64 ((t.f + y : Nat) : Int)).wf = true := WalkArith.wf_i64 (by omega)
    have hlk := look_at (w := W2.drew) (MapB.turn hown ((Chg.refl (fun _ => False) _).drewN 1) (fun h => h)) hT wf
    rw [So_at, if_pos hpl] at hlk
    unfold svV at hlk
    rw [Int.natCast_add] at hlk
    have hsgl : (sgD s t.B y).length = min s (t.B.length - y * s) := sg_len ..
    have hrl : r ≤ (sgD s t.B y).length := by have := HL.out; have := HDP.out; omega
    have hcap : (sgD s t.B y).length ≤ (z (t.f + y)).2 ∧ (z (t.f + y)).2 ≤ maxLen := by
      have hbl := (hS.row y hpl).2.bl
      exact ⟨hbl.cap, hbl.max⟩
    have hmx : (z (t.f + y)).2 ≤ 9223372036854775807 := by have := hcap.2; unfold maxLen at this; omega
    have HSTEP := Lib.hid fun (n : Nat) (w1 : World) (h1 : MapB w1 b n (D.put (kLD ((t.f + l / s : Nat) : Int)) (.held (some ⟨(z (t.f + l / s)).1, 0, none⟩, l % s, (z (t.f + l / s)).2)))) (hc : Chg (fun k => k = b) W2 w1) => cut_part HTP.out HB2.out HL.out (by rw [HR.out]; exact hr0) HO.out HTM.out HSG.out h1 hc
    rw [HY.out, HR.out] at HSTEP
    have h23 : r ≤ (z (t.f + y)).2 := by omega
    have c3 := HT2.out.cells.2.2.2
    clear hown hT hS hsgl
    generalize (sgD s t.B y).length = n0 at *
    generalize (z (t.f + y)).1 = zg at *
    generalize (z (t.f + y)).2 = zc at *
    clear hcap
    go_wp2_with fail
    go_still_tail 13, (by kernel_rfl)
    repeat still_step
    change wpList _ _ _ _ _ W2.drew
    refine wpList_mapUpdate_b rfl _ _ _ rfl b _ D rfl (MapB.turn HO.out ((Chg.refl (fun _ => False) _).drewN 1) (fun h => h)) ?_ ((t.f + y : Nat) : Int) wf rfl (some ⟨zg, 0, none⟩) r zc rfl ?_
    · have := nS_le (s := s) (n := t.B.length) (by omega)
      have := HE.out
      omega
    intro w3 hm3 hc3
    have HS0 : Hid (Cm w w3 T (some b) Q a s t l (y + 1)) := Lib.hid (HSTEP.out _ w3 hm3 hc3.undrew)
    have e9 : ((t.f : Int) + (y : Int)) + 1 = ((t.f + (y + 1) : Nat) : Int) := by omega
    have HJ : Hid (y + 1 ≤ t.B.length + 1) := HYL
    clear HSTEP hlk c3 hm3 hc3 HO HTM HSG wf h23 hrl hpl
    go_wp2_with fail
    go_loopw [6] (fun n wr => ∃ j : Nat, n = .int .i64 (t.f + j : Nat) ∧ Hid (j ≤ t.B.length + 1) ∧ Hid (Cm w wr T (some b) Q a s t l j)) (fun n _ => t.f + t.B.length + 2 - (intOf n).toNat)
    case atStart => exact ⟨y + 1, by go_num, HJ, HS0⟩
    case round =>
      obtain ⟨j, rfl, HJJ, HD⟩ := hrel
      have hblk := HD.out.blk
      rw [HF.out, HE.out] at hblk
      have hP : (t.f + j) * s = F + j * s := by rw [Nat.add_mul, HF.out]
      have hjs : j * s ≤ 1000001 * 4096 := Nat.mul_le_mul (by have := HJJ.out; have := HE.out; omega) hs.2
      have m1 : ((t.f : Int) + (j : Int)) * (s : Int) = ((F + j * s : Nat) : Int) := by
        rw [← hP]
        push_cast
        rfl
      have m2 : IntKind.i64.wrap ((F + j * s : Nat) : Int) = ((F + j * s : Nat) : Int) := IntWalk.i64_in _ (by omega)
      have hcond : F + j * s < E ↔ j * s < t.B.length := by have := HE.out; omega
      have c2 := fun q => show (wr.drewN q).cell? ⟨T, 2, none⟩ = some (.int .i64 (E : Nat)) from block_cell (j := 2) hblk rfl
      have hsg := fun q => tape_seg0 T a s (wr.drewN q) (block_cell (j := 0) hblk rfl) HTP.out.seg
      clear hP hblk
      generalize F + j * s = P at *
      by_cases hlt : P < E
      · have hlt' : decide ((P : Int) < (E : Int)) = true := decide_eq_true (by omega)
        have hlt2 : (P : Int) < (E : Int) := by omega
        go_wp2_with fail
        go_quiet (first
          | (go_at_call 113; exact Calls.quiet_of_same (hsg _)))
        have HD5 := Lib.hid (HD.out.later (below_drewN (Below.refl _ _) nq))
        clear c2 hsg HD m1 m2
        generalize wr.drewN nq = W5 at *
        have hjl := hcond.1 hlt
        obtain ⟨b', hb'⟩ : ∃ b', (some b) = some b' := by
          cases hmb : (some b) with
          | none =>
            have := (HTP.out.no hmb).2
            rw [this] at hjl
            simp at hjl
          | some b' => exact ⟨b', rfl⟩
        obtain rfl : b = b' := by cases hb'; rfl
        clear hb'
        obtain ⟨hQb, z, D, hown, hT, hS⟩ := HD5.out.yes b rfl
        have HTM := Lib.hid hT
        have HSG := Lib.hid hS
        have HO := Lib.hid hown
        have HQB := Lib.hid hQb
        have HJL := Lib.hid hjl
        have c3 := block_cell (j := 3) HD5.out.blk (v := .map (some b)) rfl
        have hjj : j ≤ 1000000 := by have := (lt_nS (s := s) (by omega)).2 hjl; have := nS_le (s := s) (n := t.B.length) (by omega); have := HE.out; omega
        have htf : t.f ≤ 1000000 := by omega
        have wf : (Lit.int .i64 ((t.f + j : Nat) : Int)).wf = true := WalkArith.wf_i64 (by omega)
        clear hown hT hS hQb hcond hjl
        go_wp2_with (first | (at_delete; refine wpList_delete_b rfl _ _ rfl b _ D rfl HO.out ((t.f + j : Nat) : Int) wf rfl ?_; intro w6 hm6 hc6) | fail)
        have HN := Lib.hid (Cm.step (by omega) HD5.out HTP.out.q HL.out HJL.out HQB.out HO.out HTM.out HSG.out hm6 hc6)
        go_wp2_with fail
        go_roundw
        case rel => exact ⟨j + 1, by go_num, Lib.hid (by have := HJL.out; have := (lt_nS (s := s) (by omega)).2 this; have := nS_le (s := s) (n := t.B.length) (by omega); omega), HN⟩
        case measure => simp [intOf]; have := HJJ.out; omega
      · have hlt' : decide ((P : Int) < (E : Int)) = false := decide_eq_false (by omega)
        have hlt2 : ¬ (P : Int) < (E : Int) := by omega
        have HNJ := Lib.hid fun h => hlt (hcond.2 h)
        go_wp2_with fail
        go_quiet (first
          | (go_at_call 113; exact Calls.quiet_of_same (hsg _)))
        have HD5 := Lib.hid (HD.out.later (below_drewN (Below.refl _ _) nq))
        clear c2 hsg HD m1 m2 hcond
        generalize wr.drewN nq = W5 at *
        have c2 := block_cell (j := 2) HD5.out.blk (v := .int .i64 (t.f * s + t.B.length : Nat)) rfl
        have f2 := block_free 2 HD5.out.blk
        have HBLK := Lib.hid HD5.out.blk
        go_wp2_with fail
        go_end0
        rw [HCT.out]
        refine ⟨rfl, ⟨HTP.out.seg, ?_, fun e => ?_, fun b e => (HD5.out.sm (by omega) e HL.out HNJ.out).put HBLK.out 2 _, HTP.out.q⟩, HD5.out.chg.trans (T := fun k => k = T) ((Chg.refl _ _).setCell _ _ fun _ => rfl) fun k _ e => by rw [e]; exact HTP.out.q⟩
        · have hput := block_put 2 (.int .i64 ((C : Nat) : Int)) HBLK.out
          have hx4 : t.f * s + (t.B.take l).length = C := by rw [List.length_take]; have := HC.out; have := HF.out; have := HL.out; omega
          show _ = some (Obj.cells #[.int .i64 a, .int .i64 (t.f * s : Nat), .int .i64 (t.f * s + (t.B.take l).length : Nat), .map _] _ _)
          rw [hx4]
          exact hput
        · obtain ⟨h1, h2⟩ := HTP.out.no e
          exact ⟨h1, by show t.B.take l = []; rw [h2]; simp⟩
  · have hr1 : ¬ (0 : Int) < (r : Int) := by omega
    have hr2 : ¬ 0 < r := hr0
    have HS0 : Hid (Cm w W2 T mb Q a s t l y) := Lib.hid (HY.out ▸ cut_whole HTP.out HB2.out HL.out (by rw [HR.out]; omega))
    have HJ : Hid (y ≤ t.B.length + 1) := Lib.hid (by have := HYL.out; omega)
    go_wp2_with fail
    generalize W2 = w3 at *
    go_loopw [6] (fun n wr => ∃ j : Nat, n = .int .i64 (t.f + j : Nat) ∧ Hid (j ≤ t.B.length + 1) ∧ Hid (Cm w wr T mb Q a s t l j)) (fun n _ => t.f + t.B.length + 2 - (intOf n).toNat)
    case atStart => exact ⟨y, by go_num, HJ, HS0⟩
    case round =>
      obtain ⟨j, rfl, HJJ, HD⟩ := hrel
      have hblk := HD.out.blk
      rw [HF.out, HE.out] at hblk
      have hP : (t.f + j) * s = F + j * s := by rw [Nat.add_mul, HF.out]
      have hjs : j * s ≤ 1000001 * 4096 := Nat.mul_le_mul (by have := HJJ.out; have := HE.out; omega) hs.2
      have m1 : ((t.f : Int) + (j : Int)) * (s : Int) = ((F + j * s : Nat) : Int) := by
        rw [← hP]
        push_cast
        rfl
      have m2 : IntKind.i64.wrap ((F + j * s : Nat) : Int) = ((F + j * s : Nat) : Int) := IntWalk.i64_in _ (by omega)
      have hcond : F + j * s < E ↔ j * s < t.B.length := by have := HE.out; omega
      have c2 := fun q => show (wr.drewN q).cell? ⟨T, 2, none⟩ = some (.int .i64 (E : Nat)) from block_cell (j := 2) hblk rfl
      have hsg := fun q => tape_seg0 T a s (wr.drewN q) (block_cell (j := 0) hblk rfl) HTP.out.seg
      clear hP hblk
      generalize F + j * s = P at *
      by_cases hlt : P < E
      · have hlt' : decide ((P : Int) < (E : Int)) = true := decide_eq_true (by omega)
        have hlt2 : (P : Int) < (E : Int) := by omega
        go_wp2_with fail
        go_quiet (first
          | (go_at_call 113; exact Calls.quiet_of_same (hsg _)))
        have HD5 := Lib.hid (HD.out.later (below_drewN (Below.refl _ _) nq))
        clear c2 hsg HD m1 m2
        generalize wr.drewN nq = W5 at *
        have hjl := hcond.1 hlt
        obtain ⟨b', hb'⟩ : ∃ b', mb = some b' := by
          cases hmb : mb with
          | none =>
            have := (HTP.out.no hmb).2
            rw [this] at hjl
            simp at hjl
          | some b' => exact ⟨b', rfl⟩
        subst hb'
        obtain ⟨hQb, z, D, hown, hT, hS⟩ := HD5.out.yes b' rfl
        have HTM := Lib.hid hT
        have HSG := Lib.hid hS
        have HO := Lib.hid hown
        have HQB := Lib.hid hQb
        have HJL := Lib.hid hjl
        have c3 := block_cell (j := 3) HD5.out.blk (v := .map (some b')) rfl
        have hjj : j ≤ 1000000 := by have := (lt_nS (s := s) (by omega)).2 hjl; have := nS_le (s := s) (n := t.B.length) (by omega); have := HE.out; omega
        have htf : t.f ≤ 1000000 := by omega
        have wf : (Lit.int .i64 ((t.f + j : Nat) : Int)).wf = true := WalkArith.wf_i64 (by omega)
        clear hown hT hS hQb hcond hjl
        go_wp2_with (first | (at_delete; refine wpList_delete_b rfl _ _ rfl b' _ D rfl HO.out ((t.f + j : Nat) : Int) wf rfl ?_; intro w6 hm6 hc6) | fail)
        have HN := Lib.hid (Cm.step (by omega) HD5.out HTP.out.q HL.out HJL.out HQB.out HO.out HTM.out HSG.out hm6 hc6)
        go_wp2_with fail
        go_roundw
        case rel => exact ⟨j + 1, by go_num, Lib.hid (by have := HJL.out; have := (lt_nS (s := s) (by omega)).2 this; have := nS_le (s := s) (n := t.B.length) (by omega); omega), HN⟩
        case measure => simp [intOf]; have := HJJ.out; omega
      · have hlt' : decide ((P : Int) < (E : Int)) = false := decide_eq_false (by omega)
        have hlt2 : ¬ (P : Int) < (E : Int) := by omega
        have HNJ := Lib.hid fun h => hlt (hcond.2 h)
        go_wp2_with fail
        go_quiet (first
          | (go_at_call 113; exact Calls.quiet_of_same (hsg _)))
        have HD5 := Lib.hid (HD.out.later (below_drewN (Below.refl _ _) nq))
        clear c2 hsg HD m1 m2 hcond
        generalize wr.drewN nq = W5 at *
        have c2 := block_cell (j := 2) HD5.out.blk (v := .int .i64 (t.f * s + t.B.length : Nat)) rfl
        have f2 := block_free 2 HD5.out.blk
        have HBLK := Lib.hid HD5.out.blk
        go_wp2_with fail
        go_end0
        rw [HCT.out]
        refine ⟨rfl, ⟨HTP.out.seg, ?_, fun e => ?_, fun b e => (HD5.out.sm (by omega) e HL.out HNJ.out).put HBLK.out 2 _, HTP.out.q⟩, HD5.out.chg.trans (T := fun k => k = T) ((Chg.refl _ _).setCell _ _ fun _ => rfl) fun k _ e => by rw [e]; exact HTP.out.q⟩
        · have hput := block_put 2 (.int .i64 ((C : Nat) : Int)) HBLK.out
          have hx4 : t.f * s + (t.B.take l).length = C := by rw [List.length_take]; have := HC.out; have := HF.out; have := HL.out; omega
          show _ = some (Obj.cells #[.int .i64 a, .int .i64 (t.f * s : Nat), .int .i64 (t.f * s + (t.B.take l).length : Nat), .map _] _ _)
          rw [hx4]
          exact hput
        · obtain ⟨h1, h2⟩ := HTP.out.no e
          exact ⟨h1, by show t.B.take l = []; rw [h2]; simp⟩
end
end Go.Proofs.YtfdgnniicjdjdaaGreatDoor
namespace Go.Proofs.YtfdgnniicjdjdaaGreatDoor
open Go.RowKit Go.ChangeShapes Go.WideShapes
set_option linter.unusedVariables false
set_option maxRecDepth 10000
set_option linter.unusedSimpArgs false
theorem last_row {w : World} {Q : Nat → Prop} {z : Nat → Nat × Nat} {f s : Nat} {B : List Int} (hs : 0 < s) (hS : Seg w Q z f s B) : ∃ p0 c0, Value.slice p0 (sgD s B (B.length / s)).length c0 = svV (So z f s B ((f + B.length / s : Nat) : Int)) ∧ RowB w (.slice p0 (sgD s B (B.length / s)).length c0) (sgD s B (B.length / s)).length (sgD s B (B.length / s)) ∧
    ∀ k, (Value.slice p0 (sgD s B (B.length / s)).length c0).ownBlock = some k → B.length / s * s < B.length ∧ k = (z (f + B.length / s)).1 := by
  rw [So_at]
  by_cases h : B.length / s * s < B.length
  · rw [if_pos h]
    exact ⟨_, _, rfl, (hS.row _ h).2, fun k hk => by cases hk; exact ⟨h, rfl⟩⟩
  · rw [if_neg h]
    have e : sgD s B (B.length / s) = [] := List.eq_nil_of_length_eq_zero (by rw [sg_len]; omega)
    rw [e]
    exact ⟨none, 0, rfl, RowB.nil w, fun k hk => by cases hk⟩
theorem app_one {W : World} {T b f s : Nat} {Q : Nat → Prop} {B x : List Int} {cT : Array Value} {z : Nat → Nat × Nat} {D : DataW Sv} (hs : 0 < s) (hblk : W.heap[T]? = some (.cells cT 171 (0, 0))) (hQb : Q b)
    (hm : MapB W b (nSD s B.length) D) (hT : Tm D (So z f s B) (nSD s B.length)) (hS : Seg W Q z f s B) (hx0 : 0 < x.length) (hx : x.length ≤ s - B.length % s) {p0 : Option Addr} {n0 c0 : Nat} (hn0 : n0 = (sgD s B (B.length / s)).length)
    (hv : Value.slice p0 n0 c0 = svV (So z f s B ((f + B.length / s : Nat) : Int))) (ho : ∀ k, (Value.slice p0 n0 c0).ownBlock = some k → B.length / s * s < B.length ∧ k = (z (f + B.length / s)).1)
    (p' : Option Addr) (c' : Nat) (w1 : World) (h1 : RowB w1 (.slice p' (n0 + x.length) c') (n0 + x.length) (sgD s B (B.length / s) ++ x)) (h2 : Chg (fun k => (Value.slice p0 n0 c0).ownBlock = some k) W.drew w1)
    (h3 : ∀ k, (Value.slice p' (n0 + x.length) c').ownBlock = some k → (Value.slice p0 n0 c0).ownBlock = some k ∨ W.drew.heap.size ≤ k) :
    w1.heap[T]? = some (.cells cT 171 (0, 0)) ∧ MapB w1 b (nSD s B.length) D ∧
    ∀ w2, MapB w2 b (nSD s B.length + 1) (D.put (kLD ((f + B.length / s : Nat) : Int)) (.held (p', n0 + x.length, c'))) → Chg (fun k => k = b) w1 w2 → w2.heap[T]? = some (.cells cT 171 (0, 0)) ∧ Sm w2 (fun k => Q k ∨ W.heap.size ≤ k) b f s (B ++ x) ∧ Chg Q W w2 := by
  have h2' : Chg (fun k => (Value.slice p0 n0 c0).ownBlock = some k) W w1 := h2.undrew (q := 1)
  have hne : ∀ k, (Value.slice p0 n0 c0).ownBlock = some k → k ≠ T ∧ k ≠ b ∧ Q k := by
    intro k hk
    obtain ⟨e1, e2⟩ := ho k hk
    refine ⟨fun e => ?_, e2 ▸ hS.ne_map hm _ e1, e2 ▸ (hS.row _ e1).1⟩
    rcases (hS.row _ e1).2.own.2 with ⟨h5, _⟩ | ⟨g5, c5, cur5, h5, _, h6, _⟩
    · cases h5
    · cases h5
      rw [← e2, e, hblk] at h6
      cases h6
  obtain ⟨g, rfl⟩ : ∃ g, p' = some ⟨g, 0, none⟩ := by
    obtain ⟨p2, c2, he, _, _, hg⟩ := h1.sl
    cases he
    exact hg (by omega)
  have hb1 : w1.heap[T]? = some (.cells cT 171 (0, 0)) := (h2'.block T (block_lt hblk) (fun e => (hne T e).1 rfl)).trans hblk
  refine ⟨hb1, hm.turn h2' (fun e => (hne b e).2.1 rfl), fun w2 hm2 hc2 => ?_⟩
  have hTb : ¬ T = b := hm.ne hblk
  have hsg : sgD s (B ++ x) (B.length / s) = sgD s B (B.length / s) ++ x := sg_app_same hs B x hx
  refine ⟨(hc2.block T (block_lt hb1) hTb).trans hb1, Sm.grown (v := .slice p0 n0 c0) hs hQb hm hT hS hx0 hx hv (n := n0 + x.length) ?_ (by rw [hsg]; exact h1) h2' (h3 g rfl) _ hm2 hc2, ?_⟩
  · rw [hsg, List.length_append, hn0]
  · exact (h2'.mono fun k _ e => (hne k e).2.2).trans hc2 fun k _ e => by rw [e]; exact hQb
end Go.Proofs.YtfdgnniicjdjdaaGreatDoor
namespace Go.Proofs.YtfdgnniicjdjdaaGreatDoor
open Go.RowKit Go.ChangeShapes Go.WideShapes
set_option linter.unusedVariables false
set_option maxRecDepth 10000
set_option linter.unusedSimpArgs false
theorem wf_nat (n : Nat) (h : n ≤ 1000000) : (Lit.int .i64 (n : Int)).wf = true := WalkArith.wf_i64 (by omega)
theorem map_nil_in (d : Nat) (q : Option Nat) (w : World) : (Op.equalIn (d + 1) 169 (.map q) (.map none)).run Tryz.prog w = .ok q.isNone w := by
  cases q <;> simp [Op.equalIn, run_underlying Tryz.underlying169]
theorem map_nil (q : Option Nat) (w : World) : (binOp .eql 169 (.map q) (.map none)).run Tryz.prog w = .ok (.bool q.isNone) w := by
  simp only [binOp]
  simp [show Op.equal 169 (.map q) (.map none) = Op.equalIn (9999 + 1) 169 (.map q) (.map none) from rfl, map_nil_in 9999 q w]
def lenV : Value → Nat
  | .slice _ n _ => n
  | _ => 0
theorem Tp.made {w : World} {T : Nat} {Q : Nat → Prop} {a : Int} {s : Nat} {t : TS} (h : Tp w T none Q a s t) : Tp ((w.alloc (.map #[] 0)).setCell ⟨T, 3, none⟩ (.map (some w.heap.size))) T (some w.heap.size) (fun k => Q k ∨ w.heap.size ≤ k) a s t ∧ Chg Q w ((w.alloc (.map #[] 0)).setCell ⟨T, 3, none⟩ (.map (some w.heap.size))) := by
  have hb1 : Below w.heap.size w (w.alloc (.map #[] 0)) := (Below.refl _ _).alloc (Nat.le_refl _) _
  have hT := block_later h.blk hb1
  have hlt := block_lt h.blk
  obtain ⟨h1, h2⟩ := h.no rfl
  have hc : Chg (fun k => k = T) (w.alloc (.map #[] 0)) ((w.alloc (.map #[] 0)).setCell ⟨T, 3, none⟩ (.map (some w.heap.size))) := (Chg.refl _ _).setCell _ _ fun _ => rfl
  have hn0 : nSD s 0 = 0 := nS_eq (by have := h.s_in; omega) (by omega) (fun i hi => by omega)
  refine ⟨⟨h.seg, block_put 3 _ hT, fun e => (by cases e), fun b e => ?_, .inl h.q⟩, (Chg.of_below hb1).trans hc fun k _ e => by rw [e]; exact h.q⟩
  cases e
  rw [h1, h2]
  refine ⟨.inr (Nat.le_refl _), fun _ => (0, 0), .map [], ?_, ?_, Seg.zero _ _ _ _ _⟩
  · have := (World.ownsMap_made (H := Sv) w Tryz.prog 2 heldElem).setCell (a := ⟨T, 3, none⟩) (by show w.heap.size ≠ T; omega) (.map (some w.heap.size))
    rw [List.length_nil, hn0]
    exact this
  · rw [List.length_nil, hn0]
    exact Tm.empty.congr (fun y => by unfold So; rw [if_neg (by simp)]) rfl
section
variable {w : World} {T : Nat} {mb : Option Nat} {Q : Nat → Prop} {a : Int} {s : Nat} {t : TS}
set_option maxHeartbeats 2000000 in
set_option maxRecDepth 100000 in
theorem tape_add (h : Tp w T mb Q a s t) (p : Option Addr) (m c : Nat) (b : List Int) (hb : BL w p m c b) (hap : 0 < m → ∀ a, p = some a → ¬ Q a.block) (hbig : t.f * s + t.B.length + m ≤ 1000000) :
    Calls Tryz.prog 68 #[.pointer (some ⟨T, 0, none⟩), .slice p m c] w fun e w' => e = .returned (.tuple #[]) ∧ (∃ mb', Tp w' T mb' (fun k => Q k ∨ w.heap.size ≤ k) a s (appT t b)) ∧ Chg Q w w' := by
  have hs := h.s_in
  have HB : Hid (b.length = m) := Lib.hid hb.len
  have HSEG := Lib.hid h.seg
  have HBIG := Lib.hid hbig
  have hap2 : 0 < m → ∀ a, p = some a → ¬ (Q a.block ∨ w.heap.size ≤ a.block) := fun h0 ad ha => by
    obtain ⟨b0, off, he, hlt, _⟩ := BL.at hb h0
    rw [he] at ha
    cases ha
    rintro (e | e)
    · exact hap h0 _ he e
    · have : w.heap.size ≤ b0 := e
      omega
  have HAP := Lib.hid hap2
  have HLO := Lib.hid (Nat.le_refl w.heap.size)
  clear hap hap2 hbig
  cases mb with
  | some mb =>
    have HTP : Hid (Tp w T (some mb) (fun k => Q k ∨ w.heap.size ≤ k) a s t) := Lib.hid (h.mono fun k hk _ => .inl hk)
    have HCH := Lib.hid (Chg.refl Q w)
    have HBL := Lib.hid hb
    have c3 := h.cells.2.2.2
    have hq := map_nil (some mb)
    clear h hb
    go_enter Tryz.func68, Tryz.ntmps68
    go_wp2_with fail
    clear c3 hq
    obtain ⟨W1, hW1⟩ : ∃ W1, W1 = w := ⟨_, rfl⟩
    have HTP1 : Hid (Tp W1 T (some mb) (fun k => Q k ∨ w.heap.size ≤ k) a s t) := by rw [hW1]; exact HTP
    have HCH1 : Hid (Chg Q w W1) := by rw [hW1]; exact HCH
    have HBL1 : Hid (BL W1 p m c b) := by rw [hW1]; exact HBL
    rw [← hW1]
    clear hW1 HTP HCH HBL
    go_loopw [1] (fun bv wr => ∃ (j : Nat) (pj : Option Addr) (cj : Nat), j ≤ m ∧ bv = .slice pj (m - j) cj ∧ Hid (BL wr pj (m - j) cj (b.drop j)) ∧ Hid (0 < m - j → ∀ a, pj = some a → ¬ (Q a.block ∨ w.heap.size ≤ a.block)) ∧ Hid (Tp wr T (some mb) (fun k => Q k ∨ w.heap.size ≤ k) a s ⟨t.f, t.B ++ b.take j⟩) ∧ Hid (Chg Q w wr)) (fun bv _ => lenV bv)
    case atStart => exact ⟨0, p, c, Nat.zero_le _, rfl, HBL1, HAP, by simpa using HTP1, HCH1⟩
    case round =>
      obtain ⟨j, pj, cj, hj, rfl, HBJ, HAJ, HTJ, HCJ⟩ := hrel
      have HJ := Lib.hid hj
      obtain ⟨k, hk⟩ : ∃ k, m - j = k := ⟨_, rfl⟩
      rw [hk] at HBJ HAJ ⊢
      have HK := Lib.hid hk
      clear hk hj
      by_cases hk0 : 0 < k
      · have hk0' : (0 : Int) < (k : Int) := by omega
        obtain ⟨pb, po, rfl, _, _⟩ := HBJ.out.at hk0
        have hlj : (t.B ++ b.take j).length + k = t.B.length + m := by
          rw [List.length_append, List.length_take]
          have := HB.out; have := HK.out; have := HJ.out
          omega
        have HBX : Hid (t.B ++ b.take j ++ (b.drop j).take (min (s - (t.B ++ b.take j).length % s) k) = t.B ++ b.take (j + min (s - (t.B ++ b.take j).length % s) k)) := Lib.hid (by rw [List.append_assoc, ← List.take_add])
        have HDX : Hid (∀ n, (b.drop j).drop n = b.drop (j + n)) := Lib.hid fun n => List.drop_drop
        generalize t.B ++ b.take j = B at *
        generalize b.drop j = L at *
        obtain ⟨i1, i2⟩ := idx_div (by omega : 0 < s) t.f B.length
        have hmod := Nat.mod_lt B.length (by omega : 0 < s)
        have hcap := HBJ.out.cap
        have hmax : cj ≤ 9223372036854775807 := by have := HBJ.out.max; unfold maxLen at this; omega
        have hE2 : t.f * s + B.length ≤ 1000000 := by have := HBIG.out; omega
        have hdb := Nat.div_le_self B.length s
        have hfs : t.f ≤ t.f * s := Nat.le_mul_of_pos_right _ (by omega)
        have HTWO : Hid (t.f * s + B.length + k ≤ 1000000) := Lib.hid (by have := HBIG.out; omega)
        obtain ⟨c1, c2, c3, hsg⟩ := HTJ.out.at rfl rfl
        clear c1 c3
        have hlk : t.f + B.length / s ≤ 1000000 := by omega
        have q0 : ((s : Int) == 0) = false := by simp; omega
        have q1 : ¬ s = 0 := by omega
        dsimp only at c2
        generalize hyy : B.length / s = y at *
        generalize hrr : B.length % s = r at *
        generalize hEE : t.f * s + B.length = E at *
        have d1 : (E : Int).tdiv (s : Int) = ((t.f + y : Nat) : Int) := by rw [← i1]; rfl
        have d2 : (E : Int).tmod (s : Int) = (r : Int) := by rw [← i2]; rfl
        have d3 : IntKind.i64.wrap ((t.f + y : Nat) : Int) = ((t.f + y : Nat) : Int) := IntWalk.i64_in _ (by omega)
        have d4 : IntKind.i64.wrap (r : Int) = (r : Int) := IntWalk.i64_in _ (by omega)
        have d5 : IntKind.i64.wrap ((s : Int) - (r : Int)) = ((s : Int) - (r : Int)) := IntWalk.i64_in _ (by omega)
        have hnpos : 0 < min (s - r) k := by omega
        have hnk : min (s - r) k ≤ k := by omega
        have hnr : min (s - r) k ≤ s - r := by omega
        have n1 : min ((s : Int) - (r : Int)) (k : Int) = ((min (s - r) k : Nat) : Int) := by omega
        have n2 : (if (k : Int) < (s : Int) - (r : Int) then (k : Int) else (s : Int) - (r : Int)) = ((min (s - r) k : Nat) : Int) := by split <;> omega
        generalize hnn : min (s - r) k = n at *
        have hnc : n ≤ cj := by omega
        have HYY := Lib.hid hyy
        have HRR := Lib.hid hrr
        have HEE := Lib.hid hEE
        clear i1 i2 hyy hrr hEE hnn hdb hfs
        go_wp2_with fail
        go_quiet (first
          | (go_at_call 113; exact Calls.quiet_of_same (hsg _)))
        have HT2 := Lib.hid (HTJ.out.drewN nq)
        have HB2 := Lib.hid (SlG.later HBJ.out (below_drewN (Below.refl _ _) nq))
        have HC2 := Lib.hid (HCJ.out.drewN nq)
        clear HTJ HBJ HCJ c2 hsg d1 d2 d3 d4 d5
        generalize wr.drewN nq = W2 at *
        obtain ⟨hQb, z, D, hown, hT, hS⟩ := HT2.out.yes mb rfl
        dsimp only at hown hT hS
        have hblk := HT2.out.blk
        dsimp only at hblk
        obtain ⟨p0, c0, hv, hrow, hown0⟩ := last_row (by omega) hS
        have hlx : (L.take n).length = n := by rw [List.length_take, HB2.out.len]; omega
        have hone := fun (p' : Option Addr) (c' : Nat) (w1 : World) => app_one (x := L.take n) (by omega) hblk hQb hown hT hS (by omega) (by rw [HRR.out]; omega) rfl hv hown0 p' c' w1
        rw [hlx] at hone
        have wf : (Lit.int .i64 ((t.f + y : Nat) : Int)).wf = true := wf_nat _ hlk
        have hlook := look_at (w := W2.drew) (MapB.turn hown ((Chg.refl (fun _ => False) _).drewN 1) (fun h => h)) hT wf
        rw [HYY.out] at hv hrow hone
        rw [← hv, Int.natCast_add] at hlook
        have hnb : (sgD s B y).length + n ≤ 1000000 := by
          rw [sg_len]
          have := HTWO.out
          omega
        have HNS := Lib.hid (show nSD s B.length ≤ 1000000 from Nat.le_trans (nS_le (by omega)) (by have := HEE.out; omega))
        have HO := Lib.hid (MapB.turn hown ((Chg.refl (fun _ => False) W2).drewN 1) (fun h => h))
        have HONE := Lib.hid hone
        have HROW := Lib.hid (hrow.later (Below.refl _ _).drew)
        have HBT : Hid (BL W2.drew (some ⟨pb, po, none⟩) n cj (L.take n)) := Lib.hid (SlG.later (SlG.take HB2.out n hnk) (Below.refl _ _).drew)
        have HWF := Lib.hid wf
        have c3 : W2.drew.cell? ⟨T, 3, none⟩ = some (.map (some mb)) := HT2.out.cells.2.2.2
        clear hown hT hS hv hrow hown0 hone hlx hblk wf
        generalize (sgD s B y).length = n0 at *
        go_wp2_with fail
        go_region_law (first
          | (refine step_append_rb rfl (.tmp 52) (.tmp 55) rfl (.slice p0 n0 c0) n0 (sgD s B y) (by simp [Act.eval]) HROW.out (some ⟨pb, po, none⟩) n cj (L.take n) (by simp [Act.eval]) HBT.out hnb ?_; intro p' c' w1 hr1 hc1 hl1 _; obtain ⟨hT1, hM1, hS1⟩ := HONE.out p' c' w1 hr1 hc1 hl1; have e3 := block_cell (j := 3) hT1 (v := .map (some mb)) rfl; obtain ⟨w2, hrun2, hm2, hc2⟩ := upd_at hM1 HNS.out HWF.out p' (n0 + n) c'; rw [Int.natCast_add] at hrun2; have hF := Lib.hid (hS1 w2 hm2 hc2); clear hS1 hm2 hc2 hM1 hT1 hr1 hc1 hl1))
        all_goals
          obtain ⟨hT3, hS3, hC3⟩ := hF.out
          have HT3 := Lib.hid hT3
          have HS3 := Lib.hid hS3
          have HC3 := Lib.hid hC3
          have x2 := block_cell (j := 2) hT3 (v := .int .i64 (t.f * s + B.length : Nat)) rfl
          rw [HEE.out] at x2
          have g2 := block_free 2 hT3
          obtain ⟨E2, hE2⟩ : ∃ E2, E + n = E2 := ⟨_, rfl⟩
          have HE2 := Lib.hid hE2
          have hE2b : E2 ≤ 1000000 := by have := HTWO.out; have := HEE.out; omega
          have HBN : Hid (∀ v q, (n < k → q = some ⟨pb, po + n, none⟩) → (q = none → cj = n) → BL (w2.setCell ⟨T, 2, none⟩ v) q (k - n) (cj - n) (b.drop (j + n))) := Lib.hid fun v q h1 h2 => by
            have hb2 : BL w2 (some ⟨pb, po, none⟩) k cj L := BL.keep HB2.out HC3.out fun h0 ad ha hq => HAJ.out hk0 ad ha hq
            have hcT : Chg (fun k => k = T) w2 (w2.setCell ⟨T, 2, none⟩ v) := (Chg.refl _ _).setCell _ _ fun _ => rfl
            have hb3 : BL (w2.setCell ⟨T, 2, none⟩ v) (some ⟨pb, po, none⟩) k cj L := BL.keep hb2 hcT fun h0 ad ha hq => HAJ.out hk0 ad ha (by rw [show ad.block = T from hq]; exact HT2.out.q)
            rw [← HDX.out]
            exact BL.drop hb3 n hnk q (fun h0 b' off' he => by cases he; exact h1 h0) h2
          have HTN : Hid (Tp (w2.setCell ⟨T, 2, none⟩ (.int .i64 ((E2 : Nat) : Int))) T (some mb) (fun k => Q k ∨ w.heap.size ≤ k) a s ⟨t.f, t.B ++ b.take (j + n)⟩) := Lib.hid ⟨HSEG.out, by
              have hp := block_put 2 (.int .i64 ((E2 : Nat) : Int)) HT3.out
              have hl : t.f * s + (t.B ++ b.take (j + n)).length = E2 := by
                rw [← HBX.out, List.length_append, List.length_take, HB2.out.len]
                have := HEE.out
                have := HE2.out
                omega
              rw [hl]
              exact hp, fun e => (by cases e), fun b' e => by
              cases e
              have h1 := HS3.out.put HT3.out 2 (.int .i64 ((E2 : Nat) : Int))
              rw [HBX.out] at h1
              exact h1.mono fun k hk _ => by
                rcases hk with hk | hk
                · exact hk
                · have := HC2.out.size
                  exact .inr (by omega), HT2.out.q⟩
          have HCN : Hid (Chg Q w (w2.setCell ⟨T, 2, none⟩ (.int .i64 ((E2 : Nat) : Int)))) := Lib.hid (HC2.out.trans (HC3.out.trans (T := fun k => k = T) ((Chg.refl _ _).setCell _ _ fun _ => rfl) fun k _ e => by rw [e]; exact HT2.out.q) fun k hk hq => by
            rcases hq with hq | hq
            · exact hq
            · omega)
          have hen : (E : Int) + (n : Int) = (E2 : Int) := by omega
          have HAN : Hid (∀ q, (n < k → q = some (⟨pb, po + n, none⟩ : Addr)) → 0 < k - n → ∀ a, q = some a → ¬ (Q a.block ∨ w.heap.size ≤ a.block)) := Lib.hid fun q h1 h2 ad ha => by
            have := h1 (by omega)
            rw [this] at ha
            cases ha
            exact HAJ.out hk0 ⟨pb, po, none⟩ rfl
          have hkn : m - (j + n) = k - n := by have := HK.out; omega
          have hjn : j + n ≤ m := by have := HK.out; have := HJ.out; omega
          clear hT3 hS3 hC3 hE2 hF hrun2 e3 c3 hlook HT2 HB2 HC2 HAJ HROW HBT HONE HO
          go_wp2_with fail
          have hq1 : n < k → (if cj = n then some (⟨pb, po, none⟩ : Addr) else some ⟨pb, po + n, none⟩) = some ⟨pb, po + n, none⟩ := fun h => if_neg (by omega)
          refine ⟨⟨j + n, _, cj - n, hjn, by rw [hkn], ?_, ?_, HTN, HCN⟩, ?_⟩
          · rw [hkn]
            exact Lib.hid (HBN.out _ _ hq1 fun e => by split at e <;> cases e)
          · rw [hkn]
            exact Lib.hid (HAN.out _ hq1)
          · show k - n < k
            omega
      · obtain rfl : k = 0 := by omega
        go_wp2_with fail
        go_end0
        have e : j = m := by have := HK.out; have := HJ.out; omega
        subst e
        refine ⟨rfl, ⟨some mb, ?_⟩, HCJ.out⟩
        have h1 := HTJ.out
        rw [List.take_of_length_le (by rw [HB.out]; exact Nat.le_refl _)] at h1
        exact h1
  | none =>
    obtain ⟨htp, hch⟩ := h.made
    have hbl1 : BL ((w.alloc (.map #[] 0)).setCell ⟨T, 3, none⟩ (.map (some w.heap.size))) p m c b := BL.keep hb hch fun h0 ad ha hq => HAP.out h0 ad ha (.inl hq)
    have HTP1 := Lib.hid htp
    have HCH1 := Lib.hid hch
    have HBL1 := Lib.hid hbl1
    have c3 := h.cells.2.2.2
    have d3 := block_cell (j := 3) (block_later h.blk ((Below.refl _ _).alloc (Nat.le_refl _) (.map #[] 0))) (v := .map none) rfl
    have f3 := block_free 3 (block_later h.blk ((Below.refl _ _).alloc (Nat.le_refl _) (.map #[] 0)))
    have hq := map_nil none
    have hmm := @run_makeMap Tryz.prog
    clear h hb htp hch hbl1
    go_enter Tryz.func68, Tryz.ntmps68
    go_wp2_with fail
    clear c3 d3 f3 hq hmm
    generalize (w.alloc (.map #[] 0)).setCell ⟨T, 3, none⟩ (.map (some w.heap.size)) = W1 at *
    obtain ⟨mb, HTP1⟩ : ∃ mb, Hid (Tp W1 T (some mb) (fun k => Q k ∨ w.heap.size ≤ k) a s t) := ⟨_, HTP1⟩
    go_loopw [1] (fun bv wr => ∃ (j : Nat) (pj : Option Addr) (cj : Nat), j ≤ m ∧ bv = .slice pj (m - j) cj ∧ Hid (BL wr pj (m - j) cj (b.drop j)) ∧ Hid (0 < m - j → ∀ a, pj = some a → ¬ (Q a.block ∨ w.heap.size ≤ a.block)) ∧ Hid (Tp wr T (some mb) (fun k => Q k ∨ w.heap.size ≤ k) a s ⟨t.f, t.B ++ b.take j⟩) ∧ Hid (Chg Q w wr)) (fun bv _ => lenV bv)
    case atStart => exact ⟨0, p, c, Nat.zero_le _, rfl, HBL1, HAP, by simpa using HTP1, HCH1⟩
    case round =>
      obtain ⟨j, pj, cj, hj, rfl, HBJ, HAJ, HTJ, HCJ⟩ := hrel
      have HJ := Lib.hid hj
      obtain ⟨k, hk⟩ : ∃ k, m - j = k := ⟨_, rfl⟩
      rw [hk] at HBJ HAJ ⊢
      have HK := Lib.hid hk
      clear hk hj
      by_cases hk0 : 0 < k
      · have hk0' : (0 : Int) < (k : Int) := by omega
        obtain ⟨pb, po, rfl, _, _⟩ := HBJ.out.at hk0
        have hlj : (t.B ++ b.take j).length + k = t.B.length + m := by
          rw [List.length_append, List.length_take]
          have := HB.out; have := HK.out; have := HJ.out
          omega
        have HBX : Hid (t.B ++ b.take j ++ (b.drop j).take (min (s - (t.B ++ b.take j).length % s) k) = t.B ++ b.take (j + min (s - (t.B ++ b.take j).length % s) k)) := Lib.hid (by rw [List.append_assoc, ← List.take_add])
        have HDX : Hid (∀ n, (b.drop j).drop n = b.drop (j + n)) := Lib.hid fun n => List.drop_drop
        generalize t.B ++ b.take j = B at *
        generalize b.drop j = L at *
        obtain ⟨i1, i2⟩ := idx_div (by omega : 0 < s) t.f B.length
        have hmod := Nat.mod_lt B.length (by omega : 0 < s)
        have hcap := HBJ.out.cap
        have hmax : cj ≤ 9223372036854775807 := by have := HBJ.out.max; unfold maxLen at this; omega
        have hE2 : t.f * s + B.length ≤ 1000000 := by have := HBIG.out; omega
        have hdb := Nat.div_le_self B.length s
        have hfs : t.f ≤ t.f * s := Nat.le_mul_of_pos_right _ (by omega)
        have HTWO : Hid (t.f * s + B.length + k ≤ 1000000) := Lib.hid (by have := HBIG.out; omega)
        obtain ⟨c1, c2, c3, hsg⟩ := HTJ.out.at rfl rfl
        clear c1 c3
        have hlk : t.f + B.length / s ≤ 1000000 := by omega
        have q0 : ((s : Int) == 0) = false := by simp; omega
        have q1 : ¬ s = 0 := by omega
        dsimp only at c2
        generalize hyy : B.length / s = y at *
        generalize hrr : B.length % s = r at *
        generalize hEE : t.f * s + B.length = E at *
        have d1 : (E : Int).tdiv (s : Int) = ((t.f + y : Nat) : Int) := by rw [← i1]; rfl
        have d2 : (E : Int).tmod (s : Int) = (r : Int) := by rw [← i2]; rfl
        have d3 : IntKind.i64.wrap ((t.f + y : Nat) : Int) = ((t.f + y : Nat) : Int) := IntWalk.i64_in _ (by omega)
        have d4 : IntKind.i64.wrap (r : Int) = (r : Int) := IntWalk.i64_in _ (by omega)
        have d5 : IntKind.i64.wrap ((s : Int) - (r : Int)) = ((s : Int) - (r : Int)) := IntWalk.i64_in _ (by omega)
        have hnpos : 0 < min (s - r) k := by omega
        have hnk : min (s - r) k ≤ k := by omega
        have hnr : min (s - r) k ≤ s - r := by omega
        have n1 : min ((s : Int) - (r : Int)) (k : Int) = ((min (s - r) k : Nat) : Int) := by omega
        have n2 : (if (k : Int) < (s : Int) - (r : Int) then (k : Int) else (s : Int) - (r : Int)) = ((min (s - r) k : Nat) : Int) := by split <;> omega
        generalize hnn : min (s - r) k = n at *
        have hnc : n ≤ cj := by omega
        have HYY := Lib.hid hyy
        have HRR := Lib.hid hrr
        have HEE := Lib.hid hEE
        clear i1 i2 hyy hrr hEE hnn hdb hfs
        go_wp2_with fail
        go_quiet (first
          | (go_at_call 113; exact Calls.quiet_of_same (hsg _)))
        have HT2 := Lib.hid (HTJ.out.drewN nq)
        have HB2 := Lib.hid (SlG.later HBJ.out (below_drewN (Below.refl _ _) nq))
        have HC2 := Lib.hid (HCJ.out.drewN nq)
        clear HTJ HBJ HCJ c2 hsg d1 d2 d3 d4 d5
        generalize wr.drewN nq = W2 at *
        obtain ⟨hQb, z, D, hown, hT, hS⟩ := HT2.out.yes mb rfl
        dsimp only at hown hT hS
        have hblk := HT2.out.blk
        dsimp only at hblk
        obtain ⟨p0, c0, hv, hrow, hown0⟩ := last_row (by omega) hS
        have hlx : (L.take n).length = n := by rw [List.length_take, HB2.out.len]; omega
        have hone := fun (p' : Option Addr) (c' : Nat) (w1 : World) => app_one (x := L.take n) (by omega) hblk hQb hown hT hS (by omega) (by rw [HRR.out]; omega) rfl hv hown0 p' c' w1
        rw [hlx] at hone
        have wf : (Lit.int .i64 ((t.f + y : Nat) : Int)).wf = true := wf_nat _ hlk
        have hlook := look_at (w := W2.drew) (MapB.turn hown ((Chg.refl (fun _ => False) _).drewN 1) (fun h => h)) hT wf
        rw [HYY.out] at hv hrow hone
        rw [← hv, Int.natCast_add] at hlook
        have hnb : (sgD s B y).length + n ≤ 1000000 := by
          rw [sg_len]
          have := HTWO.out
          omega
        have HNS := Lib.hid (show nSD s B.length ≤ 1000000 from Nat.le_trans (nS_le (by omega)) (by have := HEE.out; omega))
        have HO := Lib.hid (MapB.turn hown ((Chg.refl (fun _ => False) W2).drewN 1) (fun h => h))
        have HONE := Lib.hid hone
        have HROW := Lib.hid (hrow.later (Below.refl _ _).drew)
        have HBT : Hid (BL W2.drew (some ⟨pb, po, none⟩) n cj (L.take n)) := Lib.hid (SlG.later (SlG.take HB2.out n hnk) (Below.refl _ _).drew)
        have HWF := Lib.hid wf
        have c3 : W2.drew.cell? ⟨T, 3, none⟩ = some (.map (some mb)) := HT2.out.cells.2.2.2
        clear hown hT hS hv hrow hown0 hone hlx hblk wf
        generalize (sgD s B y).length = n0 at *
        go_wp2_with fail
        go_region_law (first
          | (refine step_append_rb rfl (.tmp 52) (.tmp 55) rfl (.slice p0 n0 c0) n0 (sgD s B y) (by simp [Act.eval]) HROW.out (some ⟨pb, po, none⟩) n cj (L.take n) (by simp [Act.eval]) HBT.out hnb ?_; intro p' c' w1 hr1 hc1 hl1 _; obtain ⟨hT1, hM1, hS1⟩ := HONE.out p' c' w1 hr1 hc1 hl1; have e3 := block_cell (j := 3) hT1 (v := .map (some mb)) rfl; obtain ⟨w2, hrun2, hm2, hc2⟩ := upd_at hM1 HNS.out HWF.out p' (n0 + n) c'; rw [Int.natCast_add] at hrun2; have hF := Lib.hid (hS1 w2 hm2 hc2); clear hS1 hm2 hc2 hM1 hT1 hr1 hc1 hl1))
        all_goals
          obtain ⟨hT3, hS3, hC3⟩ := hF.out
          have HT3 := Lib.hid hT3
          have HS3 := Lib.hid hS3
          have HC3 := Lib.hid hC3
          have x2 := block_cell (j := 2) hT3 (v := .int .i64 (t.f * s + B.length : Nat)) rfl
          rw [HEE.out] at x2
          have g2 := block_free 2 hT3
          obtain ⟨E2, hE2⟩ : ∃ E2, E + n = E2 := ⟨_, rfl⟩
          have HE2 := Lib.hid hE2
          have hE2b : E2 ≤ 1000000 := by have := HTWO.out; have := HEE.out; omega
          have HBN : Hid (∀ v q, (n < k → q = some ⟨pb, po + n, none⟩) → (q = none → cj = n) → BL (w2.setCell ⟨T, 2, none⟩ v) q (k - n) (cj - n) (b.drop (j + n))) := Lib.hid fun v q h1 h2 => by
            have hb2 : BL w2 (some ⟨pb, po, none⟩) k cj L := BL.keep HB2.out HC3.out fun h0 ad ha hq => HAJ.out hk0 ad ha hq
            have hcT : Chg (fun k => k = T) w2 (w2.setCell ⟨T, 2, none⟩ v) := (Chg.refl _ _).setCell _ _ fun _ => rfl
            have hb3 : BL (w2.setCell ⟨T, 2, none⟩ v) (some ⟨pb, po, none⟩) k cj L := BL.keep hb2 hcT fun h0 ad ha hq => HAJ.out hk0 ad ha (by rw [show ad.block = T from hq]; exact HT2.out.q)
            rw [← HDX.out]
            exact BL.drop hb3 n hnk q (fun h0 b' off' he => by cases he; exact h1 h0) h2
          have HTN : Hid (Tp (w2.setCell ⟨T, 2, none⟩ (.int .i64 ((E2 : Nat) : Int))) T (some mb) (fun k => Q k ∨ w.heap.size ≤ k) a s ⟨t.f, t.B ++ b.take (j + n)⟩) := Lib.hid ⟨HSEG.out, by
              have hp := block_put 2 (.int .i64 ((E2 : Nat) : Int)) HT3.out
              have hl : t.f * s + (t.B ++ b.take (j + n)).length = E2 := by
                rw [← HBX.out, List.length_append, List.length_take, HB2.out.len]
                have := HEE.out
                have := HE2.out
                omega
              rw [hl]
              exact hp, fun e => (by cases e), fun b' e => by
              cases e
              have h1 := HS3.out.put HT3.out 2 (.int .i64 ((E2 : Nat) : Int))
              rw [HBX.out] at h1
              exact h1.mono fun k hk _ => by
                rcases hk with hk | hk
                · exact hk
                · have := HC2.out.size
                  exact .inr (by omega), HT2.out.q⟩
          have HCN : Hid (Chg Q w (w2.setCell ⟨T, 2, none⟩ (.int .i64 ((E2 : Nat) : Int)))) := Lib.hid (HC2.out.trans (HC3.out.trans (T := fun k => k = T) ((Chg.refl _ _).setCell _ _ fun _ => rfl) fun k _ e => by rw [e]; exact HT2.out.q) fun k hk hq => by
            rcases hq with hq | hq
            · exact hq
            · omega)
          have hen : (E : Int) + (n : Int) = (E2 : Int) := by omega
          have HAN : Hid (∀ q, (n < k → q = some (⟨pb, po + n, none⟩ : Addr)) → 0 < k - n → ∀ a, q = some a → ¬ (Q a.block ∨ w.heap.size ≤ a.block)) := Lib.hid fun q h1 h2 ad ha => by
            have := h1 (by omega)
            rw [this] at ha
            cases ha
            exact HAJ.out hk0 ⟨pb, po, none⟩ rfl
          have hkn : m - (j + n) = k - n := by have := HK.out; omega
          have hjn : j + n ≤ m := by have := HK.out; have := HJ.out; omega
          clear hT3 hS3 hC3 hE2 hF hrun2 e3 c3 hlook HT2 HB2 HC2 HAJ HROW HBT HONE HO
          go_wp2_with fail
          have hq1 : n < k → (if cj = n then some (⟨pb, po, none⟩ : Addr) else some ⟨pb, po + n, none⟩) = some ⟨pb, po + n, none⟩ := fun h => if_neg (by omega)
          refine ⟨⟨j + n, _, cj - n, hjn, by rw [hkn], ?_, ?_, HTN, HCN⟩, ?_⟩
          · rw [hkn]
            exact Lib.hid (HBN.out _ _ hq1 fun e => by split at e <;> cases e)
          · rw [hkn]
            exact Lib.hid (HAN.out _ hq1)
          · show k - n < k
            omega
      · obtain rfl : k = 0 := by omega
        go_wp2_with fail
        go_end0
        have e : j = m := by have := HK.out; have := HJ.out; omega
        subst e
        refine ⟨rfl, ⟨some mb, ?_⟩, HCJ.out⟩
        have h1 := HTJ.out
        rw [List.take_of_length_le (by rw [HB.out]; exact Nat.le_refl _)] at h1
        exact h1
end
end Go.Proofs.YtfdgnniicjdjdaaGreatDoor
