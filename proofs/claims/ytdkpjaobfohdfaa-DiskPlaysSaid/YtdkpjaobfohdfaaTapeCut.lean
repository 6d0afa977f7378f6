/- Cut. -/
import Derived.Test.YtdkpjaobfohdfaaTapeDrop
import Derived.StillTailTactics
namespace Go.Proofs.Ytdkpjaobfohdfaa
open Go.RowKit Go.ChangeShapes Go.WideShapes
set_option linter.unusedVariables false
set_option maxRecDepth 10000
set_option linter.unusedSimpArgs false

/-- The segments' first bytes. -/
theorem Seg.take {w : World} {Q : Nat → Prop} {z : Nat → Nat × Nat} {f s : Nat} {B : List Int} (h : Seg w Q z f s B) (l : Nat) : Seg w Q z f s (B.take l) := by
  have hlt : ∀ i, i * s < (B.take l).length → i * s < B.length := fun i hi => by rw [List.length_take] at hi; omega
  refine ⟨fun i hi => ⟨(h.row i (hlt i hi)).1, ?_⟩, fun i j hi hj => h.apart i j (hlt i hi) (hlt j hj)⟩
  rw [sg_take_all, List.length_take]
  have hr := (h.row i (hlt i hi)).2
  have := hr.take (m := min (l - i * s) (sg s B i).length) (Nat.min_le_right _ _)
  rwa [← List.take_eq_take_min] at this
/-- What the map says while the segments from j on are still to go. -/
def Sc (z : Nat → Nat × Nat) (f s : Nat) (B : List Int) (l j : Nat) (y : Int) : Option Sv := if y < ((f + j : Nat) : Int) then So z f s (B.take l) y else So z f s B y
structure Cm (w wr : World) (T : Nat) (mb : Option Nat) (Q : Nat → Prop) (a : Int) (s : Nat) (t : TS) (l j : Nat) : Prop where
  blk : wr.heap[T]? = some (.cells #[.int .i64 a, .int .i64 (t.f * s : Nat), .int .i64 (t.f * s + t.B.length : Nat), .map mb] 89 (0, 0))
  yes : ∀ b, mb = some b → Q b ∧ ∃ z D, MapB wr b (nS s l + (nS s t.B.length - j)) D ∧ Tm D (Sc z t.f s t.B l j) (nS s l + (nS s t.B.length - j)) ∧ Seg wr Q z t.f s (t.B.take l)
  chg : Chg Q w wr
  lo : nS s l ≤ j
theorem Seg.ne_map {w : World} {Q : Nat → Prop} {z : Nat → Nat × Nat} {f s b n : Nat} {B : List Int} {D : DataW Sv} (h : Seg w Q z f s B) (hm : MapB w b n D) (i : Nat) (hi : i * s < B.length) : (z (f + i)).1 ≠ b := by
  rcases (h.row i hi).2.own.2 with ⟨h3, _⟩ | ⟨g3, c3, cur3, h3, _, h4, _⟩
  · cases h3
  · cases h3
    exact hm.ne h4
theorem Cm.step {w wr w1 : World} {T b n : Nat} {Q : Nat → Prop} {a : Int} {s : Nat} {t : TS} {l j : Nat} {z : Nat → Nat × Nat} {D : DataW Sv} (hs : 0 < s) (h : Cm w wr T (some b) Q a s t l j) (hQT : Q T) (hl : l ≤ t.B.length) (hj : j * s < t.B.length)
    (hQb : Q b) (hm : MapB wr b (nS s l + (nS s t.B.length - j)) D) (hT : Tm D (Sc z t.f s t.B l j) (nS s l + (nS s t.B.length - j))) (hS : Seg wr Q z t.f s (t.B.take l))
    (hm1 : MapB w1 b n (D.del (kL ((t.f + j : Nat) : Int)))) (hc : Chg (fun k => k = b) wr w1) : Cm w w1 T (some b) Q a s t l (j + 1) := by
  have hlt := (lt_nS hs).2 hj
  have hnl : ¬ j * s < l := fun e => by have := (lt_nS hs).2 e; have := h.lo; omega
  have h0 : Sc z t.f s t.B l j ((t.f + j : Nat) : Int) = some (some ⟨(z (t.f + j)).1, 0, none⟩, (sg s t.B j).length, (z (t.f + j)).2) := by
    unfold Sc
    rw [if_neg (by omega), So_at, if_pos hj]
  have hT1 := hT.del ((t.f + j : Nat) : Int) (by rw [h0]; rfl)
  have ht := hm1.tight
  have e1 : nS s l + (nS s t.B.length - j) - 1 = nS s l + (nS s t.B.length - (j + 1)) := by omega
  rw [hT1.size, e1] at ht
  refine ⟨(hc.block T (block_lt h.blk) (hm.ne h.blk)).trans h.blk, fun b' e => ?_, h.chg.trans (hc.mono fun k _ e => by rw [e]; exact hQb) fun _ _ h => h, by have := h.lo; omega⟩
  cases e
  refine ⟨hQb, z, _, ht, hT1.congr (fun y => ?_) e1, hS.keep hc fun i hi => hS.ne_map hm i hi⟩
  unfold Sc
  by_cases e : y = ((t.f + j : Nat) : Int)
  · subst e
    rw [if_pos rfl, if_pos (by omega), So_at, if_neg (by rw [List.length_take]; omega)]
  · rw [if_neg e]
    by_cases e2 : y < ((t.f + j : Nat) : Int)
    · rw [if_pos e2, if_pos (by omega)]
    · rw [if_neg e2, if_neg (by omega)]
/-- All of them are gone. -/
theorem Cm.sm {w wr : World} {T : Nat} {mb : Option Nat} {Q : Nat → Prop} {a : Int} {s : Nat} {t : TS} {l j b : Nat} (hs : 0 < s) (h : Cm w wr T mb Q a s t l j) (hmb : mb = some b) (hl : l ≤ t.B.length) (hj : ¬ j * s < t.B.length) : Sm wr Q b t.f s (t.B.take l) := by
  obtain ⟨hQb, z, D, hm, hT, hS⟩ := h.yes b hmb
  have hn : nS s t.B.length ≤ j := by
    rcases Nat.lt_or_ge j (nS s t.B.length) with h' | h'
    · exact absurd ((lt_nS hs).1 h') hj
    · exact h'
  have e : nS s l + (nS s t.B.length - j) = nS s (t.B.take l).length := by rw [List.length_take, Nat.min_eq_left hl]; omega
  rw [e] at hm hT
  refine ⟨hQb, z, D, hm, hT.congr (fun y => ?_) rfl, hS⟩
  unfold Sc
  by_cases e2 : y < ((t.f + j : Nat) : Int)
  · rw [if_pos e2]
  · rw [if_neg e2]
    rcases low_or_at t.f y with h' | ⟨i, rfl⟩
    · rw [So_low _ _ _ _ h', So_low _ _ _ _ h']
    · have := Nat.mul_le_mul_right s (show j ≤ i by omega)
      rw [So_at, So_at, if_neg (by omega), if_neg (by rw [List.length_take]; omega)]
/-- Where no segment is cut. -/
theorem cut_whole {w wr : World} {T : Nat} {mb : Option Nat} {Q : Nat → Prop} {a : Int} {s : Nat} {t : TS} {l : Nat} (h : Tp w T mb Q a s t) (hb : Below w.heap.size w wr) (hl : l ≤ t.B.length) (h0 : l % s = 0) : Cm w wr T mb Q a s t l (l / s) := by
  have hs : 0 < s := by have := h.s_in; omega
  have hdp : l / s * s + l % s = l := div_parts
  have hn : nS s l = l / s := by rw [nS_div hs, if_neg (by omega)]
  refine ⟨(h.later hb).blk, fun b e => ?_, Chg.of_below hb, Nat.le_of_eq hn⟩
  obtain ⟨hQb, z, D, hm, hT, hS⟩ := (h.later hb).yes b e
  have e1 : nS s t.B.length = nS s l + (nS s t.B.length - l / s) := by
    have := nS_mono (s := s) hl
    omega
  refine ⟨hQb, z, D, e1 ▸ hm, hT.congr (fun y => ?_) e1, hS.take l⟩
  unfold Sc
  by_cases e2 : y < ((t.f + l / s : Nat) : Int)
  · rw [if_pos e2]
    rcases low_or_at t.f y with h' | ⟨i, rfl⟩
    · rw [So_low _ _ _ _ h', So_low _ _ _ _ h']
    · have h1 := mul_succ_le (s := s) (show i < l / s by omega)
      rw [So_at, So_at, if_pos (by omega), if_pos (by rw [List.length_take]; omega), sg_take_lt t.B (by omega)]
  · rw [if_neg e2]
/-- Where the last one is cut. -/
theorem cut_part {w wr w1 : World} {T b n : Nat} {Q : Nat → Prop} {a : Int} {s : Nat} {t : TS} {l : Nat} {z : Nat → Nat × Nat} {D : DataW Sv} (h : Tp w T (some b) Q a s t) (hb : Below w.heap.size w wr) (hl : l ≤ t.B.length) (h0 : 0 < l % s)
    (hm : MapB wr b (nS s t.B.length) D) (hT : Tm D (So z t.f s t.B) (nS s t.B.length)) (hS : Seg wr Q z t.f s t.B)
    (hm1 : MapB w1 b n (D.put (kL ((t.f + l / s : Nat) : Int)) (.held (some ⟨(z (t.f + l / s)).1, 0, none⟩, l % s, (z (t.f + l / s)).2)))) (hc : Chg (fun k => k = b) wr w1) : Cm w w1 T (some b) Q a s t l (l / s + 1) := by
  have hs : 0 < s := by have := h.s_in; omega
  have hdp : l / s * s + l % s = l := div_parts
  have hmod := Nat.mod_lt l hs
  have hn : nS s l = l / s + 1 := by rw [nS_div hs, if_pos h0]
  have hQb := (h.yes b rfl).1
  have hblk := (h.later hb).blk
  refine ⟨(hc.block T (block_lt hblk) (hm.ne hblk)).trans hblk, fun b' e => ?_, (Chg.of_below (S := Q) hb).trans (hc.mono fun k _ e => by rw [e]; exact hQb) fun _ _ h => h, Nat.le_of_eq hn⟩
  cases e
  have e1 : nS s t.B.length = nS s l + (nS s t.B.length - (l / s + 1)) := by
    have := nS_mono (s := s) hl
    omega
  have hpos : l / s * s < t.B.length := by omega
  have hT1 := hT.put ((t.f + l / s : Nat) : Int) (some ⟨(z (t.f + l / s)).1, 0, none⟩, l % s, (z (t.f + l / s)).2)
  have hsome : (So z t.f s t.B ((t.f + l / s : Nat) : Int)).isSome = true := by rw [So_at, if_pos hpos]; rfl
  rw [if_pos hsome] at hT1
  have ht := hm1.tight
  rw [hT1.size, e1] at ht
  refine ⟨hQb, z, _, ht, hT1.congr (fun y => ?_) e1, (hS.keep hc fun i hi => hS.ne_map hm i hi).take l⟩
  unfold Sc
  by_cases e : y = ((t.f + l / s : Nat) : Int)
  · subst e
    rw [if_pos rfl, if_pos (by omega), So_at, if_pos (by rw [List.length_take]; omega), sg_len, List.length_take]
    congr 3
    omega
  · rw [if_neg e]
    by_cases e2 : y < ((t.f + (l / s + 1) : Nat) : Int)
    · rw [if_pos e2]
      rcases low_or_at t.f y with h' | ⟨i, rfl⟩
      · rw [So_low _ _ _ _ h', So_low _ _ _ _ h']
      · have h1 := mul_succ_le (s := s) (show i < l / s by omega)
        rw [So_at, So_at, if_pos (by omega), if_pos (by rw [List.length_take]; omega), sg_take_lt t.B (by omega)]
    · rw [if_neg e2]
end Go.Proofs.Ytdkpjaobfohdfaa
