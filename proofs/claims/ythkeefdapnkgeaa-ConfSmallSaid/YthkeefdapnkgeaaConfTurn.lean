/- Small configurations as plain numbers: which warehouses come first, and the lower bounds. -/
import Derived.Test.YthkeefdapnkgeaaConfRefFree
import Derived.Test.YthkeefdapnkgeaaConfSame
namespace Go.Proofs.Ythkeefdapnkgeaa
open Go.RowKit Go.ChangeShapes Go.WideShapes
set_option linter.unusedVariables false
set_option linter.unusedSimpArgs false

/-- Prio, of which the first a rows, and of the next one the first b places, are laid anew, turned by t. -/
def prM (w s t a b : Nat) (q : Nat) : Int := if (q / 4 < a ∧ q % 4 < w) ∨ (q / 4 = a ∧ q % 4 < b) then (((q % 4 + q / 4 + t) % w : Nat) : Int) else prK w s 0 q
theorem prM_put (w s t a b : Nat) (hb : b < 4) (q : Nat) : (if q = a * 4 + b then (((b + a + t) % w : Nat) : Int) else prM w s t a b q) = prM w s t a (b + 1) q := by
  unfold prM
  by_cases hq : q = a * 4 + b
  · rw [if_pos hq, if_pos (by omega), show q % 4 = b by omega, show q / 4 = a by omega]
  · rw [if_neg hq]
    by_cases h1 : (q / 4 < a ∧ q % 4 < w) ∨ (q / 4 = a ∧ q % 4 < b)
    · rw [if_pos h1, if_pos (by omega)]
    · rw [if_neg h1, if_neg (by omega)]
theorem prM_row (w s t a : Nat) (q : Nat) : prM w s t a w q = prM w s t (a + 1) 0 q := by
  unfold prM
  by_cases h1 : (q / 4 < a ∧ q % 4 < w) ∨ (q / 4 = a ∧ q % 4 < w)
  · rw [if_pos h1, if_pos (by omega)]
  · rw [if_neg h1, if_neg (by omega)]
theorem prM_zero (w s t : Nat) (q : Nat) : prK w s 0 q = prM w s t 0 0 q := by
  unfold prM
  rw [if_neg (by omega)]
theorem prM_at (w s t i j : Nat) (hi : i < s) (hj : j < w) (hw : w ≤ 4) : prM w s t s 0 (i * 4 + j) = (((j + (i + t) % w) % w : Nat) : Int) := by
  unfold prM
  rw [if_pos (by omega), show (i * 4 + j) % 4 = j by omega, show (i * 4 + j) / 4 = i by omega, Nat.add_assoc, ← Nat.add_mod_mod]
theorem prM_byte (w s t : Nat) (hw : 1 ≤ w ∧ w ≤ 4) (q : Nat) : 0 ≤ prM w s t s 0 q ∧ prM w s t s 0 q ≤ 255 := by
  unfold prM
  split
  · have := Nat.mod_lt (q % 4 + q / 4 + t) (show 0 < w by omega)
    omega
  · unfold prK
    split <;> omega
theorem nbs_turn (w r : Nat) (hw : 1 ≤ w ∧ w ≤ 3) (hr : r < w) : nbs (fun j => (((j + r) % w : Nat) : Int)) w = alls w := by
  rcases (by omega : (w = 1 ∧ r = 0) ∨ (w = 2 ∧ r = 0) ∨ (w = 2 ∧ r = 1) ∨ (w = 3 ∧ r = 0) ∨ (w = 3 ∧ r = 1) ∨ (w = 3 ∧ r = 2)) with ⟨rfl, rfl⟩ | ⟨rfl, rfl⟩ | ⟨rfl, rfl⟩ | ⟨rfl, rfl⟩ | ⟨rfl, rfl⟩ | ⟨rfl, rfl⟩ <;> rfl
/-- A declaration with another lower bound. -/
def loD (x : Int) (d : D) : D := (d.1, x, d.2.2)
/-- The first j of n declarations with another lower bound. -/
def mix (x : Int) (j n : Nat) (M : List D) : List D := (List.range n).map fun i => if i < j then loD x (M.getD i d0) else M.getD i d0
theorem mix_len (x : Int) (j n : Nat) (M : List D) : (mix x j n M).length = n := by simp [mix]
theorem mix_getD (x : Int) (j n : Nat) (M : List D) (i : Nat) (hi : i < n) : (mix x j n M).getD i d0 = if i < j then loD x (M.getD i d0) else M.getD i d0 := by
  unfold mix
  rw [List.getD, List.getElem?_map, List.getElem?_range hi]
  rfl
theorem mix_zero (x : Int) (n : Nat) (M : List D) (h : M.length = n) : mix x 0 n M = M := by
  refine List.ext_getElem (by rw [mix_len, h]) fun i h1 h2 => ?_
  have e := mix_getD x 0 n M i (by rw [mix_len] at h1; exact h1)
  rw [if_neg (by omega), List.getD, List.getD, List.getElem?_eq_getElem h1, List.getElem?_eq_getElem h2] at e
  exact e
theorem DL.lo {w : World} {b off n c : Nat} {x : Int} {j : Nat} {M : List D} (h : DL w (some ⟨b, off, none⟩) n c (mix x j n M)) (hj : j < n) : DL (w.setCell ⟨b, off + j * 6 + 3, none⟩ (.int .i64 x)) (some ⟨b, off, none⟩) n c (mix x (j + 1) n M) := by
  refine ⟨mix_len _ _ _ _, h.cap, h.max, (fun e => by cases e), fun h0 => ?_⟩
  obtain ⟨b', off', he, hlt, hc⟩ := h.cell h0
  cases he
  refine ⟨b, off, rfl, by simpa using hlt, fun i hi q v hv => ?_⟩
  have hq : q < 6 := by
    have := (List.getElem?_eq_some_iff.1 hv).1
    rwa [dc_len] at this
  rw [mix_getD _ _ _ _ _ hi] at hv
  by_cases hiq : i = j ∧ q = 3
  · obtain ⟨rfl, rfl⟩ := hiq
    rw [if_pos (by omega)] at hv
    have hv' : v = .int .i64 x := by simpa [dc, loD] using hv.symm
    rw [hv']
    have hold := hc i hi 3 _ rfl
    exact World.cell?_setCell_same _ _ _ hold
  · have hne : (⟨b, off + j * 6 + 3, none⟩ : Addr) ≠ ⟨b, off + i * 6 + q, none⟩ := fun e => by
      simp only [Addr.mk.injEq, and_true, true_and] at e
      apply hiq
      omega
    rw [World.cell?_setCell_other _ _ _ _ hne]
    refine hc i hi q v ?_
    rw [mix_getD _ _ _ _ _ hi]
    by_cases hij : i = j
    · subst hij
      rw [if_pos (by omega)] at hv
      rw [if_neg (by omega)]
      rcases (by omega : q = 0 ∨ q = 1 ∨ q = 2 ∨ q = 4 ∨ q = 5) with rfl | rfl | rfl | rfl | rfl <;> simpa [dc, loD] using hv
    · by_cases hlt2 : i < j
      · rw [if_pos hlt2]; rw [if_pos (by omega)] at hv; exact hv
      · rw [if_neg hlt2]; rw [if_neg (by omega)] at hv; exact hv
/-- While a small configuration is being made: the block B holds it, X the small numbers, R the place of the answer. -/
structure SInv (W wr : World) (X R B : Nat) (sb : Array Value) (C : Cf) (M : List D) : Prop where
  cb : CB wr B C
  ret : ∃ old, wr.heap[R]? = some (.cells old 30 (0, 0)) ∧ old.size = 26
  box : wr.heap[X]? = some (.cells sb 45 (0, 0))
  row : DL wr C.fp C.fn C.fc M
  fz : ∀ q, C.fp = some q → Free wr q.block
  below : Below W.heap.size W wr
  xB : X ≠ B
  rB : R ≠ B
  geB : W.heap.size ≤ B
  geR : W.heap.size ≤ R
  pB : ∀ q, C.fp = some q → q.block ≠ B
  pR : ∀ q, C.fp = some q → q.block ≠ R
  pX : ∀ q, C.fp = some q → q.block ≠ X
  pW : ∀ q, C.fp = some q → W.heap.size ≤ q.block
theorem SInv.later {W wr w' : World} {X R B : Nat} {sb : Array Value} {C : Cf} {M : List D} (h : SInv W wr X R B sb C M) (hb : Below wr.heap.size wr w') : SInv W w' X R B sb C M := by
  obtain ⟨old, h1, h2⟩ := h.ret
  exact ⟨h.cb.later hb, ⟨old, block_later h1 hb, h2⟩, block_later h.box hb, h.row.later hb, fun q hq => free_later (h.fz q hq) hb, h.below.trans (hb.mono h.below.size), h.xB, h.rB, h.geB, h.geR, h.pB, h.pR, h.pX, h.pW⟩
theorem SInv.drewN {W wr : World} {X R B : Nat} {sb : Array Value} {C : Cf} {M : List D} (h : SInv W wr X R B sb C M) (q : Nat) : SInv W (wr.drewN q) X R B sb C M := h.later (below_drewN (Below.refl _ _) q)
theorem SInv.drew {W wr : World} {X R B : Nat} {sb : Array Value} {C : Cf} {M : List D} (h : SInv W wr X R B sb C M) : SInv W wr.drew X R B sb C M := h.later (Below.refl _ _).drew
/-- A cell of the configuration is stored. -/
theorem SInv.set {W wr : World} {X R B : Nat} {sb : Array Value} {C : Cf} {M : List D} (h : SInv W wr X R B sb C M) (j : Nat) (v : Value) (C' : Cf) (hc : CB (wr.setCell ⟨B, j, none⟩ v) B C') (h1 : C'.fp = C.fp) (h2 : C'.fn = C.fn) (h3 : C'.fc = C.fc) : SInv W (wr.setCell ⟨B, j, none⟩ v) X R B sb C' M := by
  obtain ⟨old, g1, g2⟩ := h.ret
  refine ⟨hc, ⟨old, (Below.heap_setCell _ _ _ _ h.rB).trans g1, g2⟩, (Below.heap_setCell _ _ _ _ h.xB).trans h.box, ?_, ?_, h.below.setCell h.geB _, h.xB, h.rB, h.geB, h.geR, ?_, ?_, ?_, ?_⟩
  · rw [h1, h2, h3]; exact h.row.put B j v h.pB
  · rw [h1]; exact fun q hq => free_put (h.fz q hq) (h.pB q hq)
  · rw [h1]; exact h.pB
  · rw [h1]; exact h.pR
  · rw [h1]; exact h.pX
  · rw [h1]; exact h.pW
/-- A lower bound is stored. -/
theorem SInv.lo {W wr : World} {X R B : Nat} {sb : Array Value} {C : Cf} {M : List D} {b off : Nat} {x : Int} {j : Nat} (h : SInv W wr X R B sb C (mix x j C.fn M)) (hp : C.fp = some ⟨b, off, none⟩) (hj : j < C.fn) : SInv W (wr.setCell ⟨b, off + j * 6 + 3, none⟩ (.int .i64 x)) X R B sb C (mix x (j + 1) C.fn M) := by
  obtain ⟨old, g1, g2⟩ := h.ret
  have hB := h.pB _ hp
  have hR := h.pR _ hp
  have hX := h.pX _ hp
  have hW := h.pW _ hp
  obtain ⟨cur, t, hz⟩ := h.fz _ hp
  have hrow := h.row
  rw [hp] at hrow
  have e1 := Below.heap_setCell wr ⟨b, off + j * 6 + 3, none⟩ (.int .i64 x) B (fun e => hB e.symm)
  have e2 := Below.heap_setCell wr ⟨b, off + j * 6 + 3, none⟩ (.int .i64 x) R (fun e => hR e.symm)
  have e3 := Below.heap_setCell wr ⟨b, off + j * 6 + 3, none⟩ (.int .i64 x) X (fun e => hX e.symm)
  refine ⟨e1.trans h.cb, ⟨old, e2.trans g1, g2⟩, e3.trans h.box, ?_, ?_, h.below.setCell (p := ⟨b, off + j * 6 + 3, none⟩) hW _, h.xB, h.rB, h.geB, h.geR, h.pB, h.pR, h.pX, h.pW⟩
  · rw [hp]; exact hrow.lo hj
  · intro q hq
    rw [hp] at hq
    cases hq
    exact ⟨_, t, block_put _ _ hz⟩
end Go.Proofs.Ythkeefdapnkgeaa
