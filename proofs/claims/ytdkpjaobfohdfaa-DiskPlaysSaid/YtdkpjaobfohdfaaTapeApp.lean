/- Append: one round's memory. -/
import Derived.Test.YtdkpjaobfohdfaaTapeCutting
import Derived.Deep.RegionLaw
namespace Go.Proofs.Ytdkpjaobfohdfaa
open Go.RowKit Go.ChangeShapes Go.WideShapes
set_option linter.unusedVariables false
set_option maxRecDepth 10000
set_option linter.unusedSimpArgs false

/-- The last segment's row, be it there or not. -/
theorem last_row {w : World} {Q : Nat → Prop} {z : Nat → Nat × Nat} {f s : Nat} {B : List Int} (hs : 0 < s) (hS : Seg w Q z f s B) : ∃ p0 c0, Value.slice p0 (sg s B (B.length / s)).length c0 = svV (So z f s B ((f + B.length / s : Nat) : Int)) ∧ RowB w (.slice p0 (sg s B (B.length / s)).length c0) (sg s B (B.length / s)).length (sg s B (B.length / s)) ∧
    ∀ k, (Value.slice p0 (sg s B (B.length / s)).length c0).ownBlock = some k → B.length / s * s < B.length ∧ k = (z (f + B.length / s)).1 := by
  rw [So_at]
  by_cases h : B.length / s * s < B.length
  · rw [if_pos h]
    exact ⟨_, _, rfl, (hS.row _ h).2, fun k hk => by cases hk; exact ⟨h, rfl⟩⟩
  · rw [if_neg h]
    have e : sg s B (B.length / s) = [] := List.eq_nil_of_length_eq_zero (by rw [sg_len]; omega)
    rw [e]
    exact ⟨none, 0, rfl, RowB.nil w, fun k hk => by cases hk⟩
theorem app_one {W : World} {T b f s : Nat} {Q : Nat → Prop} {B x : List Int} {cT : Array Value} {z : Nat → Nat × Nat} {D : DataW Sv} (hs : 0 < s) (hblk : W.heap[T]? = some (.cells cT 89 (0, 0))) (hQb : Q b)
    (hm : MapB W b (nS s B.length) D) (hT : Tm D (So z f s B) (nS s B.length)) (hS : Seg W Q z f s B) (hx0 : 0 < x.length) (hx : x.length ≤ s - B.length % s) {p0 : Option Addr} {n0 c0 : Nat} (hn0 : n0 = (sg s B (B.length / s)).length)
    (hv : Value.slice p0 n0 c0 = svV (So z f s B ((f + B.length / s : Nat) : Int))) (ho : ∀ k, (Value.slice p0 n0 c0).ownBlock = some k → B.length / s * s < B.length ∧ k = (z (f + B.length / s)).1)
    (p' : Option Addr) (c' : Nat) (w1 : World) (h1 : RowB w1 (.slice p' (n0 + x.length) c') (n0 + x.length) (sg s B (B.length / s) ++ x)) (h2 : Chg (fun k => (Value.slice p0 n0 c0).ownBlock = some k) W.drew w1)
    (h3 : ∀ k, (Value.slice p' (n0 + x.length) c').ownBlock = some k → (Value.slice p0 n0 c0).ownBlock = some k ∨ W.drew.heap.size ≤ k) :
    w1.heap[T]? = some (.cells cT 89 (0, 0)) ∧ MapB w1 b (nS s B.length) D ∧
    ∀ w2, MapB w2 b (nS s B.length + 1) (D.put (kL ((f + B.length / s : Nat) : Int)) (.held (p', n0 + x.length, c'))) → Chg (fun k => k = b) w1 w2 → w2.heap[T]? = some (.cells cT 89 (0, 0)) ∧ Sm w2 (fun k => Q k ∨ W.heap.size ≤ k) b f s (B ++ x) ∧ Chg Q W w2 := by
  have h2' : Chg (fun k => (Value.slice p0 n0 c0).ownBlock = some k) W w1 := h2.undrew (q := 1)
  have hne : ∀ k, (Value.slice p0 n0 c0).ownBlock = some k → k ≠ T ∧ k ≠ b ∧ Q k := by
    intro k hk
    obtain ⟨e1, e2⟩ := ho k hk
    refine ⟨fun e => ?_, e2 ▸ hS.ne_map hm _ e1, e2 ▸ (hS.row _ e1).1⟩
    rcases (hS.row _ e1).2.own.2 with ⟨h5, _⟩ | ⟨g5, c5, cur5, h5, _, h6, _⟩
    · cases h5
    · cases h5
      rw [← e2, e, hblk] at h6
      cases h6
  obtain ⟨g, rfl⟩ : ∃ g, p' = some ⟨g, 0, none⟩ := by
    obtain ⟨p2, c2, he, _, _, hg⟩ := h1.sl
    cases he
    exact hg (by omega)
  have hb1 : w1.heap[T]? = some (.cells cT 89 (0, 0)) := (h2'.block T (block_lt hblk) (fun e => (hne T e).1 rfl)).trans hblk
  refine ⟨hb1, hm.turn h2' (fun e => (hne b e).2.1 rfl), fun w2 hm2 hc2 => ?_⟩
  have hTb : ¬ T = b := hm.ne hblk
  have hsg : sg s (B ++ x) (B.length / s) = sg s B (B.length / s) ++ x := sg_app_same hs B x hx
  refine ⟨(hc2.block T (block_lt hb1) hTb).trans hb1, Sm.grown (v := .slice p0 n0 c0) hs hQb hm hT hS hx0 hx hv (n := n0 + x.length) ?_ (by rw [hsg]; exact h1) h2' (h3 g rfl) _ hm2 hc2, ?_⟩
  · rw [hsg, List.length_append, hn0]
  · exact (h2'.mono fun k _ e => (hne k e).2.2).trans hc2 fun k _ e => by rw [e]; exact hQb
end Go.Proofs.Ytdkpjaobfohdfaa
