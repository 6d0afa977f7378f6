/- append of a whole list of additions. -/
import Derived.Test.YtnmdplefedffnaaDoorOpRow
namespace Go.Proofs.YtnmdplefedffnaaDoor
open Go.RowKit Go.ChangeShapes Go.WideShapes
set_option linter.unusedVariables false

/-- The cells of a slice, as append wants them. -/
theorem ol_news {w : World} {p : Option Addr} {n c : Nat} {L : List O} (h : OL w p n c L) : ∀ ad, p = some ad → ∀ j u, (flatG oc L)[j]? = some u → w.cell? (ad.add j) = some u := by
  intro ad ha j u hu
  have hj : j < L.length * 4 := by
    rw [← flatG_len oc_len L]
    exact (List.getElem?_eq_some_iff.1 hu).1
  have hn := h.len
  obtain ⟨b, off, rfl, _, hc⟩ := h.cell (by omega)
  cases ha
  have e : j = j / 4 * 4 + j % 4 := by omega
  rw [e, flatG_at (d := o0) oc_len L (j / 4) (j % 4) (by omega) (by omega)] at hu
  have := hc (j / 4) (by omega) (j % 4) u hu
  rw [Go.WideShapes.add_plain]
  rwa [Nat.add_assoc, ← e] at this
theorem ol_none {w : World} {p : Option Addr} {n c : Nat} {L : List O} (h : OL w p n c L) : p = none → n = 0 ∧ c = 0 := fun hp => by
  have h1 := h.nil hp
  have h2 := h.cap
  exact ⟨by omega, h1⟩
/-- append of a whole list of additions. -/
theorem wpList_append_ol {w : World} {ops : Array Oper} {rest : List Oper} {o : Oper} {a : Act} {Q : Exit → Act → World → Prop} (hgd : o.guard = none) (s x : Operand)
    (ho : o.op = .call { callee := .builtin .append, args := #[s, x], argTypes := #[29, 29] })
    (v : Value) (n : Nat) (L : List O) (hs : a.eval s = v) (hr : w.ownsRow 0 39 4 v n (flatG oc L)) (p : Option Addr) (m c : Nat) (M : List O) (hx : a.eval x = .slice p m c) (hM : OL w p m c M) (N : Nat) (hN : n + m = N) (hbig : N ≤ 1000000)
    (h : ∀ p' c' w', w'.ownsRow 0 39 4 (.slice p' N c') N (flatG oc (L ++ M)) → Chg (fun b => v.ownBlock = some b) w w' → (∀ b, (Value.slice p' N c').ownBlock = some b → v.ownBlock = some b ∨ w.heap.size ≤ b) → wpList Tryd.prog ops Q rest (a.put o.dst (.slice p' N c')) w') : wpList Tryd.prog ops Q (o :: rest) a w := by
  subst hN
  refine wpList_append_vals (k := 4) (by decide) Tryd.underlying29 info_op rfl (by omega) hgd s x ho v n (flatG oc L) hs hr p m c (flatG oc M) hx (by rw [flatG_len oc_len, hM.len]) (ol_none hM) (ol_news hM) (flatG_all oc_one M) hbig fun p' c' w' h1 h2 h3 => ?_
  rw [← flatG_append] at h1
  exact h p' c' w' h1 h2 h3
end Go.Proofs.YtnmdplefedffnaaDoor
