/- What the laws of this layer lean on. -/
import Derived.Test.YtmjhfohpllndhaaOpWorks
import Derived.Test.YtmjhfohpllndhaaOpNeg
import Derived.Test.YtmjhfohpllndhaaOpRefNet
namespace Go.Proofs.Ytmjhfohpllndhaa
open Go.RowKit Go.ChangeShapes Go.WideShapes
set_option linter.unusedVariables false

theorem min_of (len B : Nat) : ∃ k : Nat, min (len : Int) (B : Int) = (k : Int) ∧ k ≤ len ∧ k ≤ B := ⟨min len B, by omega, Nat.min_le_left .., Nat.min_le_right ..⟩
theorem take_ok {L : List O} (h : ∀ o ∈ L, Ook o) (k : Nat) : ∀ o ∈ L.take k, Ook o := fun o ho => h o (List.mem_of_mem_take ho)
/-- The cells of a slice, as append wants them. -/
theorem ol_news {w : World} {p : Option Addr} {n c : Nat} {L : List O} (h : OL w p n c L) : ∀ ad, p = some ad → ∀ j u, (flatG oc L)[j]? = some u → w.cell? (ad.add j) = some u := by
  intro ad ha j u hu
  have hj : j < L.length * 4 := by
    rw [← flatG_len oc_len L]
    exact (List.getElem?_eq_some_iff.1 hu).1
  have hn := h.len
  obtain ⟨b, off, rfl, _, hc⟩ := h.cell (by omega)
  cases ha
  have e : j = j / 4 * 4 + j % 4 := by omega
  rw [e, flatG_at (d := o0) oc_len L (j / 4) (j % 4) (by omega) (by omega)] at hu
  have := hc (j / 4) (by omega) (j % 4) u hu
  rw [Go.WideShapes.add_plain]
  rwa [Nat.add_assoc, ← e] at this
theorem ol_none {w : World} {p : Option Addr} {n c : Nat} {L : List O} (h : OL w p n c L) : p = none → n = 0 ∧ c = 0 := fun hp => by
  have h1 := h.nil hp
  have h2 := h.cap
  exact ⟨by omega, h1⟩
/-- What is had, from the end on, once t are left. -/
def backT (L : List O) (t : Nat) : List O := (L.drop t).reverse
theorem backT_start (L : List O) (n : Nat) (h : L.length = n) : backT L n = [] := by subst h; simp [backT]
theorem backT_end (L : List O) : backT L 0 = L.reverse := by simp [backT]
theorem backT_step (L : List O) (t : Nat) (h : t < L.length) : backT L t = backT L (t + 1) ++ [L.getD t o0] := by
  unfold backT
  rw [List.drop_eq_getElem_cons h, List.reverse_cons, List.getD, List.getElem?_eq_getElem h]; rfl
theorem backT_len (L : List O) (t : Nat) : (backT L t).length = L.length - t := by simp [backT]
end Go.Proofs.Ytmjhfohpllndhaa
