/- Rows of items that came in. -/
import Derived.Test.YtppmokkbepihhaaDoorWirePair
import Derived.Deep.Slices
import Derived.Deep.Fields
import Derived.ChangeSame
namespace Go.Proofs.YtppmokkbepihhaaDoor
open Go.RowKit Go.ChangeShapes Go.WideShapes Go.Deep
set_option linter.unusedVariables false
set_option maxRecDepth 10000

/-- An item, its bytes among them. -/
structure Item where
  k : Nat
  x : Nat
  n : Int
  p : Option Addr
  m : Nat
  c : Nat
  L : List Nat
instance : Inhabited Item := ⟨⟨0, 0, 0, none, 0, 0, []⟩⟩
/-- An item lies at an address. -/
structure ItemAt (w : World) (b off : Nat) (it : Item) : Prop where
  c0 : w.cell? ⟨b, off, none⟩ = some (.int .u8 ((it.k : Nat) : Int))
  c1 : w.cell? ⟨b, off + 1, none⟩ = some (.int .u64 ((it.x : Nat) : Int))
  c2 : w.cell? ⟨b, off + 2, none⟩ = some (.int .i64 it.n)
  c3 : w.cell? ⟨b, off + 3, none⟩ = some (.slice it.p it.m it.c)
  sl : Sl w it.p it.m it.c it.L
  k8 : it.k < 256
  x64 : it.x < 18446744073709551616
  n0 : -9223372036854775808 ≤ it.n
  n9 : it.n ≤ 9223372036854775807
  cm : it.c ≤ maxLen
theorem ItemAt.later {w w' : World} {b off : Nat} {it : Item} (h : ItemAt w b off it) (hb : Below w.heap.size w w') : ItemAt w' b off it := by
  have hlt : b < w.heap.size := World.block_lt_of_cell? _ _ h.c0
  exact ⟨by rw [hb.cell (p := ⟨b, off, none⟩) hlt]; exact h.c0, by rw [hb.cell (p := ⟨b, off + 1, none⟩) hlt]; exact h.c1, by rw [hb.cell (p := ⟨b, off + 2, none⟩) hlt]; exact h.c2, by rw [hb.cell (p := ⟨b, off + 3, none⟩) hlt]; exact h.c3, h.sl.later hb, h.k8, h.x64, h.n0, h.n9, h.cm⟩
/-- A slice of items. -/
def Items (w : World) (a : Option Addr) (len cap : Nat) (its : Nat → Item) : Prop := len ≤ cap ∧ cap ≤ maxLen ∧ (0 < len → ∃ b off, a = some ⟨b, off, none⟩ ∧ ∀ i, i < len → ItemAt w b (off + i * 4) (its i))
theorem Items.later {w w' : World} {a : Option Addr} {len cap : Nat} {its : Nat → Item} (h : Items w a len cap its) (hb : Below w.heap.size w w') : Items w' a len cap its := by
  refine ⟨h.1, h.2.1, fun h0 => ?_⟩
  obtain ⟨b, off, rfl, hi⟩ := h.2.2 h0
  exact ⟨b, off, rfl, fun i hl => (hi i hl).later hb⟩
section
variable {H : Type} {enc : TypeId × Value → H} {P : Program} {w : World} {base : Nat} {spare : Nat → Bool} {held : Bool}
theorem open_slice_fields {t e : TypeId} {fs : Array Field} {fuel : Nat} {cs : List Value} {x : DataW H × List MemPlace} (ht : P.underlying t = some (.slice e)) (he : P.underlying e = some (.struct fs))
    (hone : oneCellFields P fs = true) (hC : P.cellsOf e = fs.size) (h : DataW.trod enc P w base spare held fuel t cs = some x) :
    (cs = [.slice none 0 0] ∧ x = (.nil, [])) ∨
    ∃ (a : Addr) (len cap m : Nat), cs = [.slice (some a) len cap] ∧ len ≤ cap ∧ cap ≤ maxLen ∧ m = (if spare a.block then cap else len) ∧
      ∀ i, i < m → ∃ n : Nat, ∀ (j : Nat) (f : Field), fs[j]? = some f → ∃ (v : Value) (y : DataW H × List MemPlace), w.cell? (a.add (i * fs.size + j)) = some v ∧ DataW.trod enc P w base spare held n f.type [v] = some y := by
  rcases open_slice ht h with h0 | ⟨a, len, cap, m, n, D, Pl, hcs, hb, hl, hm, hmm, hx, hi⟩
  · exact .inl h0
  · refine .inr ⟨a, len, cap, m, hcs, hl, hm, hmm, fun i him => ?_⟩
    obtain ⟨cs', hc, ht'⟩ := hi i him
    rw [hC] at hc
    obtain ⟨ys, n', hn', hy, hlen, hyl, hf⟩ := DataW.trod_struct he ht'
    obtain ⟨_, hcl, hat⟩ := World.cells?_some hc
    refine ⟨n', fun j f hj => ?_⟩
    obtain ⟨ho, hk⟩ := hone_of hone j f hj
    have hjl : j < fs.size := (Array.getElem?_eq_some_iff.1 hj).1
    have hcell := hat j hjl
    have hv : cs'[j]? = some (cs'[j]'(by omega)) := List.getElem?_eq_getElem (by omega)
    have h1 := hf j f hj
    rw [ho, hk] at h1
    have hone' : (cs'.drop j).take 1 = [cs'[j]'(by omega)] := by
      rw [List.drop_eq_getElem_cons (by omega)]
      rfl
    rw [hone'] at h1
    have hys : ys[j]? = some (ys[j]'(by omega)) := List.getElem?_eq_getElem (by omega)
    refine ⟨_, _, ?_, h1.trans hys⟩
    rw [← Go.Deep.add_add, hcell, hv]
end
end Go.Proofs.YtppmokkbepihhaaDoor
