/- Maps by keys: what a key reads as; the set of the keys that were there. -/
import Derived.Test.YtnmdplefedffnaaDoorKeyRow
import Derived.Maps.OwnSet
import Derived.DeepKeys4
namespace Go.Proofs.YtnmdplefedffnaaDoor
open Go.RowKit Go.ChangeShapes Go.WideShapes Go.Maps
set_option linter.unusedVariables false

theorem keyLaid : laidOutB Tryd.prog = true := by kernel_rfl
theorem keyWide : (match Tryd.prog.underlying 37 with | some (.array _ _) | some (.struct _) => true | _ => false) = true := by kernel_rfl
set_option maxRecDepth 100000 in
theorem keyLaw : Keyed Tryd.prog 37 := Keyed.of_law (deep_law_laid keyLaid (m := 2) (by omega) (of_decide_eq_true (by kernel_rfl)) (by kernel_rfl) keyWide)
theorem keyTyped : Tryd.prog.keyType 37 = true := by kernel_rfl
theorem keyFields : (Tryd.prog.fieldsOf 37).toList.map (fun f => (f.type, f.offset)) = [(5, 0), (5, 1), (5, 2)] := by kernel_rfl
theorem keyCells : Tryd.prog.cellsOf 37 = 3 := by kernel_rfl
theorem byteCells : Tryd.prog.cellsOf 5 = 1 := by kernel_rfl
theorem byte_wf (x : Int) (h : 0 ≤ x ∧ x ≤ 255) : (Lit.int .u8 x).wf = true := by
  have h1 : IntKind.u8.min = 0 := rfl
  have h2 : IntKind.u8.max = 255 := rfl
  simp only [Lit.wf, h1, h2, Bool.and_eq_true, decide_eq_true_eq]
  omega
theorem lits_byte (d : Nat) (x : Int) (h : (Lit.int .u8 x).wf = true) : Tryd.prog.keyLits (d + 1) 5 [.int .u8 x] = some [.int .u8 x] := by
  have hu5 := Tryd.underlying5
  simp only [Program.keyLits, hu5, h, and_self, if_true]
set_option maxRecDepth 100000 in
theorem lits_key (d : Nat) (a b c : Int) (w1 : (Lit.int .u8 a).wf = true) (w2 : (Lit.int .u8 b).wf = true) (w3 : (Lit.int .u8 c).wf = true) : Tryd.prog.keyLits (d + 1 + 1) 37 [.int .u8 a, .int .u8 b, .int .u8 c] = some [.int .u8 a, .int .u8 b, .int .u8 c] := by
  have hu := Tryd.underlying37
  simp only [Program.keyLits, hu]
  simp [keyCells, byteCells, w1, w2, w3]
theorem key_depth : ∃ d, Tryd.prog.types.size = d + 1 := ⟨Tryd.prog.types.size - 1, by have : 0 < Tryd.prog.types.size := of_decide_eq_true (by kernel_rfl); omega⟩
/-- A key's value, and the literal that it reads as. -/
def keyVal (k : K) : Value := .agg #[.int .u8 k.1, .int .u8 k.2.1, .int .u8 k.2.2]
def keyLit (k : K) : Lit := .string (keyBytes [.int .u8 k.1, .int .u8 k.2.1, .int .u8 k.2.2])
theorem key_reads (k : K) (hk : Kok k) : keyOf Tryd.prog 37 (keyVal k) = some (keyLit k) := by
  obtain ⟨a, b, c⟩ := k
  obtain ⟨ha, hb, hc⟩ := hk
  dsimp only at ha hb hc
  have hu := Tryd.underlying37
  have hf : Value.formed Tryd.prog 37 (.agg #[.int .u8 a, .int .u8 b, .int .u8 c]) = true := by
    simp only [Value.formed, hu]
    rw [keyCells]
    rfl
  obtain ⟨d, hd⟩ := key_depth
  unfold keyOf keyVal keyLit
  rw [hu]
  dsimp only
  rw [keyTyped, hf, hd]
  have := lits_key d a b c (byte_wf a ha) (byte_wf b hb) (byte_wf c hc)
  simp only [Value.cells, Bool.and_self, if_true]
  rw [this]
  rfl
theorem keyVal_inj {a b : K} (h : keyVal a = keyVal b) : a = b := by
  obtain ⟨a1, a2, a3⟩ := a
  obtain ⟨b1, b2, b3⟩ := b
  simp only [keyVal, Value.agg.injEq, Array.mk.injEq, List.cons.injEq, Value.int.injEq, true_and, and_true] at h
  obtain ⟨h1, h2, h3⟩ := h
  rw [h1, h2, h3]
theorem keyLit_inj {a b : K} (ha : Kok a) (hb : Kok b) (h : keyLit a = keyLit b) : a = b :=
  keyVal_inj (keyLaw.inj (key_reads a ha) (h ▸ key_reads b hb))
theorem keyLit_same {a b : K} (ha : Kok a) (hb : Kok b) : (keyLit a).sameKey (keyLit b) = decide (a = b) := by
  by_cases h : a = b
  · subst h
    rw [decide_eq_true rfl]
    exact WideAt.sameKey_self trivial
  · rw [decide_eq_false h]
    exact sameKey_ne (fun e => h (keyLit_inj ha hb e))
/-- A key is in the map of a list's keys just if it is on the list. -/
theorem has_keys {H : Type} (u : DataW H) (L : List K) (hL : ∀ x ∈ L, Kok x) (k : K) (hk : Kok k) : has (setOf u (L.map keyLit)) (keyLit k) = decide (k ∈ L) := by
  rw [has_setOf u (keyLit k) (L.map keyLit) (fun x hx => by
    obtain ⟨y, _, rfl⟩ := List.mem_map.1 hx
    trivial)]
  rw [Bool.eq_iff_iff, List.any_eq_true, decide_eq_true_iff]
  constructor
  · rintro ⟨x, hx, hs⟩
    obtain ⟨y, hy, rfl⟩ := List.mem_map.1 hx
    rw [keyLit_same (hL y hy) hk, decide_eq_true_iff] at hs
    exact hs ▸ hy
  · intro h
    exact ⟨keyLit k, List.mem_map.2 ⟨k, h, rfl⟩, by rw [keyLit_same hk hk]; exact decide_eq_true rfl⟩
end Go.Proofs.YtnmdplefedffnaaDoor
