/- Lists of keys in memory: those that are read, those that grow. -/
import Derived.Test.YtnmdplefedffnaaDoorKeyEq
import Derived.OwnWalk
import Derived.ArgAppend
import Derived.Deep.OwnRows
import Derived.Deep.Slices
import Derived.Deep.Fields
import Derived.Laws.AppendOwn
namespace Go.Proofs.YtnmdplefedffnaaDoor
open Go.RowKit Go.ChangeShapes Go.WideShapes Go.Deep
set_option linter.unusedVariables false

/-- Keys as values, cell by cell. -/
def kL (L : List K) : List Value := L.flatMap kc
theorem kL_len : ∀ L : List K, (kL L).length = L.length * 3
  | [] => rfl
  | k :: L => by
    have := kL_len L
    unfold kL at *
    rw [List.flatMap_cons, List.length_append, this, List.length_cons]
    show 3 + _ = _
    omega
theorem kL_append (L M : List K) : kL (L ++ M) = kL L ++ kL M := List.flatMap_append ..
theorem kL_at : ∀ (L : List K) (j i : Nat), j < L.length → i < 3 → (kL L)[j * 3 + i]? = (kc (L.getD j (0, 0, 0)))[i]?
  | k :: L, 0, i, _, hi => by
    unfold kL
    rw [List.flatMap_cons, List.getElem?_append_left (by show 0 * 3 + i < 3; omega)]
    simp
  | k :: L, j + 1, i, hj, hi => by
    have ih := kL_at L j i (by simpa using hj) hi
    unfold kL at *
    rw [List.flatMap_cons, List.getElem?_append_right (by show 3 ≤ (j + 1) * 3 + i; omega)]
    rw [show (j + 1) * 3 + i - (kc k).length = j * 3 + i by show (j + 1) * 3 + i - 3 = _; omega]
    simpa using ih
theorem kL_one (L : List K) : ∀ u ∈ kL L, u.oneCell' = true := by
  intro u hu
  obtain ⟨k, _, hk⟩ := List.mem_flatMap.1 hu
  simp only [kc, List.mem_cons, List.not_mem_nil, or_false] at hk
  rcases hk with rfl | rfl | rfl <;> rfl
/-- The address, the length and the capacity of a slice that holds the keys L. -/
structure KL (w : World) (p : Option Addr) (n c : Nat) (L : List K) : Prop where
  len : L.length = n
  cap : n ≤ c
  max : c ≤ maxLen
  nil : p = none → c = 0
  ok : ∀ k ∈ L, Kok k
  cell : 0 < n → ∃ b off, p = some ⟨b, off, none⟩ ∧ ∀ j, j < n →
    w.cell? ⟨b, off + j * 3, none⟩ = some (.int .u8 (L.getD j (0, 0, 0)).1) ∧ w.cell? ⟨b, off + j * 3 + 1, none⟩ = some (.int .u8 (L.getD j (0, 0, 0)).2.1) ∧ w.cell? ⟨b, off + j * 3 + 2, none⟩ = some (.int .u8 (L.getD j (0, 0, 0)).2.2)
theorem KL.later {w w' : World} {p : Option Addr} {n c : Nat} {L : List K} (h : KL w p n c L) (hb : Below w.heap.size w w') : KL w' p n c L := by
  refine ⟨h.len, h.cap, h.max, h.nil, h.ok, fun h0 => ?_⟩
  obtain ⟨b, off, rfl, hc⟩ := h.cell h0
  refine ⟨b, off, rfl, fun j hj => ?_⟩
  obtain ⟨c0, c1, c2⟩ := hc j hj
  have hlt : b < w.heap.size := World.block_lt_of_cell? _ _ c0
  exact ⟨(hb.cell (p := ⟨b, off + j * 3, none⟩) hlt).trans c0, (hb.cell (p := ⟨b, off + j * 3 + 1, none⟩) hlt).trans c1, (hb.cell (p := ⟨b, off + j * 3 + 2, none⟩) hlt).trans c2⟩
theorem KL.empty (w : World) : KL w none 0 0 [] := ⟨rfl, Nat.le_refl _, by unfold maxLen; omega, fun _ => rfl, (fun x h => by cases h), fun h => by omega⟩
theorem KL.take {w : World} {p : Option Addr} {n c : Nat} {L : List K} (h : KL w p n c L) (k : Nat) (hk : k ≤ n) : KL w p k c (L.take k) := by
  refine ⟨by rw [List.length_take, h.len]; omega, Nat.le_trans hk h.cap, h.max, h.nil, fun x hx => h.ok x (List.mem_of_mem_take hx), fun h0 => ?_⟩
  obtain ⟨b, off, hp, hc⟩ := h.cell (by omega)
  refine ⟨b, off, hp, fun j hj => ?_⟩
  have e : (L.take k).getD j (0, 0, 0) = L.getD j (0, 0, 0) := by rw [List.getD, List.getD, List.getElem?_take, if_pos hj]
  rw [e]
  exact hc j (by omega)
theorem Kok.getD {L : List K} (h : ∀ k ∈ L, Kok k) (j : Nat) : Kok (L.getD j (0, 0, 0)) := by
  rw [List.getD]
  by_cases hj : j < L.length
  · rw [List.getElem?_eq_getElem hj]; exact h _ (List.getElem_mem hj)
  · rw [List.getElem?_eq_none (by omega)]; exact ⟨by simp, by simp, by simp⟩
/-- A row of keys that the call owns, as a slice. -/
theorem KL.of_own {w : World} {B : Nat} {v : Value} {n : Nat} {L : List K} (h : w.ownsRow B 37 3 v n (kL L)) (hok : ∀ k ∈ L, Kok k) : ∃ p c, v = .slice p n c ∧ KL w p n c L := by
  have hl : L.length = n := by have h1 := h.1; rw [kL_len] at h1; omega
  rcases h.2 with ⟨rfl, rfl⟩ | ⟨g, cap, cur, rfl, h1, h2, h3, h4, h5, h6⟩
  · obtain rfl : L = [] := List.eq_nil_of_length_eq_zero hl
    exact ⟨_, _, rfl, KL.empty w⟩
  · refine ⟨_, _, rfl, hl, h3, h4, (fun hn => by cases hn), hok, fun h0 => ⟨g, 0, rfl, fun j hj => ?_⟩⟩
    have hc : ∀ i, i < 3 → w.cell? ⟨g, 0 + j * 3 + i, none⟩ = (kc (L.getD j (0, 0, 0)))[i]? := fun i hi => by
      rw [Nat.zero_add, h.cellAt (j * 3 + i) (by omega), kL_at L j i (by omega) hi]
    exact ⟨hc 0 (by omega), hc 1 (by omega), hc 2 (by omega)⟩
theorem info_key : (Tryd.prog.info? 37).map (fun i => (i.zero, i.size, i.bytes)) = some (some (.agg #[.int .u8 0, .int .u8 0, .int .u8 0]), 3, 3) := by kernel_rfl
/-- append of one key, that lies in a block of its own, onto a row of the call's own. -/
theorem wpList_append_key {w : World} {ops : Array Oper} {rest : List Oper} {o : Oper} {a : Act} {Q : Exit → Act → World → Prop} (hgd : o.guard = none) (s x : Operand)
    (ho : o.op = .call { callee := .builtin .append, args := #[s, x], argTypes := #[53, 53] })
    (base : Nat) (v : Value) (n : Nat) (L : List K) (hs : a.eval s = v) (hr : w.ownsRow base 37 3 v n (kL L)) (hn : n ≤ 1000000) (k : K) (B : Nat)
    (hx : a.eval x = .slice (some ⟨B, 0, none⟩) 1 1) (h0 : w.cell? ⟨B, 0, none⟩ = some (.int .u8 k.1)) (h1 : w.cell? ⟨B, 1, none⟩ = some (.int .u8 k.2.1)) (h2 : w.cell? ⟨B, 2, none⟩ = some (.int .u8 k.2.2)) (hbase : base ≤ w.heap.size)
    (h : ∀ v' w', w'.ownsRow base 37 3 v' (n + 1) (kL (L ++ [k])) → w.grownBy w' v.ownBlock → wpList Tryd.prog ops Q rest (a.put o.dst v') w') : wpList Tryd.prog ops Q (o :: rest) a w := by
  obtain ⟨i, hi, hz0, hz1, hz2⟩ := info_parts info_key
  refine wpList_append_own w hgd s x 53 ho base 37 i (.agg #[.int .u8 0, .int .u8 0, .int .u8 0]) 3 3 Tryd.underlying53 hi hz0 hz1 hz2 rfl (by decide) v n (kL L) hs hr ⟨B, 0, none⟩ 1 1 (kc k) hx rfl
    (fun j u hu => ?_) (fun u hu => kL_one [k] u (by simpa [kL] using hu)) (by unfold maxLen; omega) (by omega) hbase ?_
  · rw [Go.WideShapes.add_plain, Nat.zero_add]
    have hj : j < 3 := by
      rcases Nat.lt_or_ge j 3 with h | h
      · exact h
      · rw [List.getElem?_eq_none (by exact h)] at hu; cases hu
    rcases (by omega : j = 0 ∨ j = 1 ∨ j = 2) with rfl | rfl | rfl
    · exact h0.trans hu
    · exact h1.trans hu
    · exact h2.trans hu
  · intro v' w' g1 g2 _
    refine h v' w' ?_ g2
    rw [kL_append]
    simpa [kL] using g1

section
variable {H : Type} {enc : TypeId × Value → H} {P : Program} {w : World} {base : Nat} {spare : Nat → Bool} {held : Bool}
theorem open_slice_cells {t e : TypeId} {fs : Array Field} {fuel : Nat} {cs : List Value} {x : DataW H × List MemPlace} (ht : P.underlying t = some (.slice e)) (he : P.underlying e = some (.struct fs))
    (hone : oneCellFields P fs = true) (hC : P.cellsOf e = fs.size) (h : DataW.trod enc P w base spare held fuel t cs = some x) :
    (cs = [.slice none 0 0] ∧ x = (.nil, [])) ∨
    ∃ (a : Addr) (len cap m : Nat), cs = [.slice (some a) len cap] ∧ len ≤ cap ∧ cap ≤ maxLen ∧ m = (if spare a.block then cap else len) ∧
      ∀ i, i < m → ∃ n : Nat, ∀ (j : Nat) (f : Field), fs[j]? = some f → ∃ (v : Value) (y : DataW H × List MemPlace), w.cell? (a.add (i * fs.size + j)) = some v ∧ DataW.trod enc P w base spare held n f.type [v] = some y := by
  rcases open_slice ht h with h0 | ⟨a, len, cap, m, n, D, Pl, hcs, hb, hl, hm, hmm, hx, hi⟩
  · exact .inl h0
  · refine .inr ⟨a, len, cap, m, hcs, hl, hm, hmm, fun i him => ?_⟩
    obtain ⟨cs', hc, ht'⟩ := hi i him
    rw [hC] at hc
    obtain ⟨ys, n', hn', hy, hlen, hyl, hf⟩ := DataW.trod_struct he ht'
    obtain ⟨_, hcl, hat⟩ := World.cells?_some hc
    refine ⟨n', fun j f hj => ?_⟩
    obtain ⟨ho, hk⟩ := hone_of hone j f hj
    have hjl : j < fs.size := (Array.getElem?_eq_some_iff.1 hj).1
    have hcell := hat j hjl
    have hv : cs'[j]? = some (cs'[j]'(by omega)) := List.getElem?_eq_getElem (by omega)
    have h1 := hf j f hj
    rw [ho, hk] at h1
    have hone' : (cs'.drop j).take 1 = [cs'[j]'(by omega)] := by
      rw [List.drop_eq_getElem_cons (by omega)]
      rfl
    rw [hone'] at h1
    have hys : ys[j]? = some (ys[j]'(by omega)) := List.getElem?_eq_getElem (by omega)
    refine ⟨_, _, ?_, h1.trans hys⟩
    rw [← Go.Deep.add_add, hcell, hv]
end
/-- A slice of keys that came in. -/
theorem open_keys {H : Type} {enc : TypeId × Value → H} {w : World} {base fuel : Nat} {held : Bool} {a : Option Addr} {len cap : Nat} {x : DataW H × List MemPlace}
    (h : DataW.trod enc Tryd.prog w base (fun _ => true) held fuel 53 [.slice a len cap] = some x) : ∃ L, KL w a len cap L := by
  rcases open_slice_cells Tryd.underlying53 Tryd.underlying37 (by kernel_rfl) (by kernel_rfl) h with ⟨hcs, _⟩ | ⟨a', l, c, m, hcs, hl, hm, hmm, hi⟩
  · simp at hcs
    obtain ⟨rfl, rfl, rfl⟩ := hcs
    exact ⟨[], KL.empty w⟩
  · simp at hcs
    obtain ⟨rfl, rfl, rfl⟩ := hcs
    rw [if_pos rfl] at hmm
    subst hmm
    have hall : ∀ i, i < len → ∃ k : K, Kok k ∧ w.cell? (a'.add (i * 3 + 0)) = some (.int .u8 k.1) ∧ w.cell? (a'.add (i * 3 + 1)) = some (.int .u8 k.2.1) ∧ w.cell? (a'.add (i * 3 + 2)) = some (.int .u8 k.2.2) := by
      intro i hil
      obtain ⟨n, hf⟩ := hi i (by omega)
      obtain ⟨v0, y0, hc0, t0⟩ := hf 0 _ rfl
      obtain ⟨v1, y1, hc1, t1⟩ := hf 1 _ rfl
      obtain ⟨v2, y2, hc2, t2⟩ := hf 2 _ rfl
      obtain ⟨z0, hv0, _, wf0⟩ := DataW.trod_int Tryd.underlying5 t0
      obtain ⟨z1, hv1, _, wf1⟩ := DataW.trod_int Tryd.underlying5 t1
      obtain ⟨z2, hv2, _, wf2⟩ := DataW.trod_int Tryd.underlying5 t2
      simp at hv0 hv1 hv2
      subst hv0 hv1 hv2
      exact ⟨(z0, z1, z2), ⟨bounds_u8 wf0, bounds_u8 wf1, bounds_u8 wf2⟩, hc0, hc1, hc2⟩
    obtain ⟨f, hf⟩ : ∃ f : Nat → K, ∀ i, i < len → Kok (f i) ∧ w.cell? (a'.add (i * 3 + 0)) = some (.int .u8 (f i).1) ∧ w.cell? (a'.add (i * 3 + 1)) = some (.int .u8 (f i).2.1) ∧ w.cell? (a'.add (i * 3 + 2)) = some (.int .u8 (f i).2.2) :=
      ⟨fun i => if h : i < len then Classical.choose (hall i h) else (0, 0, 0), fun i h => by dsimp only; rw [dif_pos h]; exact Classical.choose_spec (hall i h)⟩
    refine ⟨(List.range len).map f, by simp, hl, hm, (fun h => by cases h), fun k hk => ?_, fun h0 => ?_⟩
    · obtain ⟨i, hi', rfl⟩ := List.mem_map.1 hk
      exact (hf i (List.mem_range.1 hi')).1
    · have hsp : a'.spot = none := World.cell?_spot (a := a') (by simpa [Addr.add] using (hf 0 h0).2.1)
      obtain ⟨b, off, sp⟩ := a'
      replace hsp : sp = none := hsp
      subst hsp
      refine ⟨b, off, rfl, fun j hj => ?_⟩
      have e : ((List.range len).map f).getD j (0, 0, 0) = f j := by
        rw [List.getD, List.getElem?_map, List.getElem?_range hj]; rfl
      rw [e]
      obtain ⟨_, c0, c1, c2⟩ := hf j hj
      rw [Go.WideShapes.add_plain] at c0 c1 c2
      exact ⟨c0, by rw [Nat.add_assoc]; exact c1, by rw [Nat.add_assoc]; exact c2⟩
end Go.Proofs.YtnmdplefedffnaaDoor
