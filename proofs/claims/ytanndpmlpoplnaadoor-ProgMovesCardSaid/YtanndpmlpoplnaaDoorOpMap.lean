/- A map from keys to slices of numbers, each of its own row: what is gathered by keys. -/
import Derived.Test.YtanndpmlpoplnaaDoorGrOp
import Derived.Maps.OwnSet
import Derived.Maps.RangeWalk
import Derived.Maps.Ext
import Derived.WideKeyEntry
namespace Go.Proofs.YtanndpmlpoplnaaDoor
open Go.RowKit Go.ChangeShapes Go.WideShapes Go.Maps
open Go.WideElems (entry_then_store rd_val)
open Go.ChangeMaps (setBlock heap_setBlock_same heap_setBlock_other)
set_option linter.unusedVariables false
set_option maxRecDepth 10000
set_option linter.unusedSimpArgs false

/-- A slice, as it stands in the map. -/
abbrev Sv := Option Addr × Nat × Nat
def heldElem : Value → Option (DataW Sv × List MemPlace)
  | .slice p n c => some (.held (p, n, c), [])
  | _ => none
theorem held_shape {v : Value} {y : DataW Sv × List MemPlace} (h : heldElem v = some y) : ∃ c : Sv, v = .slice c.1 c.2.1 c.2.2 ∧ y = (.held c, []) := by
  cases v <;> simp [heldElem] at h
  case slice p n c => exact ⟨(p, n, c), rfl, h.symm⟩
set_option maxRecDepth 100000 in
theorem keyLaw0 : Go.WideMaps.KeyLaw Tryd.prog 56 := deep_law_laid keyLaid (m := 2) (by omega) (of_decide_eq_true (by kernel_rfl)) (by kernel_rfl) keyWide
theorem zeroSl (w : World) : (zeroValue 119).run Tryd.prog w = .ok (.slice none 0 0) w := by kernel_rfl
/-- The owned maps of this layer. -/
abbrev MapB (w : World) (b n : Nat) (D : DataW Sv) : Prop := w.ownsMap Tryd.prog 56 heldElem b n D
theorem MapB.turn {w w' : World} {b n : Nat} {D : DataW Sv} {S : Nat → Prop} (h : MapB w b n D) (hc : Chg S w w') (hn : ¬ S b) : MapB w' b n D := by
  have hbl := h.lt
  obtain ⟨es, clock, hb, F, hs, hD⟩ := h
  exact ⟨es, clock, (hc.block b hbl hn).trans hb, F, hs, hD⟩
/-- A block that holds a map holds no cells. -/
theorem MapB.ne {w : World} {b n g : Nat} {D : DataW Sv} {cs : Array Value} {t : TypeId} {z : Nat × Nat} (h : MapB w b n D) (hg : w.heap[g]? = some (.cells cs t z)) : g ≠ b := by
  obtain ⟨es, clock, hb, _⟩ := h
  intro e
  rw [e, hb] at hg
  cases hg
/-- The map's datum says at each key what S says. -/
def Tm (D : DataW Sv) (S : K → Option Sv) : Prop := ∀ k, Kok k → ∀ zd, D.atKey (keyLit k) zd = match S k with | some v => .held v | none => zd
theorem Tm.has {D : DataW Sv} {S : K → Option Sv} (h : Tm D S) {k : K} (hk : Kok k) : Maps.has D (keyLit k) = (S k).isSome := by
  have ha := h k hk
  cases hg : S k with
  | none =>
    rw [hg] at ha
    exact has_false_of_atKey ha
  | some v =>
    rw [hg] at ha
    exact has_true_of_atKey ha
theorem Tm.empty : Tm (.map []) (fun _ => none) := fun k _ zd => rfl
theorem Tm.put {D : DataW Sv} {S : K → Option Sv} (h : Tm D S) (hi : IsMap D) {x : K} (hx : Kok x) (v : Sv) : Tm (D.put (keyLit x) (.held v)) (fun y => if y = x then some v else S y) := by
  intro y hy zd
  dsimp only
  by_cases e : y = x
  · subst e
    rw [if_pos rfl, atKey_put_same hi (show WideAt.IsKeyLit (keyLit y) from trivial)]
  · rw [if_neg e, atKey_put_other (fun e' => e (keyLit_inj hy hx e')), h y hy]
/-- What stands at a key, as a value. -/
def svV : Option Sv → Value
  | some v => .slice v.1 v.2.1 v.2.2
  | none => .slice none 0 0
theorem look_at {w : World} {b n : Nat} {D : DataW Sv} {S : K → Option Sv} (h : MapB w b n D) (hT : Tm D S) {k : K} (hk : Kok k) : (Instr.lookup 112 (.map (some b)) (.agg #[.int .u8 k.1, .int .u8 k.2.1, .int .u8 k.2.2]) false).run Tryd.prog w = .ok (svV (S k)) w := by
  have hkey := key_reads k hk
  unfold keyVal at hkey
  obtain ⟨v, ps, hrun, hv⟩ := h.lookup keyLaw Tryd.underlying112 (zeroSl w) (zd := .held (none, 0, 0)) (zp := []) rfl hkey
  obtain ⟨c, rfl, hc⟩ := held_shape hv
  rw [hT k hk, Prod.mk.injEq] at hc
  rw [hrun]
  cases hg : S k with
  | none =>
    rw [hg] at hc
    have : (none, 0, 0) = c := by simpa using hc.1
    subst this
    rfl
  | some y =>
    rw [hg] at hc
    have : y = c := by simpa using hc.1
    subst this
    rfl
/-- 'm[k] = append(m[k], ..)': the entry first; the store into it behind the append. -/
theorem entry_at {w : World} {b n : Nat} {D : DataW Sv} {S : K → Option Sv} (h : MapB w b n D) (hT : Tm D S) (hn : n ≤ 1000000) {k : K} (hk : Kok k) :
    ∃ (st : Nat) (w1 : World), (Instr.mapEntry 112 (.map (some b)) (.agg #[.int .u8 k.1, .int .u8 k.2.1, .int .u8 k.2.2])).run Tryd.prog w = .ok (.tuple #[svV (S k), .int .i64 st]) w1 ∧ Chg (fun j => j = b) w w1 ∧ w1.heap.size = w.heap.size ∧ (∃ es1 clock1, w1.heap[b]? = some (.map es1 clock1)) ∧
      ∀ (w2 : World) (p : Option Addr) (l c : Nat), w2.heap[b]? = w1.heap[b]? → ∃ w3, (Instr.entryStore 112 (.map (some b)) (.int .i64 st) (.slice p l c)).run Tryd.prog w2 = .ok () w3 ∧ MapB w3 b (n + 1) (D.put (keyLit k) (.held (p, l, c))) ∧ Chg (fun j => j = b) w2 w3 := by
  have hkey := key_reads k hk
  unfold keyVal at hkey
  have hup := fun (p : Option Addr) (l c : Nat) => h.update keyLaw Tryd.underlying112 (by unfold maxLen; omega) hkey (val := .slice p l c) (d := .held (p, l, c)) (ps := []) rfl
  obtain ⟨es, clock, hb, F, hs, hD⟩ := h
  have hlt : b < w.heap.size := (Array.getElem?_eq_some_iff.1 hb).1
  obtain ⟨v0, st, es1, clock1, hE, hcase, hS⟩ := entry_then_store keyLaw0 Tryd.underlying112 zeroSl hb F hkey
  have hv0 : v0 = svV (S k) := by
    have ht := hT k hk .nil
    rw [hD] at ht
    rcases hcase with ⟨e0, hm0, hk0, rfl⟩ | ⟨hno, rfl⟩
    · obtain ⟨y, hy⟩ := F.reads e0 hm0
      obtain ⟨z, hz, _⟩ := rd_val hy
      rw [Go.WideElems.atKey_some keyLaw0 F hkey hm0 hk0 hz] at ht
      obtain ⟨c, hc, rfl⟩ := held_shape hz
      rw [hc]
      cases hg : S k with
      | none => rw [hg] at ht; cases ht
      | some y =>
        rw [hg] at ht
        have : c = y := by simpa using ht
        subst this
        rfl
    · rw [Go.WideElems.atKey_none keyLaw0 F hkey hno] at ht
      cases hg : S k with
      | none => rfl
      | some y => rw [hg] at ht; cases ht
  subst hv0
  have hc1 : Chg (fun j => j = b) w (setBlock w b (.map es1 clock1)) := ⟨rfl, rfl, rfl, by simp [setBlock], fun j hj hne => heap_setBlock_other hb _ hne⟩
  have hw1 : (setBlock w b (.map es1 clock1)).heap[b]? = some (.map es1 clock1) := heap_setBlock_same hb _
  refine ⟨st, _, hE, hc1, by simp [setBlock], ⟨_, _, hw1⟩, fun w2 p l c h2 => ?_⟩
  rw [hw1] at h2
  obtain ⟨es', clock', hst, hmu⟩ := hS w2 (.slice p l c) h2
  obtain ⟨w', hrun, hown, _⟩ := hup p l c
  rw [hmu] at hrun
  cases hrun
  obtain ⟨es2, clock2, hb2, F2, hs2, hD2⟩ := hown
  rw [heap_setBlock_same hb] at hb2
  cases hb2
  exact ⟨_, hst, ⟨es', clock', heap_setBlock_same h2 _, F2, hs2, hD2⟩, ⟨rfl, rfl, rfl, by simp [setBlock], fun j hj hne => heap_setBlock_other h2 _ hne⟩⟩

/-- Where the rows of the keys lie. -/
def Sof (z : K → Nat × Nat) (L : List O) (k : K) : Option Sv := if k ∈ L.map (·.1) then some (some ⟨(z k).1, 0, none⟩, (dsL L k).length, (z k).2) else none
/-- All that is added is gathered by keys, each key's in a row of its own. -/
structure Gth (n0 : Nat) (w : World) (b : Nat) (D : DataW Sv) (z : K → Nat × Nat) (L : List O) : Prop where
  map : MapB w b L.length D
  says : Tm D (Sof z L)
  low : n0 ≤ b
  row : ∀ k, k ∈ L.map (·.1) → n0 ≤ (z k).1 ∧ w.ownsRow 0 2 1 (.slice (some ⟨(z k).1, 0, none⟩) (dsL L k).length (z k).2) (dsL L k).length (flatG ic (dsL L k))
  apart : ∀ k j, k ∈ L.map (·.1) → j ∈ L.map (·.1) → (z k).1 = (z j).1 → k = j
theorem Gth.later {n0 : Nat} {w w' : World} {b : Nat} {D : DataW Sv} {z : K → Nat × Nat} {L : List O} (h : Gth n0 w b D z L) (hb : Below w.heap.size w w') : Gth n0 w' b D z L :=
  ⟨h.map.turn (Chg.of_below (S := fun _ => False) hb) (fun e => e), h.says, h.low, fun k hk => ⟨(h.row k hk).1, row_keep (h.row k hk).2 (Chg.of_below (S := fun _ => False) hb) (fun _ _ e => e)⟩, h.apart⟩
theorem Gth.start (n0 : Nat) (w : World) (hn : n0 ≤ w.heap.size) : Gth n0 (w.alloc (.map #[] 0)) w.heap.size (.map []) (fun _ => (0, 0)) [] :=
  ⟨World.ownsMap_made w _ _ _, fun k _ zd => rfl, hn, (fun k hk => by cases hk), fun k j hk => by cases hk⟩
/-- The row at a key, be it there or not. -/
theorem Gth.at_row {n0 : Nat} {w : World} {b : Nat} {D : DataW Sv} {z : K → Nat × Nat} {L : List O} (h : Gth n0 w b D z L) (k : K) : ∃ p0 c0, svV (Sof z L k) = .slice p0 (dsL L k).length c0 ∧ w.ownsRow 0 2 1 (.slice p0 (dsL L k).length c0) (dsL L k).length (flatG ic (dsL L k)) ∧
    ∀ g, (Value.slice p0 (dsL L k).length c0).ownBlock = some g → k ∈ L.map (·.1) ∧ g = (z k).1 := by
  by_cases hk : k ∈ L.map (·.1)
  · refine ⟨_, _, by unfold Sof; rw [if_pos hk]; rfl, (h.row k hk).2, fun g hg => ⟨hk, ?_⟩⟩
    simp [Value.ownBlock] at hg
    exact hg.symm
  · have e : dsL L k = [] := dsL_nil hk
    rw [e]
    exact ⟨none, 0, by unfold Sof; rw [if_neg hk]; rfl, World.ownsRow_nil _ _ _ _, fun g hg => by cases hg⟩
theorem row_block {w : World} {T : TypeId} {size g n c k : Nat} {xs : List Value} (h : w.ownsRow 0 T size (.slice (some ⟨g, 0, none⟩) n c) k xs) : ∃ cs, w.heap[g]? = some (.cells cs T (0, 0)) := by
  rcases h.2 with ⟨h5, _⟩ | ⟨g5, c5, cur5, h5, _, h6, _⟩
  · cases h5
  · cases h5
    exact ⟨_, h6⟩
/-- One more addition: behind the entry (w1), the append (w2) and the store (w3). -/
theorem Gth.grown {n0 : Nat} {w w1 w2 w3 : World} {b : Nat} {D : DataW Sv} {z : K → Nat × Nat} {L : List O} (h : Gth n0 w b D z L) {x : O} (hx : Kok x.1) (hn0 : n0 ≤ w.heap.size) {p0 : Option Addr} {c0 : Nat}
    (ho : ∀ g, (Value.slice p0 (dsL L x.1).length c0).ownBlock = some g → x.1 ∈ L.map (·.1) ∧ g = (z x.1).1) (hc1 : Chg (fun j => j = b) w w1) (hs1 : w1.heap.size = w.heap.size)
    {p' : Option Addr} {c' : Nat} (r1 : w2.ownsRow 0 2 1 (.slice p' ((dsL L x.1).length + 1) c') ((dsL L x.1).length + 1) (flatG ic (dsL L x.1) ++ ic x.2)) (hc2 : Chg (fun k => (Value.slice p0 (dsL L x.1).length c0).ownBlock = some k) w1 w2)
    (hp : ∀ k, (Value.slice p' ((dsL L x.1).length + 1) c').ownBlock = some k → (Value.slice p0 (dsL L x.1).length c0).ownBlock = some k ∨ w1.heap.size ≤ k)
    (hm2 : ∃ es cl, w2.heap[b]? = some (.map es cl)) (hm3 : MapB w3 b (L.length + 1) (D.put (keyLit x.1) (.held (p', (dsL L x.1).length + 1, c')))) (hc3 : Chg (fun j => j = b) w2 w3) (hi : IsMap D) :
    ∃ D' z', Gth n0 w3 b D' z' (L ++ [x]) ∧ Chg (fun k => n0 ≤ k) w w3 := by
  obtain ⟨g, rfl⟩ : ∃ g, p' = some ⟨g, 0, none⟩ := by
    rcases r1.2 with ⟨h5, h6⟩ | ⟨g5, c5, cur5, h5, _⟩
    · cases h5
    · cases h5; exact ⟨_, rfl⟩
  obtain ⟨cs, hg⟩ := row_block r1
  have hgb : g ≠ b := by
    obtain ⟨es, cl, hb2⟩ := hm2
    intro e
    rw [e, hb2] at hg
    cases hg
  have hgn := hp g rfl
  have hmem : ∀ k, k ∈ (L ++ [x]).map (·.1) ↔ k ∈ L.map (·.1) ∨ k = x.1 := fun k => by simp
  have hdk : dsL (L ++ [x]) x.1 = dsL L x.1 ++ [x.2] := by rw [dsL_append, dsL_one, if_pos rfl]
  have hdo : ∀ k, k ≠ x.1 → dsL (L ++ [x]) k = dsL L k := fun k hk => by rw [dsL_append, dsL_one, if_neg (fun e => hk e.symm), List.append_nil]
  have hne_b : ∀ k, k ∈ L.map (·.1) → (z k).1 ≠ b := fun k hk => by
    obtain ⟨cs, hcs⟩ := row_block (h.row k hk).2
    exact h.map.ne hcs
  have hlt : ∀ k, k ∈ L.map (·.1) → (z k).1 < w.heap.size := fun k hk => by
    obtain ⟨cs, hcs⟩ := row_block (h.row k hk).2
    exact block_lt hcs
  refine ⟨_, fun k => if k = x.1 then (g, c') else z k, ⟨by simpa using hm3, ?_, h.low, fun k hk => ?_, fun k j hk hj e => ?_⟩, ?_⟩
  · refine fun k hk zd => ((h.says.put hi hx _) k hk zd).trans ?_
    by_cases e : k = x.1
    · subst e
      simp only [if_true]
      unfold Sof
      rw [if_pos ((hmem _).2 (.inr rfl)), hdk]
      simp
    · simp only [if_neg e]
      unfold Sof
      by_cases hk2 : k ∈ L.map (·.1)
      · rw [if_pos hk2, if_pos ((hmem _).2 (.inl hk2)), hdo k e]
        simp [e]
      · rw [if_neg hk2, if_neg (fun hc => by rcases (hmem _).1 hc with hc | hc; exact hk2 hc; exact e hc)]
  · by_cases e : k = x.1
    · subst e
      simp only [if_true]
      rw [hdk]
      refine ⟨?_, ?_⟩
      · rcases hgn with hgn | hgn
        · obtain ⟨hk2, rfl⟩ := ho g hgn
          exact (h.row _ hk2).1
        · omega
      · rw [flatG_append, flatG_one, List.length_append]
        exact row_keep r1 hc3 (fun j hj => by cases hj; exact hgb)
    · simp only [if_neg e]
      have hk2 : k ∈ L.map (·.1) := by
        rcases (hmem _).1 hk with hk | hk
        · exact hk
        · exact absurd hk e
      rw [hdo k e]
      refine ⟨(h.row k hk2).1, row_keep (row_keep (row_keep (h.row k hk2).2 hc1 (fun j hj => by cases hj; exact hne_b k hk2)) hc2 (fun j hj hj2 => ?_)) hc3 (fun j hj => by cases hj; exact hne_b k hk2)⟩
      cases hj
      obtain ⟨hx2, he⟩ := ho _ hj2
      exact e (h.apart _ _ hk2 hx2 he)
  · by_cases e1 : k = x.1
    · by_cases e2 : j = x.1
      · rw [e1, e2]
      · exfalso
        have hj2 : j ∈ L.map (·.1) := by
          rcases (hmem _).1 hj with hj | hj
          · exact hj
          · exact absurd hj e2
        simp only [if_pos e1, if_neg e2] at e
        rcases hgn with hgn | hgn
        · obtain ⟨hx2, he⟩ := ho g hgn
          exact e2 (h.apart _ _ hj2 hx2 (by rw [← e, he]))
        · have := hlt j hj2
          omega
    · have hk2 : k ∈ L.map (·.1) := by
        rcases (hmem _).1 hk with hk | hk
        · exact hk
        · exact absurd hk e1
      by_cases e2 : j = x.1
      · exfalso
        simp only [if_neg e1, if_pos e2] at e
        rcases hgn with hgn | hgn
        · obtain ⟨hx2, he⟩ := ho g hgn
          exact e1 (h.apart _ _ hk2 hx2 (by rw [e, he]))
        · have := hlt k hk2
          omega
      · have hj2 : j ∈ L.map (·.1) := by
          rcases (hmem _).1 hj with hj | hj
          · exact hj
          · exact absurd hj e2
        simp only [if_neg e1, if_neg e2] at e
        exact h.apart _ _ hk2 hj2 e
  · have hlow := h.low
    refine ((hc1.mono fun k _ e => by omega).trans hc2 fun k _ e => ?_).trans hc3 fun k _ e => by omega
    obtain ⟨hk2, rfl⟩ := ho _ e
    exact (h.row _ hk2).1
end Go.Proofs.YtanndpmlpoplnaaDoor
