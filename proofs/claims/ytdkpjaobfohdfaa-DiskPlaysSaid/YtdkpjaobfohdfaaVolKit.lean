/- A volume in memory, as the program has it, and as the document has it. -/
import Derived.Test.YtdkpjaobfohdfaaBytes
import Derived.Test.YtdkpjaobfohdfaaVolMath
namespace Go.Proofs.Ytdkpjaobfohdfaa
open Go.RowKit Go.ChangeShapes Go.WideShapes
set_option linter.unusedVariables false
set_option maxRecDepth 10000

/-- The program's volume: its block B, its bytes' block G. -/
structure Vo (w : World) (B G s : Nat) (V : List (List Int)) : Prop where
  blk : w.heap[B]? = some (.cells #[.int .i64 (V.length : Nat), .int .i64 (s : Nat), .slice (some ⟨G, 0, none⟩) (V.length * s) (V.length * s)] 86 (0, 0))
  row : w.heap[G]? = some (.cells (vB V.flatten).toArray 5 (0, 0))
  len : ∀ x ∈ V, x.length = s
  ne : B ≠ G
  n : V.length ≤ 1024
  s : s ≤ 4096
theorem Vo.keep {w w' : World} {B G s : Nat} {V : List (List Int)} {S : Nat → Prop} (h : Vo w B G s V) (hc : Chg S w w') (hB : ¬ S B) (hG : ¬ S G) : Vo w' B G s V :=
  ⟨(hc.block B (block_lt h.blk) hB).trans h.blk, (hc.block G (block_lt h.row) hG).trans h.row, h.len, h.ne, h.n, h.s⟩
theorem Vo.later {w w' : World} {B G s : Nat} {V : List (List Int)} (h : Vo w B G s V) (hb : Below w.heap.size w w') : Vo w' B G s V := h.keep (Chg.of_below (S := fun _ => False) hb) (fun h => h) (fun h => h)
theorem Vo.cells {w : World} {B G s : Nat} {V : List (List Int)} (h : Vo w B G s V) : w.cell? ⟨B, 0, none⟩ = some (.int .i64 (V.length : Nat)) ∧ w.cell? ⟨B, 1, none⟩ = some (.int .i64 (s : Nat)) ∧ w.cell? ⟨B, 2, none⟩ = some (.slice (some ⟨G, 0, none⟩) (V.length * s) (V.length * s)) :=
  ⟨block_cell h.blk rfl, block_cell h.blk rfl, block_cell h.blk rfl⟩
theorem Vo.flat {w : World} {B G s : Nat} {V : List (List Int)} (h : Vo w B G s V) : V.flatten.length = V.length * s := len_flatten s V h.len
theorem Vo.big {w : World} {B G s : Nat} {V : List (List Int)} (h : Vo w B G s V) : V.length * s ≤ 4194304 := Nat.le_trans (Nat.mul_le_mul h.n h.s) (by omega)
theorem mul_lt_mul' {i n s : Nat} (h : i < n) : i * s + s ≤ n * s := by
  have := Nat.mul_le_mul_right s (show i + 1 ≤ n from h)
  rwa [Nat.add_mul, Nat.one_mul] at this
theorem Vo.bl {w : World} {B G s : Nat} {V : List (List Int)} (h : Vo w B G s V) {i : Nat} (hi : i < V.length) : BL w (some ⟨G, i * s, none⟩) s (V.length * s - i * s) (V.getD i []) := by
  have h1 := mul_lt_mul' (s := s) hi
  have h2 := h.big
  have := BL.of_row (n := s) (off := i * s) (c := V.length * s - i * s) h.row (by rw [h.flat]; omega) (by omega) (by unfold maxLen; omega)
  rwa [block_flatten s V i h.len hi] at this
/-- The cells of a slice of bytes among others. -/
def es (s : Nat) (x : Option Addr × Nat) : List Value := [.slice x.1 s x.2]
theorem es_len (s : Nat) (x : Option Addr × Nat) : (es s x).length = 1 := rfl
theorem es_one (s : Nat) (x : Option Addr × Nat) : ∀ u ∈ es s x, u.oneCell' = true := by
  intro u hu
  simp only [es, List.mem_cons, List.not_mem_nil, or_false] at hu
  subst hu
  rfl
abbrev d0 : Option Addr × Nat := (none, 0)
/-- A block of bytes. -/
def U8 (w : World) (k : Nat) : Prop := ∃ cs, w.heap[k]? = some (.cells cs 5 (0, 0))
theorem U8.lt {w : World} {k : Nat} (h : U8 w k) : k < w.heap.size := by
  obtain ⟨cs, h⟩ := h
  exact block_lt h
theorem U8.keep {w w' : World} {k : Nat} {S : Nat → Prop} (h : U8 w k) (hc : Chg S w w') (hs : ¬ S k) : U8 w' k := by
  have hlt := h.lt
  obtain ⟨cs, h⟩ := h
  exact ⟨cs, (hc.block k hlt hs).trans h⟩
/-- A block of slices of bytes. -/
def US (w : World) (k : Nat) : Prop := ∃ cs, w.heap[k]? = some (.cells cs 31 (0, 0))
theorem US.keep {w w' : World} {k : Nat} {S : Nat → Prop} (h : US w k) (hc : Chg S w w') (hs : ¬ S k) : US w' k := by
  obtain ⟨cs, h⟩ := h
  exact ⟨cs, (hc.block k (block_lt h) hs).trans h⟩
/-- Some blocks, each in its own row of bytes. -/
def Each (w : World) (Q : Nat → Prop) (s : Nat) (L : List (Option Addr × Nat)) (V : List (List Int)) : Prop :=
  ∀ i, i < V.length → BL w (L.getD i d0).1 s (L.getD i d0).2 (V.getD i []) ∧ ∀ a, (L.getD i d0).1 = some a → Q a.block ∧ U8 w a.block
theorem Each.keep {w w' : World} {Q S : Nat → Prop} {s : Nat} {L : List (Option Addr × Nat)} {V : List (List Int)} (h : Each w Q s L V) (hc : Chg S w w') (hs : ∀ k, Q k → U8 w k → ¬ S k) : Each w' Q s L V := fun i hi =>
  ⟨(h i hi).1.keep hc fun _ a ha => hs _ ((h i hi).2 a ha).1 ((h i hi).2 a ha).2, fun a ha => ⟨((h i hi).2 a ha).1, ((h i hi).2 a ha).2.keep hc (hs _ ((h i hi).2 a ha).1 ((h i hi).2 a ha).2)⟩⟩
theorem Each.mono {w : World} {Q T : Nat → Prop} {s : Nat} {L : List (Option Addr × Nat)} {V : List (List Int)} (h : Each w Q s L V) (hs : ∀ k, Q k → k < w.heap.size → T k) : Each w T s L V := fun i hi =>
  ⟨(h i hi).1, fun a ha => ⟨hs _ ((h i hi).2 a ha).1 ((h i hi).2 a ha).2.lt, ((h i hi).2 a ha).2⟩⟩
theorem Each.push {w : World} {Q : Nat → Prop} {s : Nat} {L : List (Option Addr × Nat)} {V : List (List Int)} (h : Each w Q s L V) (hl : L.length = V.length) {e : Option Addr × Nat} {x : List Int} (hb : BL w e.1 s e.2 x) (ha : ∀ a, e.1 = some a → Q a.block ∧ U8 w a.block) : Each w Q s (L ++ [e]) (V ++ [x]) := by
  intro i hi
  rw [List.length_append, List.length_singleton] at hi
  by_cases h1 : i < V.length
  · have e1 : (L ++ [e]).getD i d0 = L.getD i d0 := by rw [List.getD, List.getD, List.getElem?_append_left (by omega)]
    have e2 : (V ++ [x]).getD i [] = V.getD i [] := by rw [List.getD, List.getD, List.getElem?_append_left h1]
    rw [e1, e2]
    exact h i h1
  · have e1 : (L ++ [e]).getD i d0 = e := by rw [List.getD, List.getElem?_append_right (by omega), show i - L.length = 0 by omega]; rfl
    have e2 : (V ++ [x]).getD i [] = x := by rw [List.getD, List.getElem?_append_right (by omega), show i - V.length = 0 by omega]; rfl
    rw [e1, e2]
    exact ⟨hb, ha⟩
/-- Blocks of s bytes each, as a slice of slices; all of it lies in Q. -/
structure RV (w : World) (Q : Nat → Prop) (p : Option Addr) (c s : Nat) (V : List (List Int)) : Prop where
  row : ∃ L, SlG (es s) 1 d0 w p V.length c L ∧ (0 < V.length → ∀ a, p = some a → Q a.block ∧ US w a.block) ∧ Each w Q s L V
  len : ∀ x ∈ V, x.length = s
theorem RV.keep_typed {w w' : World} {Q S : Nat → Prop} {p : Option Addr} {c s : Nat} {V : List (List Int)} (h : RV w Q p c s V) (hc : Chg S w w') (hp : ∀ k, Q k → US w k → ¬ S k) (hs : ∀ k, Q k → U8 w k → ¬ S k) : RV w' Q p c s V := by
  obtain ⟨L, h1, h2, h3⟩ := h.row
  have hx : 0 < V.length → ∀ a, p = some a → ¬ S a.block := fun h0 a ha => hp _ (h2 h0 a ha).1 (h2 h0 a ha).2
  exact ⟨⟨L, h1.turn hc.size fun h0 a ha hlt => hc.block _ hlt (hx h0 a ha), fun h0 a ha => ⟨(h2 h0 a ha).1, (h2 h0 a ha).2.keep hc (hx h0 a ha)⟩, h3.keep hc hs⟩, h.len⟩
theorem RV.keep {w w' : World} {Q S : Nat → Prop} {p : Option Addr} {c s : Nat} {V : List (List Int)} (h : RV w Q p c s V) (hc : Chg S w w') (hs : ∀ k, Q k → ¬ S k) : RV w' Q p c s V := h.keep_typed hc (fun k hk _ => hs k hk) fun k hk _ => hs k hk
theorem RV.later {w w' : World} {Q : Nat → Prop} {p : Option Addr} {c s : Nat} {V : List (List Int)} (h : RV w Q p c s V) (hb : Below w.heap.size w w') : RV w' Q p c s V := h.keep (Chg.of_below (S := fun _ => False) hb) fun _ _ h => h
theorem RV.mono {w : World} {Q T : Nat → Prop} {p : Option Addr} {c s : Nat} {V : List (List Int)} (h : RV w Q p c s V) (hs : ∀ k, Q k → k < w.heap.size → T k) : RV w T p c s V := by
  obtain ⟨L, h1, h2, h3⟩ := h.row
  refine ⟨⟨L, h1, fun h0 a ha => ⟨hs _ (h2 h0 a ha).1 ?_, (h2 h0 a ha).2⟩, h3.mono hs⟩, h.len⟩
  obtain ⟨cs, hk⟩ := (h2 h0 a ha).2
  exact block_lt hk
theorem RV.cap {w : World} {Q : Nat → Prop} {p : Option Addr} {c s : Nat} {V : List (List Int)} (h : RV w Q p c s V) : V.length ≤ c ∧ c ≤ maxLen := by
  obtain ⟨L, h1, _⟩ := h.row
  exact ⟨h1.cap, h1.max⟩
/-- One of the document's blocks. -/
theorem RV.one {w : World} {Q : Nat → Prop} {p : Option Addr} {c s : Nat} {V : List (List Int)} (h : RV w Q p c s V) {i : Nat} (hi : i < V.length) : ∃ b off q cq, p = some ⟨b, off, none⟩ ∧ w.cell? ⟨b, off + i, none⟩ = some (.slice q s cq) ∧ BL w q s cq (V.getD i []) ∧ ∀ a, q = some a → Q a.block ∧ U8 w a.block := by
  obtain ⟨L, h1, h2, h3⟩ := h.row
  obtain ⟨b, off, rfl, hlt, hc⟩ := h1.cell (by omega)
  have := hc i hi 0 _ rfl
  rw [Nat.mul_one, Nat.add_zero] at this
  exact ⟨b, off, _, _, rfl, this, (h3 i hi).1, (h3 i hi).2⟩
/-- The document's volume while it is filled: at block R the row v, with the blocks V. -/
structure Fi (W0 wr : World) (Q : Nat → Prop) (base R s : Nat) (v : Value) (L : List (Option Addr × Nat)) (V : List (List Int)) : Prop where
  own : wr.ownsRow base 31 1 v V.length (flatG (es s) L)
  len : L.length = V.length
  each : Each wr Q s L V
  all : ∀ x ∈ V, x.length = s
  blk : wr.heap[R]? = some (.cells #[v, .int .i64 (s : Nat)] 30 (0, 0))
  below : Below W0.heap.size W0 wr
  lo : W0.heap.size ≤ R ∧ R < base ∧ base ≤ wr.heap.size ∧ ∀ k, W0.heap.size ≤ k → Q k
theorem Fi.later {W0 wr w' : World} {Q : Nat → Prop} {base R s : Nat} {v : Value} {L : List (Option Addr × Nat)} {V : List (List Int)} (h : Fi W0 wr Q base R s v L V) (hb : Below wr.heap.size wr w') : Fi W0 w' Q base R s v L V := by
  refine ⟨⟨h.own.1, ?_⟩, h.len, h.each.keep (Chg.of_below (S := fun _ => False) hb) (fun _ _ _ h => h), h.all, block_later h.blk hb, h.below.trans (hb.mono h.below.size), h.lo.1, h.lo.2.1, Nat.le_trans h.lo.2.2.1 hb.size, h.lo.2.2.2⟩
  rcases h.own.2 with hn | ⟨g, cap, cur, rfl, h1, h2, h3⟩
  · exact .inl hn
  · exact .inr ⟨g, cap, cur, rfl, h1, (hb.block g (block_lt h2)).trans h2, h3⟩
theorem Fi.blk_ne {W0 wr : World} {Q : Nat → Prop} {base R s : Nat} {v : Value} {L : List (Option Addr × Nat)} {V : List (List Int)} (h : Fi W0 wr Q base R s v L V) : ∀ k, v.ownBlock = some k → k ≠ R := fun k hk e => by
  have := (h.own.lt k hk).1
  have := h.lo.2.1
  omega
/-- One more block: the row behind append, ahead of its store, and behind it. -/
theorem Fi.step {W0 wr w' : World} {Q : Nat → Prop} {base R s : Nat} {v v' : Value} {L : List (Option Addr × Nat)} {V : List (List Int)} {e : Option Addr × Nat} {x : List Int} (h : Fi W0 wr Q base R s v L V) (hx : BL wr e.1 s e.2 x) (ha : ∀ a, e.1 = some a → Q a.block ∧ U8 wr a.block)
    (h1 : w'.ownsRow base 31 1 v' (V.length + 1) (flatG (es s) (L ++ [e]))) (h2 : wr.grownBy w' v.ownBlock) :
    w'.cell? ⟨R, 0, none⟩ = some v ∧ w'.frozen? ⟨R, 0, none⟩ = false ∧ Fi W0 (w'.setCell ⟨R, 0, none⟩ v') Q base R s v' (L ++ [e]) (V ++ [x]) := by
  have hne := h.blk_ne
  have hR : w'.heap[R]? = some (.cells #[v, .int .i64 (s : Nat)] 30 (0, 0)) := (h2.block R (block_lt h.blk) (fun e => hne R e.symm rfl)).trans h.blk
  have hc1 : Chg (fun k => v.ownBlock = some k) wr w' := Chg.of_grown h2
  have hu : ∀ k, U8 wr k → ¬ v.ownBlock = some k := fun k ⟨cs, hk⟩ e => by
    rcases h.own.2 with ⟨rfl, _⟩ | ⟨g, cap, cur, rfl, _, hg, _⟩
    · cases e
    · cases e
      rw [hg] at hk
      cases hk
  have hc2 : Chg (fun k => k = R) w' (w'.setCell ⟨R, 0, none⟩ v') := (Chg.refl _ _).setCell _ _ fun _ => rfl
  have huR : ∀ k, U8 w' k → ¬ k = R := fun k ⟨cs, hk⟩ e => by
    rw [e, hR] at hk
    cases hk
  have hE : Each wr Q s (L ++ [e]) (V ++ [x]) := h.each.push h.len hx ha
  have hE1 := hE.keep hc1 fun k _ hk => hu k hk
  have hE2 := hE1.keep hc2 fun k _ hk => huR k hk
  have hne' : ∀ k, v'.ownBlock = some k → k ≠ R := fun k hk e => by
    have := (h1.lt k hk).1
    have := h.lo.2.1
    omega
  refine ⟨block_cell hR rfl, block_free 0 hR, ⟨⟨?_, ?_⟩, by simp [h.len], hE2, ?_, block_put 0 v' hR, ?_, h.lo.1, h.lo.2.1, ?_, h.lo.2.2.2⟩⟩
  · rw [List.length_append, List.length_singleton]
    exact h1.1
  · rw [List.length_append, List.length_singleton]
    rcases h1.2 with hn | ⟨g, cap, cur, rfl, g1, g2, g3⟩
    · exact .inl hn
    · exact .inr ⟨g, cap, cur, rfl, g1, (Below.heap_setCell _ _ _ _ (fun e => hne' g rfl e)).trans g2, g3⟩
  · intro y hy
    rcases List.mem_append.1 hy with hy | hy
    · exact h.all y hy
    · rw [List.mem_singleton] at hy
      subst hy
      exact hx.len
  · have hb1 : Below W0.heap.size W0 w' := hc1.below h.below h.below.size fun k hk => by have := (h.own.lt k hk).1; have := h.lo; omega
    exact hc2.below hb1 hb1.size fun k hk => by rw [hk]; exact h.lo.1
  · have := h2.size
    have := h.lo.2.2.1
    simp
    omega
theorem own_slices {w : World} {base n s : Nat} {v : Value} {L : List (Option Addr × Nat)} (h : w.ownsRow base 31 1 v n (flatG (es s) L)) : ∃ p c, v = .slice p n c ∧ SlG (es s) 1 d0 w p n c L ∧ ∀ a, p = some a → base ≤ a.block ∧ US w a.block := by
  obtain ⟨p, c, rfl, hs, hp⟩ := SlG.of_own (d := d0) (es_len s) (by decide) h
  refine ⟨p, c, rfl, hs, fun a ha => ⟨hp a ha, ?_⟩⟩
  rcases h.2 with ⟨h1, _⟩ | ⟨g, cap, cur, h1, _, hg, _⟩
  · cases h1
    cases ha
  · cases h1
    cases ha
    exact ⟨cur, hg⟩
theorem Fi.rv {W0 wr : World} {Q : Nat → Prop} {base R s : Nat} {v : Value} {L : List (Option Addr × Nat)} {V : List (List Int)} (h : Fi W0 wr Q base R s v L V) : ∃ p c, v = .slice p V.length c ∧ RV wr Q p c s V := by
  obtain ⟨p, c, rfl, hs, hp⟩ := own_slices h.own
  exact ⟨p, c, rfl, ⟨L, hs, fun _ a ha => ⟨h.lo.2.2.2 _ (by have := (hp a ha).1; have := h.lo.1; have := h.lo.2.1; omega), (hp a ha).2⟩, h.each⟩, h.all⟩
/-- One more slice in a row of its own, ahead of append. -/
theorem fill_one {W0 wr W2 : World} {Q : Nat → Prop} {base R s j c0 : Nat} {p0 : Option Addr} {L : List (Option Addr × Nat)} {V : List (List Int)} {e : Option Addr × Nat} {x : List Int} (h : Fi W0 wr Q base R s (.slice p0 j c0) L V) (hj : V.length = j) (hb : Below wr.heap.size wr W2)
    (hn : W2.heap[wr.heap.size]? = some (.cells #[.slice e.1 s e.2] 31 (0, 0))) (hx : BL wr e.1 s e.2 x) (ha : ∀ a, e.1 = some a → Q a.block ∧ U8 wr a.block) :
    W2.ownsRow base 31 1 (.slice p0 j c0) j (flatG (es s) L) ∧ (∀ i u, (es s e)[i]? = some u → W2.cell? ⟨wr.heap.size, i, none⟩ = some u) ∧ base ≤ W2.heap.size ∧ W2.cell? ⟨R, 0, none⟩ = some (.slice p0 j c0) ∧
    ∀ v' w', w'.ownsRow base 31 1 v' (j + 1) (flatG (es s) (L ++ [e])) → W2.grownBy w' (Value.slice p0 j c0).ownBlock →
      w'.cell? ⟨R, 0, none⟩ = some (.slice p0 j c0) ∧ w'.frozen? ⟨R, 0, none⟩ = false ∧ Fi W0 (w'.setCell ⟨R, 0, none⟩ v') Q base R s v' (L ++ [e]) (V ++ [x]) := by
  have h2 := h.later hb
  refine ⟨hj ▸ h2.own, fun i u hu => ?_, h2.lo.2.2.1, block_cell h2.blk rfl, fun v' w' ho hg => ?_⟩
  · refine block_cell (w := W2) hn ?_
    rw [List.getElem?_toArray]
    exact hu
  · exact h2.step (e := e) (SlG.later hx hb) (fun a ha' => ⟨(ha a ha').1, (ha a ha').2.keep (Chg.of_below (S := fun _ => False) hb) (fun h => h)⟩) (hj ▸ ho) hg
/-- A row of bytes of the call's own. -/
theorem own_bytes {w : World} {base n : Nat} {v : Value} {L : List Int} (h : w.ownsRow base 5 1 v n (flatG eb L)) : ∃ p c, v = .slice p n c ∧ BL w p n c L ∧ ∀ a, p = some a → base ≤ a.block ∧ U8 w a.block := by
  obtain ⟨p, c, rfl, hs, hp⟩ := SlG.of_own (d := (0 : Int)) eb_len (by decide) h
  refine ⟨p, c, rfl, hs, fun a ha => ⟨hp a ha, ?_⟩⟩
  rcases h.2 with ⟨h1, _⟩ | ⟨g, cap, cur, h1, _, hg, _⟩
  · cases h1
    cases ha
  · cases h1
    cases ha
    exact ⟨cur, hg⟩
/-- The document's volume, empty yet, in a new block. -/
theorem fi_start {wr : World} {Q : Nat → Prop} {s : Nat} (hn : ∀ k, wr.heap.size ≤ k → Q k) : Fi wr (wr.alloc (.cells #[.slice none 0 0, .int .i64 (s : Nat)] 30)) Q (wr.heap.size + 1) wr.heap.size s (.slice none 0 0) [] [] :=
  ⟨World.ownsRow_nil _ _ _ _, rfl, fun i hi => by simp at hi, (fun x hx => by cases hx), alloc_block _ _, (Below.refl _ _).alloc (Nat.le_refl _) _, Nat.le_refl _, by omega, by simp, hn⟩
end Go.Proofs.Ytdkpjaobfohdfaa
