/- A row of steps of which the last one's lines grow. -/
/- A step for each warehouse that takes name: the program's way. -/
/- Takes as the program asks of them: at most so many, of one order, and each warehouse's step may be. -/
import Derived.Test.YtdcanppiiikjgaaGreatDoorGrProgb
import Derived.Test.YtdcanppiiikjgaaGreatDoorPgAt
import Derived.Test.YtdcanppiiikjgaaGreatDoorGrProga
import Derived.OneCell
import Derived.Deep.Cut
import Derived.Test.YtdcanppiiikjgaaGreatDoorPgLeaf
namespace Go.Proofs.YtdcanppiiikjgaaGreatDoor
open Go.RowKit Go.ChangeShapes Go.WideShapes
set_option linter.unusedVariables false
set_option maxRecDepth 10000

theorem tells_old {w : World} : ∀ {K : List Hs} {R : List Stp}, TellsAll w K R → ∀ h ∈ K, 0 < h.2.2.2.1 → ∀ ad, h.2.2.1 = some ad → ad.block < w.heap.size
  | [], _, _, h, hh, _, _, _ => by cases hh
  | g :: K, [], ht, _, _, _, _, _ => ht.elim
  | g :: K, s :: R, ht, h, hh, h0, ad, he => by
    rcases List.mem_cons.1 hh with rfl | hh
    · obtain ⟨b, off, hp, hlt, _⟩ := ht.1.2.2.cell h0
      rw [he] at hp
      cases hp
      exact hlt
    · exact tells_old ht.2 h hh h0 ad he
theorem tells_turn {w w' : World} {B : Nat → Prop} (hc : Chg B w w') : ∀ {K : List Hs} {R : List Stp}, (∀ h ∈ K, 0 < h.2.2.2.1 → ∀ ad, h.2.2.1 = some ad → ¬ B ad.block) → TellsAll w K R → TellsAll w' K R
  | [], [], _, _ => trivial
  | [], _ :: _, _, h => h.elim
  | _ :: _, [], _, h => h.elim
  | g :: K, s :: R, ha, hh => ⟨⟨hh.1.1, hh.1.2.1, hh.1.2.2.turn hc.size fun h0 ad he hlt => hc.block ad.block hlt (ha g (List.mem_cons.2 (.inl rfl)) h0 ad he)⟩, tells_turn hc (fun x hx => ha x (List.mem_cons.2 (.inr hx))) hh.2⟩
theorem tells_snoc {w : World} {h : Hs} {s : Stp} : ∀ {H : List Hs} {S : List Stp}, H.length = S.length → TellsAll w (H ++ [h]) (S ++ [s]) → TellsAll w H S ∧ Tells w h s
  | [], [], _, ht => ⟨trivial, ht.1⟩
  | [], _ :: _, hl, _ => by simp at hl
  | _ :: _, [], hl, _ => by simp at hl
  | g :: H, r :: S, hl, ht => by
    have := tells_snoc (h := h) (s := s) (H := H) (S := S) (by simpa using hl) ht.2
    exact ⟨⟨ht.1, this.1⟩, this.2⟩
/-- Steps put behind a row: what append leaves. -/
theorem FillS.app {W w w' : World} {v : Value} {H H' : List Hs} {S S' : List Stp} {N m : Nat} {p' : Option Addr} {c' : Nat} (hF : FillS W w v H S N) (hm : H'.length = m) (hT : TellsAll w H' S') (hapart' : ∀ h ∈ H', 0 < h.2.2.2.1 → ∀ ad, h.2.2.1 = some ad → v.ownBlock ≠ some ad.block)
    (h1 : w'.ownsRow 0 147 3 (.slice p' (H.length + m) c') (H.length + m) (flatG sc H ++ flatG sc H')) (h2 : Chg (fun b => v.ownBlock = some b) w w') (h3 : ∀ b, (Value.slice p' (H.length + m) c').ownBlock = some b → v.ownBlock = some b ∨ w.heap.size ≤ b) : FillS W w' (.slice p' (H.length + m) c') (H ++ H') (S ++ S') (N + m) := by
  have hmost := hF.most
  have hapart : ∀ h ∈ H ++ H', 0 < h.2.2.2.1 → ∀ ad, h.2.2.1 = some ad → v.ownBlock ≠ some ad.block := fun h hh => by
    rcases List.mem_append.1 hh with hh | hh
    · exact hF.apart h hh
    · exact hapart' h hh
  rw [← flatG_append] at h1
  have hall := tells_turn h2 hapart (hF.tells.append hT)
  refine ⟨?_, Chg.below hF.below hF.below.size h2 fun k hk => (hF.own.lt k hk).1, by rw [List.length_append, hm]; omega, hall, fun g hg h0 ad he hb => ?_⟩
  · have hlen : (H ++ H').length = H.length + m := by rw [List.length_append, hm]
    rw [hlen]
    refine ⟨h1.1, ?_⟩
    rcases h1.2 with hn | ⟨g, cap, cur, he, g1, g2, g3⟩
    · exact .inl hn
    · refine .inr ⟨g, cap, cur, he, ?_, g2, g3⟩
      rcases h3 g (by rw [he]; rfl) with hk | hk
      · exact (hF.own.lt g hk).1
      · exact Nat.le_trans hF.below.size hk
  · rcases h3 ad.block hb with hk | hk
    · exact hapart g hg h0 ad he hk
    · exact absurd (tells_old (hF.tells.append hT) g hg h0 ad he) (by omega)
def itm (h : Hs) : Value := .slice h.2.2.1 h.2.2.2.1 h.2.2.2.2
/-- A row of steps; the last one's lines lie in a row of their own. -/
structure Hw (W wr : World) (v : Value) (H : List Hs) (h : Hs) (S : List Stp) (s : Stp) (N : Nat) : Prop where
  fill : FillS W wr v (H ++ [h]) (S ++ [s]) N
  len : H.length = S.length
  items : wr.ownsRow W.heap.size 110 2 (itm h) s.2.2.length (flatG lc s.2.2)
  lone : ∀ b, (itm h).ownBlock = some b → v.ownBlock ≠ some b
  apart : ∀ g ∈ H, 0 < g.2.2.2.1 → ∀ ad, g.2.2.1 = some ad → (itm h).ownBlock ≠ some ad.block
theorem Hw.new {W wr : World} {v : Value} {H : List Hs} {S : List Stp} {N : Nat} {t r : Int} (hF : FillS W wr v (H ++ [(t, r, none, 0, 0)]) (S ++ [(t, r, [])]) N) : Hw W wr v H (t, r, none, 0, 0) S (t, r, []) N := by
  have hl := hF.tells.len
  rw [List.length_append, List.length_append] at hl
  exact ⟨hF, by simpa using hl, World.ownsRow_nil _ _ _ _, (fun b hb => by cases hb), fun g _ _ ad _ hb => by cases hb⟩
theorem row_later {B : Nat} {e : TypeId} {k : Nat} {v : Value} {n : Nat} {xs : List Value} {w w' : World} (h : w.ownsRow B e k v n xs) (hb : Below w.heap.size w w') : w'.ownsRow B e k v n xs := by
  refine ⟨h.1, ?_⟩
  rcases h.2 with hn | ⟨g, cap, cur, rfl, h1, h2, h3⟩
  · exact .inl hn
  · exact .inr ⟨g, cap, cur, rfl, h1, (hb.block g (Array.getElem?_eq_some_iff.1 h2).1).trans h2, h3⟩
theorem Hw.later {W wr w' : World} {v : Value} {H : List Hs} {h : Hs} {S : List Stp} {s : Stp} {N : Nat} (hw : Hw W wr v H h S s N) (hb : Below wr.heap.size wr w') : Hw W w' v H h S s N :=
  ⟨hw.fill.later hb, hw.len, row_later hw.items hb, hw.lone, hw.apart⟩
/-- The last step's lines have grown; its header still says where they lay. -/
structure Hw2 (W w : World) (v : Value) (H : List Hs) (h : Hs) (S : List Stp) (s : Stp) (N : Nat) (p : Option Addr) (n c : Nat) (L : List Ln) : Prop where
  own : w.ownsRow W.heap.size 147 3 v (H ++ [h]).length (flatG sc (H ++ [h]))
  below : Below W.heap.size W w
  most : (H ++ [h]).length ≤ N
  len : H.length = S.length
  tells : TellsAll w H S
  h1 : h.1 = s.1
  h2 : h.2.1 = s.2.1
  far : ∀ g ∈ H, 0 < g.2.2.2.1 → ∀ ad, g.2.2.1 = some ad → v.ownBlock ≠ some ad.block
  items : w.ownsRow W.heap.size 110 2 (.slice p n c) L.length (flatG lc L)
  lone : ∀ b, (Value.slice p n c).ownBlock = some b → v.ownBlock ≠ some b
  apart : ∀ g ∈ H, 0 < g.2.2.2.1 → ∀ ad, g.2.2.1 = some ad → (Value.slice p n c).ownBlock ≠ some ad.block
theorem Hw.app {W w w' : World} {v : Value} {H : List Hs} {h : Hs} {S : List Stp} {s : Stp} {N : Nat} {M : List Ln} {p : Option Addr} {n c : Nat} (hw : Hw W w v H h S s N) (h1 : w'.ownsRow 0 110 2 (.slice p n c) n (flatG lc s.2.2 ++ flatG lc M)) (h2 : Chg (fun b => (itm h).ownBlock = some b) w w') (h3 : ∀ b, (Value.slice p n c).ownBlock = some b → (itm h).ownBlock = some b ∨ w.heap.size ≤ b) : Hw2 W w' v H h S s N p n c (s.2.2 ++ M) := by
  obtain ⟨ht, hl1, hl2, _⟩ := tells_snoc hw.len hw.fill.tells
  have hlen : (s.2.2 ++ M).length = n := by
    have := h1.1
    rw [← flatG_append, flatG_len lc_len] at this
    omega
  rw [← flatG_append] at h1
  refine ⟨?_, Chg.below hw.fill.below hw.fill.below.size h2 fun k hk => (hw.items.lt k hk).1, hw.fill.most, hw.len, tells_turn h2 (fun g hg h0 ad he => hw.apart g hg h0 ad he) ht, hl1, hl2, fun g hg => hw.fill.apart g (List.mem_append.2 (.inl hg)), ?_, fun b hb hv => ?_, fun g hg h0 ad he hb => ?_⟩
  · have ho := hw.fill.own
    refine ⟨ho.1, ?_⟩
    rcases ho.2 with hn | ⟨g, cap, cur, rfl, g1, g2, g3⟩
    · exact .inl hn
    · exact .inr ⟨g, cap, cur, rfl, g1, (h2.block g (block_lt g2) fun hb => hw.lone g hb rfl).trans g2, g3⟩
  · rw [hlen]
    refine ⟨h1.1, ?_⟩
    rcases h1.2 with hn | ⟨g, cap, cur, he, g1, g2, g3⟩
    · exact .inl hn
    · refine .inr ⟨g, cap, cur, he, ?_, g2, g3⟩
      rcases h3 g (by rw [he]; rfl) with hk | hk
      · exact (hw.items.lt g hk).1
      · exact Nat.le_trans hw.fill.below.size hk
  · rcases h3 b hb with hk | hk
    · exact hw.lone b hk hv
    · have := (hw.fill.own.lt b hv).2
      omega
  · rcases h3 ad.block hb with hk | hk
    · exact hw.apart g hg h0 ad he hk
    · exact absurd (tells_old ht g hg h0 ad he) (by omega)
theorem flat_set {H : List Hs} {h : Hs} {p : Option Addr} {n c : Nat} : (flatG sc (H ++ [h])).set (H.length * 3 + 2) (.slice p n c) = flatG sc (H ++ [(h.1, h.2.1, p, n, c)]) := by
  rw [flatG_append, flatG_append, flatG_one, flatG_one, List.set_append_right _ _ (by rw [flatG_len sc_len]; omega), flatG_len sc_len]
  have : H.length * 3 + 2 - H.length * 3 = 2 := by omega
  rw [this]
  rfl
theorem Hw2.put {W w : World} {g k cap : Nat} {H : List Hs} {h : Hs} {S : List Stp} {s : Stp} {N : Nat} {p : Option Addr} {n c : Nat} {L : List Ln} (hw : Hw2 W w (.slice (some ⟨g, 0, none⟩) k cap) H h S s N p n c L) : Hw W (w.setCell ⟨g, H.length * 3 + 2, none⟩ (.slice p n c)) (.slice (some ⟨g, 0, none⟩) k cap) H (h.1, h.2.1, p, n, c) S (s.1, s.2.1, L) N := by
  have hk : k = H.length + 1 := by
    have := hw.own.2
    rcases this with ⟨h', _⟩ | ⟨g', cap', cur, h', _⟩
    · cases h'
    · simp only [Value.slice.injEq, List.length_append, List.length_singleton] at h'
      exact h'.2.1
  subst hk
  have ho := hw.own
  rw [List.length_append, List.length_singleton] at ho
  obtain ⟨hr, hg⟩ := ho.stored (H.length * 3 + 2) (.slice p n c)
  rw [flat_set] at hr
  have hc := Chg.of_grown hg
  have hl : (H ++ [(h.1, h.2.1, p, n, c)]).length = H.length + 1 := by simp
  have hit : (w.setCell ⟨g, H.length * 3 + 2, none⟩ (.slice p n c)).ownsRow W.heap.size 110 2 (.slice p n c) L.length (flatG lc L) := ownsRow_setCell_other (a := ⟨g, H.length * 3 + 2, none⟩) hw.items (fun hb => hw.lone _ hb rfl) _
  have htl : TellsAll (w.setCell ⟨g, H.length * 3 + 2, none⟩ (.slice p n c)) H S := tells_turn hc (fun x hx h0 ad he hb => hw.far x hx h0 ad he (by cases hb; rfl)) hw.tells
  have hx : LL (w.setCell ⟨g, H.length * 3 + 2, none⟩ (.slice p n c)) p n c L := by
    obtain ⟨p', c', he, hs, _⟩ := SlG.of_own (d := l0) lc_len (by decide) hit
    cases he
    exact hs
  refine ⟨⟨by rw [hl]; exact hr, Chg.below hw.below hw.below.size hc fun b hb => by cases hb; exact (hw.own.lt g rfl).1, by have := hw.most; rw [hl]; simpa using this, htl.append ⟨⟨hw.h1, hw.h2, hx⟩, trivial⟩, fun x hx h0 ad he => ?_⟩, hw.len, hit, hw.lone, hw.apart⟩
  rcases List.mem_append.1 hx with hx | hx
  · exact hw.far x hx h0 ad he
  · obtain rfl := List.mem_singleton.1 hx
    intro hb
    dsimp only at he
    subst he
    exact hw.lone ad.block rfl hb
theorem Hw.mono {W wr : World} {v : Value} {H : List Hs} {h : Hs} {S : List Stp} {s : Stp} {N K : Nat} (hw : Hw W wr v H h S s N) (hn : N ≤ K) : Hw W wr v H h S s K := ⟨hw.fill.mono hn, hw.len, hw.items, hw.lone, hw.apart⟩
theorem last_cell {w : World} {B g k cap : Nat} {H : List Hs} {h : Hs} (ho : w.ownsRow B 147 3 (.slice (some ⟨g, 0, none⟩) k cap) (H ++ [h]).length (flatG sc (H ++ [h]))) : w.cell? ⟨g, H.length * 3 + 2, none⟩ = some (itm h) ∧ w.frozen? ⟨g, H.length * 3 + 2, none⟩ = false := by
  have hk : k = (H ++ [h]).length := by
    rcases ho.2 with ⟨h', _⟩ | ⟨g', cap', cur, h', _⟩
    · cases h'
    · simp only [Value.slice.injEq] at h'
      exact h'.2.1
  subst hk
  refine ⟨?_, ho.frozenAt _⟩
  rw [ho.cellAt _ (by simp; omega), flatG_at (d := hs0) sc_len _ _ _ (by simp) (by omega)]
  rw [List.getD, List.getElem?_append_right (Nat.le_refl _), Nat.sub_self]
  rfl
/-- Where takes stand by warehouses, so far. -/
def Hst (W wr : World) (v : Value) (t : Int) (T : List Tk) (j : Nat) : Prop :=
  (j = 0 ∧ v = .slice none 0 0 ∧ Below W.heap.size W wr) ∨ ∃ H h S s, Hw W wr v H h S s j ∧ S ++ [s] = housesP t (T.take j) ∧ s.1 = t ∧ s.2.1 = (T.getD (j - 1) tk0).2.2.1 ∧ 1 ≤ j
theorem Hst.below {W wr : World} {v : Value} {t : Int} {T : List Tk} {j : Nat} (h : Hst W wr v t T j) : Below W.heap.size W wr := by
  rcases h with ⟨_, _, h⟩ | ⟨_, _, _, _, h, _⟩
  · exact h
  · exact h.fill.below
theorem Hst.fill {W wr : World} {v : Value} {t : Int} {T : List Tk} {j : Nat} (h : Hst W wr v t T j) : ∃ H, FillS W wr v H (housesP t (T.take j)) j := by
  rcases h with ⟨rfl, rfl, h⟩ | ⟨H, g, S, s, h, e, _⟩
  · exact ⟨[], (FillS.nil W).later h⟩
  · rw [← e]; exact ⟨_, h.fill⟩
end Go.Proofs.YtdcanppiiikjgaaGreatDoor
namespace Go.Proofs.YtdcanppiiikjgaaGreatDoor
open Go.RowKit Go.ChangeShapes Go.WideShapes
set_option linter.unusedVariables false
set_option linter.unusedSimpArgs false
set_option maxRecDepth 10000

theorem box_cells {w : World} {X : Nat} {o a r q : Int} (h : w.heap[X]? = some (.cells #[.int .u32 o, .int .u8 a, .int .u8 r, .int .i64 q] 87 (0, 0))) : w.cell? ⟨X, 0, none⟩ = some (.int .u32 o) ∧ w.cell? ⟨X, 1, none⟩ = some (.int .u8 a) ∧ w.cell? ⟨X, 2, none⟩ = some (.int .u8 r) ∧ w.cell? ⟨X, 3, none⟩ = some (.int .i64 q) := ⟨block_cell h rfl, block_cell h rfl, block_cell h rfl, block_cell h rfl⟩
set_option maxHeartbeats 8000000 in
theorem houses_any (t : Int) (tp : Option Addr) (tn tcp : Nat) (T : List Tk) (W : World) (hT : TKL W tp tn tcp T) (hn : tn ≤ 1000) :
    Calls Tryz.prog 110 #[.int .u8 t, .slice tp tn tcp] W fun e w' => ∃ v H, e = .returned v ∧ FillS W w' v H (housesP t T) tn := by
  have HT := Lib.hid hT
  have HST := Lib.hid fun j (hj : j < tn) => houses_take t T j (by rw [hT.len]; exact hj)
  have HET : Hid (housesP t (T.take tn) = housesP t T) := Lib.hid (by rw [← hT.len, List.take_length])
  have hcap := hT.cap
  clear hT
  go_enter Tryz.func110, Tryz.ntmps110
  go_wp2_with fail
  go_loopw [5, 11] (fun v i wr => ∃ j : Nat, j ≤ tn ∧ i = .int .i64 j ∧ Hid (Hst W wr v t T j)) (fun _ i _ => tn - (Go.RowKit.intOf i).toNat)
  case atStart => exact ⟨0, Nat.zero_le _, rfl, Lib.hid (.inl ⟨rfl, rfl, Below.refl _ _⟩)⟩
  case round =>
    obtain ⟨j, hj, rfl, HI⟩ := hrel
    by_cases hlt : j < tn
    case neg =>
      obtain rfl : j = tn := by omega
      obtain ⟨H0, hf⟩ := HI.out.fill
      rw [HET.out] at hf
      have HF := Lib.hid hf
      clear hf
      go_wp2_with fail
      go_ret
      exact ⟨_, H0, rfl, HF.out⟩
    have hlt' : (j : Int) < tn := by omega
    obtain ⟨b, off, rfl, _, k0, k1, k2, k3⟩ := take_cells (HT.out.later HI.out.below) hlt
    have HTC : Hid (∀ i, i < tn → ∀ w', Below W.heap.size W w' → w'.cell? ⟨b, off + i * 4, none⟩ = some (.int .u32 (T.getD i tk0).1) ∧ w'.cell? ⟨b, off + i * 4 + 1, none⟩ = some (.int .u8 (T.getD i tk0).2.1) ∧ w'.cell? ⟨b, off + i * 4 + 2, none⟩ = some (.int .u8 (T.getD i tk0).2.2.1) ∧ w'.cell? ⟨b, off + i * 4 + 3, none⟩ = some (.int .i64 (T.getD i tk0).2.2.2)) := Lib.hid fun i hi w' h => by
      obtain ⟨b', off', he, _, d0, d1, d2, d3⟩ := take_cells (HT.out.later h) hi
      cases he
      exact ⟨d0, d1, d2, d3⟩
    have hst := HST.out j hlt
    generalize hx : T.getD j tk0 = x at *
    obtain ⟨o, a, r, q⟩ := x
    dsimp only at k0 k1 k2 k3
    have HX := Lib.hid hx
    have HS := Lib.hid hst
    clear hst hx
    -- the box of the take
    obtain ⟨W1, hW1, hs1, hbx, hb1⟩ : ∃ W1, wr.alloc (.cells #[.int .u32 o, .int .u8 a, .int .u8 r, .int .i64 q] 87) = W1 ∧ W1.heap.size = wr.heap.size + 1 ∧ W1.heap[wr.heap.size]? = some (.cells #[.int .u32 o, .int .u8 a, .int .u8 r, .int .i64 q] 87 (0, 0)) ∧ Below wr.heap.size wr W1 := ⟨_, rfl, by simp, alloc_block wr _, (Below.refl _ _).alloc (Nat.le_refl _) _⟩
    have HW1 := Lib.hid hW1
    have HS1 := Lib.hid hs1
    have HBX := Lib.hid hbx
    have HB1 := Lib.hid hb1
    clear hW1 hs1 hbx hb1
    have hszr := HI.out.below.size
    go_wp2_with fail
    rw [HW1.out]
    obtain ⟨x0, x1, x2, x3⟩ := box_cells HBX.out
    rcases HI.out with ⟨hj0, hv0, hbw⟩ | ⟨H0, h0, S0, s0, hw, he, ht0, hr0, hj1⟩
    case inl =>
      subst hv0
      have hd0 : ((j : Int) == 0) = true := by simp [hj0]
      have HF := Lib.hid ((((FillS.nil W).later hbw).later HB1.out).mono (Nat.zero_le j))
      have HHN : Hid (housesP t (T.take (j + 1)) = [] ++ [(t, r, [lnT (o, a, r, q)])]) := Lib.hid (by
        rw [HS.out, hj0]
        rfl)
      have HJ0 := Lib.hid hj0
      have HLT : Hid (∀ b, (Value.slice none 0 0).ownBlock = some b → b < wr.heap.size) := Lib.hid fun b hb => by cases hb
      obtain ⟨m, hm⟩ : ∃ m, ([] : List Hs).length = m := ⟨_, rfl⟩
      have HM := Lib.hid hm
      have HMJ : Hid (m ≤ j) := Lib.hid (by rw [← hm]; exact Nat.zero_le _)
      clear hj0 hbw hm
      have HFA := Lib.hid fun (z : Nat) => HF.out.later (show Below W1.heap.size W1 ((W1.drewN z).alloc (.cells #[.int .u8 t, .int .u8 r, .slice none 0 0] 147)) from (below_drewN (Below.refl _ _) z).alloc (Nat.le_refl _) _)
      have HBA := Lib.hid fun (z : Nat) => block_later HBX.out (show Below W1.heap.size W1 ((W1.drewN z).alloc (.cells #[.int .u8 t, .int .u8 r, .slice none 0 0] 147)) from (below_drewN (Below.refl _ _) z).alloc (Nat.le_refl _) _)
      go_quiet (fail)
      go_upto_region 7 with (at_builtin; refine wpList_append_vals (k := 3) (by decide) Tryz.underlying148 info_step rfl (by omega) rfl _ _ rfl (.slice none 0 0) m (flatG sc []) rfl (by rw [← HM.out]; exact own_zero (HFA.out _).own) (some ⟨W1.heap.size, 0, none⟩) 1 1 (flatG sc [(t, r, none, 0, 0)]) rfl rfl (fun h => by cases h) (step_news (c := #[.int .u8 t, .int .u8 r, .slice none 0 0]) (alloc_block (W1.drewN _) _) rfl) (flatG_all sc_one _) (by have := HMJ.out; omega) ?_; intro p3 c3 w3 h1 h2 h3)
      have hF3 := (HFA.out _).app (H' := [(t, r, none, 0, 0)]) (S' := [(t, r, [])]) rfl ⟨⟨rfl, rfl, SlG.empty _⟩, trivial⟩ (fun h hh h0 => by obtain rfl := List.mem_singleton.1 hh; exact absurd h0 (Nat.lt_irrefl 0)) (by rw [HM.out]; exact h1) h2 (by rw [HM.out]; exact h3)
      rw [HM.out] at hF3
      have hBX3 := (h2.block wr.heap.size (block_lt (HBA.out _)) fun hb => by have := HLT.out _ hb; omega).trans (HBA.out _)
      obtain ⟨g, hg, hgl⟩ : ∃ g, p3 = some ⟨g, 0, none⟩ ∧ g ≠ wr.heap.size := by
        rcases h1.2 with ⟨he, h0⟩ | ⟨g, cap, cur, he, _, hgb, _⟩
        · omega
        · cases he
          refine ⟨g, rfl, fun hc => ?_⟩
          rw [hc, hBX3] at hgb
          cases hgb
      subst hg
      have HBX3 := Lib.hid hBX3
      have HG := Lib.hid hgl
      have HW3 := Lib.hid (Hw.new hF3)
      have HIX : Hid (∀ b, (itm (t, r, none, 0, 0)).ownBlock = some b → b ≠ wr.heap.size) := Lib.hid fun b hb => by cases hb
      clear h1 h2 h3 hF3 hBX3 hgl HF HFA HBA
      obtain ⟨lq, hlq⟩ : ∃ lq, ([] : List Ln).length = lq := ⟨_, rfl⟩
      have HLQ := Lib.hid hlq
      have HLJ : Hid (lq ≤ j) := Lib.hid (by rw [← hlq]; exact Nat.zero_le _)
      clear hlq
      have HSN : Hid (hstep t (housesP t (T.take j)) (o, a, r, q) = [] ++ [(t, r, [] ++ [(a, q)])]) := Lib.hid (by rw [HJ0.out]; rfl)
      have hwm : wrap64 (m : Int) = m := by have := HMJ.out; unfold wrap64; omega
      have hm0 : (0 : Int) ≤ m := by omega
      go_upto_region 8 with (fail)
      clear hwm hm0
      refine wp_region_held_drew (S := fun w' => Hid (w'.heap[wr.heap.size]? = some (.cells #[.int .u32 o, .int .u8 a, .int .u8 r, .int .i64 q] 87 (0, 0)))) (by kernel_rfl) HBX3 (fun hHeld => ?_)
      refine wpAnyH_take (i := 0) (oi := ⟨some 41, _, _, _, _, _⟩) (v := (.pointer (some ⟨g, m * 3, none⟩))) rfl (by kernel_rfl) (by kernel_rfl) (by kernel_rfl) (fun _ _ _ h => h) (Or.inl ⟨by rfl, fun w' hw' => ?_⟩) (by assumption) ?_
      · clear hHeld
        go_simp
      simp only [Act.put, List.setIfInBounds_toArray, List.set_cons_zero, List.set_cons_succ]
      refine wpAnyH_take (i := 1) (oi := ⟨some 42, _, _, _, _, _⟩) (v := (.pointer (some ⟨g, m * 3, none⟩))) rfl (by kernel_rfl) (by kernel_rfl) (by kernel_rfl) (fun _ _ _ h => h) (Or.inl ⟨by rfl, fun w' hw' => ?_⟩) (by assumption) ?_
      · clear hHeld
        go_simp
      simp only [Act.put, List.setIfInBounds_toArray, List.set_cons_zero, List.set_cons_succ]
      refine wpAnyH_take (i := 2) (oi := ⟨some 43, _, _, _, _, _⟩) (v := (.pointer (some ⟨g, m * 3, none⟩))) rfl (by kernel_rfl) (by kernel_rfl) (by kernel_rfl) (fun _ _ _ h => h) (Or.inl ⟨by rfl, fun w' hw' => ?_⟩) (by assumption) ?_
      · clear hHeld
        go_simp
      simp only [Act.put, List.setIfInBounds_toArray, List.set_cons_zero, List.set_cons_succ]
      refine wpAnyH_take (i := 3) (oi := ⟨some 44, _, _, _, _, _⟩) (v := (.pointer (some ⟨g, m * 3 + 2, none⟩))) rfl (by kernel_rfl) (by kernel_rfl) (by kernel_rfl) (fun _ _ _ h => h) (Or.inl ⟨by rfl, fun w' hw' => ?_⟩) (by assumption) ?_
      · clear hHeld
        go_simp
      simp only [Act.put, List.setIfInBounds_toArray, List.set_cons_zero, List.set_cons_succ]
      refine wpAnyH_take (i := 5) (oi := ⟨some 46, _, _, _, _, _⟩) (v := (.pointer (some ⟨wr.heap.size, 1, none⟩))) rfl (by kernel_rfl) (by kernel_rfl) (by kernel_rfl) (fun _ _ _ h => h) (Or.inl ⟨by rfl, fun w' hw' => ?_⟩) (by assumption) ?_
      · clear hHeld
        go_simp
      simp only [Act.put, List.setIfInBounds_toArray, List.set_cons_zero, List.set_cons_succ]
      refine wpAnyH_take (i := 6) (oi := ⟨some 47, _, _, _, _, _⟩) (v := (.int .u8 a)) rfl (by kernel_rfl) (by kernel_rfl) (by kernel_rfl) (fun _ _ _ h => h) (Or.inl ⟨by rfl, fun w' hw' => ?_⟩) (by assumption) ?_
      · obtain ⟨g0, g1, g2, g3⟩ := box_cells hw'.out
        clear hHeld
        go_simp
      simp only [Act.put, List.setIfInBounds_toArray, List.set_cons_zero, List.set_cons_succ]
      refine wpAnyH_take (i := 7) (oi := ⟨some 48, _, _, _, _, _⟩) (v := (.pointer (some ⟨wr.heap.size, 3, none⟩))) rfl (by kernel_rfl) (by kernel_rfl) (by kernel_rfl) (fun _ _ _ h => h) (Or.inl ⟨by rfl, fun w' hw' => ?_⟩) (by assumption) ?_
      · clear hHeld
        go_simp
      simp only [Act.put, List.setIfInBounds_toArray, List.set_cons_zero, List.set_cons_succ]
      refine wpAnyH_take (i := 8) (oi := ⟨some 49, _, _, _, _, _⟩) (v := (.int .i64 q)) rfl (by kernel_rfl) (by kernel_rfl) (by kernel_rfl) (fun _ _ _ h => h) (Or.inl ⟨by rfl, fun w' hw' => ?_⟩) (by assumption) ?_
      · obtain ⟨g0, g1, g2, g3⟩ := box_cells hw'.out
        clear hHeld
        go_simp
      simp only [Act.put, List.setIfInBounds_toArray, List.set_cons_zero, List.set_cons_succ]
      refine wpAnyH_take (i := 9) (oi := ⟨some 50, _, _, _, _, _⟩) (v := (.agg #[.int .u8 a, .int .i64 q])) rfl (by kernel_rfl) (by kernel_rfl) (by kernel_rfl) (fun _ _ _ h => h) (Or.inl ⟨by rfl, fun w' hw' => ?_⟩) (by assumption) ?_
      · clear hHeld
        go_simp
      simp only [Act.put, List.setIfInBounds_toArray, List.set_cons_zero, List.set_cons_succ]
      have HD := Lib.hid (HW3.out.later (show Below w3.heap.size w3 w3.drew from (Below.refl _ _).drew))
      have HXD : Hid (w3.drew.heap[wr.heap.size]? = some (.cells #[.int .u32 o, .int .u8 a, .int .u8 r, .int .i64 q] 87 (0, 0))) := HBX3
      generalize w3.drew = Wd at *
      refine wpAnyH_ready (rs := [4, 10]) (by kernel_rfl) (by simp) (AllReadyH.cons rfl (fun K hK => ?_) (AllReadyH.cons rfl (fun K hK => ?_) AllReadyH.nil))
      · have hv := (last_cell HD.out.fill.own).1
        rw [HM.out] at hv
        unfold itm at hv
        dsimp only at hv
        go_simp
        refine hK.out _ _ HXD (fun hHeld2 => ?_)
        clear hK K hHeld
        have hHeld := hHeld2
        clear hHeld2
        try simp only [Act.put, List.setIfInBounds_toArray, List.set_cons_zero, List.set_cons_succ]
        clear hv
        refine wpAnyH_ready (rs := [10]) (by kernel_rfl) (by simp) (AllReadyH.cons rfl (fun K hK => ?_) AllReadyH.nil)
        go_simp
        have HA2 := Lib.hid (HD.out.later (show Below Wd.heap.size Wd (Wd.alloc (.cells #[.int .u8 a, .int .i64 q] 110)) from (Below.refl _ _).alloc (Nat.le_refl _) _))
        have HX2 := Lib.hid (block_later HXD.out (show Below Wd.heap.size Wd (Wd.alloc (.cells #[.int .u8 a, .int .i64 q] 110)) from (Below.refl _ _).alloc (Nat.le_refl _) _))
        refine hK.out _ _ HX2 (fun hHeld2 => ?_)
        clear hK K hHeld
        have hHeld := hHeld2
        clear hHeld2
        try simp only [Act.put, List.setIfInBounds_toArray, List.set_cons_zero, List.set_cons_succ]
        refine wpAnyH_ready (rs := [11]) (by kernel_rfl) (by simp) (AllReadyH.cons rfl (fun K hK => ?_) AllReadyH.nil)
        refine step_append_vals (k := 2) (by decide) Tryz.underlying25 info_line rfl (by omega) rfl (.tmp 45) (.tmp 51) rfl (.slice none 0 0) lq (flatG lc ([] : List Ln)) (by simp [Act.eval]) (by rw [← HLQ.out]; exact own_zero HA2.out.items) (some ⟨Wd.heap.size, 0, none⟩) 1 1 (flatG lc [((a, q) : Ln)]) (by simp [Act.eval]) rfl (fun h => by cases h) (line_news Wd (a, q)) (flatG_all lc_one _) (by have := HLJ.out; omega) ?_
        intro p4 c4 w4 h1 h2 h3
        have HA3 := Lib.hid (HA2.out.app h1 h2 h3)
        have HX3 := Lib.hid ((h2.block wr.heap.size (block_lt HX2.out) fun hb => HIX.out _ hb rfl).trans HX2.out)
        clear h1 h2 h3
        refine hK.out _ _ HX3 (fun hHeld2 => ?_)
        clear hK K hHeld
        have hHeld := hHeld2
        clear hHeld2
        try simp only [Act.put, List.setIfInBounds_toArray, List.set_cons_zero, List.set_cons_succ]
        refine wpAnyH_take (i := 12) (oi := ⟨some 53, _, _, _, _, _⟩) (v := (.pointer (some ⟨g, m * 3, none⟩))) rfl (by kernel_rfl) (by kernel_rfl) (by kernel_rfl) (fun _ _ _ h => h) (Or.inl ⟨by rfl, fun w' hw' => ?_⟩) (by assumption) ?_
        · clear hHeld
          go_simp
        simp only [Act.put, List.setIfInBounds_toArray, List.set_cons_zero, List.set_cons_succ]
        refine wpAnyH_take (i := 13) (oi := ⟨some 54, _, _, _, _, _⟩) (v := (.pointer (some ⟨g, m * 3 + 2, none⟩))) rfl (by kernel_rfl) (by kernel_rfl) (by kernel_rfl) (fun _ _ _ h => h) (Or.inl ⟨by rfl, fun w' hw' => ?_⟩) (by assumption) ?_
        · clear hHeld
          go_simp
        simp only [Act.put, List.setIfInBounds_toArray, List.set_cons_zero, List.set_cons_succ]
        refine wpAnyH_ready (rs := [14]) (by kernel_rfl) (by simp) (AllReadyH.cons rfl (fun K hK => ?_) AllReadyH.nil)
        have hc2 := (last_cell HA3.out.own).1
        have hfz := (last_cell HA3.out.own).2
        rw [HM.out] at hc2 hfz
        have hA4 := HA3.out.put
        rw [HM.out] at hA4
        have HA4 := Lib.hid hA4
        have HX4 : Hid ((w4.setCell ⟨g, m * 3 + 2, none⟩ (.slice p4 (lq + 1) c4)).heap[wr.heap.size]? = _) := Lib.hid ((Below.heap_setCell _ _ _ _ (fun hc => HG.out hc.symm)).trans HX3.out)
        clear hA4
        go_simp
        refine hK.out _ _ HX4 (fun hHeld2 => ?_)
        clear hc2 hfz
        clear hK K hHeld
        have hHeld := hHeld2
        clear hHeld2
        try simp only [Act.put, List.setIfInBounds_toArray, List.set_cons_zero, List.set_cons_succ]
        refine wpAnyH_done (by kernel_rfl) ?_ _
        clear hHeld
        go_wp2_with fail
        go_roundw
        case rel => exact ⟨j + 1, by omega, by go_num, Lib.hid (.inr ⟨_, _, _, _, HA4.out.mono (Nat.le_refl (j + 1)), by rw [HS.out]; exact HSN.out.symm, rfl, by rw [Nat.add_sub_cancel, HX.out], by omega⟩)⟩
        case measure => simp [Go.RowKit.intOf]; omega
      · go_simp
        have HA2 := Lib.hid (HD.out.later (show Below Wd.heap.size Wd (Wd.alloc (.cells #[.int .u8 a, .int .i64 q] 110)) from (Below.refl _ _).alloc (Nat.le_refl _) _))
        have HX2 := Lib.hid (block_later HXD.out (show Below Wd.heap.size Wd (Wd.alloc (.cells #[.int .u8 a, .int .i64 q] 110)) from (Below.refl _ _).alloc (Nat.le_refl _) _))
        refine hK.out _ _ HX2 (fun hHeld2 => ?_)
        clear hK K hHeld
        have hHeld := hHeld2
        clear hHeld2
        try simp only [Act.put, List.setIfInBounds_toArray, List.set_cons_zero, List.set_cons_succ]
        refine wpAnyH_ready (rs := [4]) (by kernel_rfl) (by simp) (AllReadyH.cons rfl (fun K hK => ?_) AllReadyH.nil)
        have hv := (last_cell HA2.out.fill.own).1
        rw [HM.out] at hv
        unfold itm at hv
        dsimp only at hv
        go_simp
        refine hK.out _ _ HX2 (fun hHeld2 => ?_)
        clear hK K hHeld
        have hHeld := hHeld2
        clear hHeld2
        try simp only [Act.put, List.setIfInBounds_toArray, List.set_cons_zero, List.set_cons_succ]
        clear hv
        refine wpAnyH_ready (rs := [11]) (by kernel_rfl) (by simp) (AllReadyH.cons rfl (fun K hK => ?_) AllReadyH.nil)
        refine step_append_vals (k := 2) (by decide) Tryz.underlying25 info_line rfl (by omega) rfl (.tmp 45) (.tmp 51) rfl (.slice none 0 0) lq (flatG lc ([] : List Ln)) (by simp [Act.eval]) (by rw [← HLQ.out]; exact own_zero HA2.out.items) (some ⟨Wd.heap.size, 0, none⟩) 1 1 (flatG lc [((a, q) : Ln)]) (by simp [Act.eval]) rfl (fun h => by cases h) (line_news Wd (a, q)) (flatG_all lc_one _) (by have := HLJ.out; omega) ?_
        intro p4 c4 w4 h1 h2 h3
        have HA3 := Lib.hid (HA2.out.app h1 h2 h3)
        have HX3 := Lib.hid ((h2.block wr.heap.size (block_lt HX2.out) fun hb => HIX.out _ hb rfl).trans HX2.out)
        clear h1 h2 h3
        refine hK.out _ _ HX3 (fun hHeld2 => ?_)
        clear hK K hHeld
        have hHeld := hHeld2
        clear hHeld2
        try simp only [Act.put, List.setIfInBounds_toArray, List.set_cons_zero, List.set_cons_succ]
        refine wpAnyH_take (i := 12) (oi := ⟨some 53, _, _, _, _, _⟩) (v := (.pointer (some ⟨g, m * 3, none⟩))) rfl (by kernel_rfl) (by kernel_rfl) (by kernel_rfl) (fun _ _ _ h => h) (Or.inl ⟨by rfl, fun w' hw' => ?_⟩) (by assumption) ?_
        · clear hHeld
          go_simp
        simp only [Act.put, List.setIfInBounds_toArray, List.set_cons_zero, List.set_cons_succ]
        refine wpAnyH_take (i := 13) (oi := ⟨some 54, _, _, _, _, _⟩) (v := (.pointer (some ⟨g, m * 3 + 2, none⟩))) rfl (by kernel_rfl) (by kernel_rfl) (by kernel_rfl) (fun _ _ _ h => h) (Or.inl ⟨by rfl, fun w' hw' => ?_⟩) (by assumption) ?_
        · clear hHeld
          go_simp
        simp only [Act.put, List.setIfInBounds_toArray, List.set_cons_zero, List.set_cons_succ]
        refine wpAnyH_ready (rs := [14]) (by kernel_rfl) (by simp) (AllReadyH.cons rfl (fun K hK => ?_) AllReadyH.nil)
        have hc2 := (last_cell HA3.out.own).1
        have hfz := (last_cell HA3.out.own).2
        rw [HM.out] at hc2 hfz
        have hA4 := HA3.out.put
        rw [HM.out] at hA4
        have HA4 := Lib.hid hA4
        have HX4 : Hid ((w4.setCell ⟨g, m * 3 + 2, none⟩ (.slice p4 (lq + 1) c4)).heap[wr.heap.size]? = _) := Lib.hid ((Below.heap_setCell _ _ _ _ (fun hc => HG.out hc.symm)).trans HX3.out)
        clear hA4
        go_simp
        refine hK.out _ _ HX4 (fun hHeld2 => ?_)
        clear hc2 hfz
        clear hK K hHeld
        have hHeld := hHeld2
        clear hHeld2
        try simp only [Act.put, List.setIfInBounds_toArray, List.set_cons_zero, List.set_cons_succ]
        refine wpAnyH_done (by kernel_rfl) ?_ _
        clear hHeld
        go_wp2_with fail
        go_roundw
        case rel => exact ⟨j + 1, by omega, by go_num, Lib.hid (.inr ⟨_, _, _, _, HA4.out.mono (Nat.le_refl (j + 1)), by rw [HS.out]; exact HSN.out.symm, rfl, by rw [Nat.add_sub_cancel, HX.out], by omega⟩)⟩
        case measure => simp [Go.RowKit.intOf]; omega

    case inr =>
      have hj0 : ¬ j = 0 := by omega
      have hd0 : ((j : Int) == 0) = false := by simp; omega
      obtain ⟨k, hk⟩ : ∃ k, j = k + 1 := ⟨j - 1, by omega⟩
      have hji : (j : Int) - 1 = k := by omega
      have hkn : (k : Int) < tn := by omega
      obtain ⟨y0, y1, y2, y3⟩ := HTC.out k (by omega) W1 (hw.fill.below.trans (HB1.out.mono hszr))
      obtain ⟨S', L', q', R⟩ := run_all t T j hj1 (by rw [HT.out.len]; exact hj)
      have hRL : s0.2.2.length ≤ j := by
        have := he.trans R.eq
        have h2 := (List.append_inj' this rfl).2
        simp only [List.cons.injEq, and_true] at h2
        rw [h2]
        have h3 := R.len
        have h4 := R.le
        dsimp only
        omega
      have e1 : j - 1 = k := by omega
      rw [e1] at hr0
      clear R
      generalize T.getD k tk0 = y at *
      obtain ⟨yo, ya, yr, yq⟩ := y
      dsimp only at y0 y1 y2 y3 hr0
      have HJ1 := Lib.hid hj1
      have HHE := Lib.hid he
      have HLT : Hid (∀ b, u5.ownBlock = some b → b < wr.heap.size) := Lib.hid fun b hb => (hw.fill.own.lt b hb).2
      obtain ⟨s1, s2, Lq⟩ := s0
      dsimp only at ht0 hr0 hRL
      replace ht0 := ht0.symm
      replace hr0 := hr0.symm
      subst ht0 hr0
      have hmj : H0.length + 1 ≤ j := by have := hw.fill.most; rwa [List.length_append, List.length_singleton] at this
      have HWR := Lib.hid hw
      clear he hk hj1 e1 hj0 hw
      by_cases hrr : yr = r
      case neg =>
        have hd1 : (r != yr) = true := by simpa using fun h => hrr h.symm
        obtain ⟨m, hm⟩ : ∃ m, (H0 ++ [h0]).length = m := ⟨_, rfl⟩
        have HM := Lib.hid hm
        have HMJ : Hid (m ≤ j) := Lib.hid (by rw [← hm, List.length_append, List.length_singleton]; exact hmj)
        have HF := Lib.hid (HWR.out.fill.later HB1.out)
        have HRR := Lib.hid hrr
        clear hmj hm HWR hrr hRL
        have HFA := Lib.hid fun (z : Nat) => HF.out.later (show Below W1.heap.size W1 ((W1.drewN z).alloc (.cells #[.int .u8 t, .int .u8 r, .slice none 0 0] 147)) from (below_drewN (Below.refl _ _) z).alloc (Nat.le_refl _) _)
        have HBA := Lib.hid fun (z : Nat) => block_later HBX.out (show Below W1.heap.size W1 ((W1.drewN z).alloc (.cells #[.int .u8 t, .int .u8 r, .slice none 0 0] 147)) from (below_drewN (Below.refl _ _) z).alloc (Nat.le_refl _) _)
        go_quiet (fail)
        go_upto_region 7 with (at_builtin; refine wpList_append_vals (k := 3) (by decide) Tryz.underlying148 info_step rfl (by omega) rfl _ _ rfl u5 m (flatG sc (H0 ++ [h0])) rfl (by rw [← HM.out]; exact own_zero (HFA.out _).own) (some ⟨W1.heap.size, 0, none⟩) 1 1 (flatG sc [(t, r, none, 0, 0)]) rfl rfl (fun h => by cases h) (step_news (c := #[.int .u8 t, .int .u8 r, .slice none 0 0]) (alloc_block (W1.drewN _) _) rfl) (flatG_all sc_one _) (by have := HMJ.out; omega) ?_; intro p3 c3 w3 h1 h2 h3)
        have hF3 := (HFA.out _).app (H' := [(t, r, none, 0, 0)]) (S' := [(t, r, [])]) rfl ⟨⟨rfl, rfl, SlG.empty _⟩, trivial⟩ (fun h hh h0 => by obtain rfl := List.mem_singleton.1 hh; exact absurd h0 (Nat.lt_irrefl 0)) (by rw [HM.out]; exact h1) h2 (by rw [HM.out]; exact h3)
        rw [HM.out] at hF3
        have hBX3 := (h2.block wr.heap.size (block_lt (HBA.out _)) fun hb => by have := HLT.out _ hb; omega).trans (HBA.out _)
        obtain ⟨g, hg, hgl⟩ : ∃ g, p3 = some ⟨g, 0, none⟩ ∧ g ≠ wr.heap.size := by
          rcases h1.2 with ⟨he, h0⟩ | ⟨g, cap, cur, he, _, hgb, _⟩
          · omega
          · cases he
            refine ⟨g, rfl, fun hc => ?_⟩
            rw [hc, hBX3] at hgb
            cases hgb
        subst hg
        have HBX3 := Lib.hid hBX3
        have HG := Lib.hid hgl
        have HW3 := Lib.hid (Hw.new hF3)
        have HIX : Hid (∀ b, (itm (t, r, none, 0, 0)).ownBlock = some b → b ≠ wr.heap.size) := Lib.hid fun b hb => by cases hb
        clear h1 h2 h3 hF3 hBX3 hgl HF HFA HBA
        obtain ⟨lq, hlq⟩ : ∃ lq, ([] : List Ln).length = lq := ⟨_, rfl⟩
        have HLQ := Lib.hid hlq
        have HLJ : Hid (lq ≤ j) := Lib.hid (by rw [← hlq]; exact Nat.zero_le _)
        clear hlq
        have HSN : Hid (hstep t (housesP t (T.take j)) (o, a, r, q) = (S0 ++ [(t, yr, Lq)]) ++ [(t, r, [] ++ [(a, q)])]) := Lib.hid (by rw [← HHE.out]; exact hstep_new t S0 _ _ HRR.out)
        have hwm : wrap64 (m : Int) = m := by have := HMJ.out; unfold wrap64; omega
        have hm0 : (0 : Int) ≤ m := by omega
        go_upto_region 8 with (fail)
        clear hwm hm0
        refine wp_region_held_drew (S := fun w' => Hid (w'.heap[wr.heap.size]? = some (.cells #[.int .u32 o, .int .u8 a, .int .u8 r, .int .i64 q] 87 (0, 0)))) (by kernel_rfl) HBX3 (fun hHeld => ?_)
        refine wpAnyH_take (i := 0) (oi := ⟨some 41, _, _, _, _, _⟩) (v := (.pointer (some ⟨g, m * 3, none⟩))) rfl (by kernel_rfl) (by kernel_rfl) (by kernel_rfl) (fun _ _ _ h => h) (Or.inl ⟨by rfl, fun w' hw' => ?_⟩) (by assumption) ?_
        · clear hHeld
          go_simp
        simp only [Act.put, List.setIfInBounds_toArray, List.set_cons_zero, List.set_cons_succ]
        refine wpAnyH_take (i := 1) (oi := ⟨some 42, _, _, _, _, _⟩) (v := (.pointer (some ⟨g, m * 3, none⟩))) rfl (by kernel_rfl) (by kernel_rfl) (by kernel_rfl) (fun _ _ _ h => h) (Or.inl ⟨by rfl, fun w' hw' => ?_⟩) (by assumption) ?_
        · clear hHeld
          go_simp
        simp only [Act.put, List.setIfInBounds_toArray, List.set_cons_zero, List.set_cons_succ]
        refine wpAnyH_take (i := 2) (oi := ⟨some 43, _, _, _, _, _⟩) (v := (.pointer (some ⟨g, m * 3, none⟩))) rfl (by kernel_rfl) (by kernel_rfl) (by kernel_rfl) (fun _ _ _ h => h) (Or.inl ⟨by rfl, fun w' hw' => ?_⟩) (by assumption) ?_
        · clear hHeld
          go_simp
        simp only [Act.put, List.setIfInBounds_toArray, List.set_cons_zero, List.set_cons_succ]
        refine wpAnyH_take (i := 3) (oi := ⟨some 44, _, _, _, _, _⟩) (v := (.pointer (some ⟨g, m * 3 + 2, none⟩))) rfl (by kernel_rfl) (by kernel_rfl) (by kernel_rfl) (fun _ _ _ h => h) (Or.inl ⟨by rfl, fun w' hw' => ?_⟩) (by assumption) ?_
        · clear hHeld
          go_simp
        simp only [Act.put, List.setIfInBounds_toArray, List.set_cons_zero, List.set_cons_succ]
        refine wpAnyH_take (i := 5) (oi := ⟨some 46, _, _, _, _, _⟩) (v := (.pointer (some ⟨wr.heap.size, 1, none⟩))) rfl (by kernel_rfl) (by kernel_rfl) (by kernel_rfl) (fun _ _ _ h => h) (Or.inl ⟨by rfl, fun w' hw' => ?_⟩) (by assumption) ?_
        · clear hHeld
          go_simp
        simp only [Act.put, List.setIfInBounds_toArray, List.set_cons_zero, List.set_cons_succ]
        refine wpAnyH_take (i := 6) (oi := ⟨some 47, _, _, _, _, _⟩) (v := (.int .u8 a)) rfl (by kernel_rfl) (by kernel_rfl) (by kernel_rfl) (fun _ _ _ h => h) (Or.inl ⟨by rfl, fun w' hw' => ?_⟩) (by assumption) ?_
        · obtain ⟨g0, g1, g2, g3⟩ := box_cells hw'.out
          clear hHeld
          go_simp
        simp only [Act.put, List.setIfInBounds_toArray, List.set_cons_zero, List.set_cons_succ]
        refine wpAnyH_take (i := 7) (oi := ⟨some 48, _, _, _, _, _⟩) (v := (.pointer (some ⟨wr.heap.size, 3, none⟩))) rfl (by kernel_rfl) (by kernel_rfl) (by kernel_rfl) (fun _ _ _ h => h) (Or.inl ⟨by rfl, fun w' hw' => ?_⟩) (by assumption) ?_
        · clear hHeld
          go_simp
        simp only [Act.put, List.setIfInBounds_toArray, List.set_cons_zero, List.set_cons_succ]
        refine wpAnyH_take (i := 8) (oi := ⟨some 49, _, _, _, _, _⟩) (v := (.int .i64 q)) rfl (by kernel_rfl) (by kernel_rfl) (by kernel_rfl) (fun _ _ _ h => h) (Or.inl ⟨by rfl, fun w' hw' => ?_⟩) (by assumption) ?_
        · obtain ⟨g0, g1, g2, g3⟩ := box_cells hw'.out
          clear hHeld
          go_simp
        simp only [Act.put, List.setIfInBounds_toArray, List.set_cons_zero, List.set_cons_succ]
        refine wpAnyH_take (i := 9) (oi := ⟨some 50, _, _, _, _, _⟩) (v := (.agg #[.int .u8 a, .int .i64 q])) rfl (by kernel_rfl) (by kernel_rfl) (by kernel_rfl) (fun _ _ _ h => h) (Or.inl ⟨by rfl, fun w' hw' => ?_⟩) (by assumption) ?_
        · clear hHeld
          go_simp
        simp only [Act.put, List.setIfInBounds_toArray, List.set_cons_zero, List.set_cons_succ]
        have HD := Lib.hid (HW3.out.later (show Below w3.heap.size w3 w3.drew from (Below.refl _ _).drew))
        have HXD : Hid (w3.drew.heap[wr.heap.size]? = some (.cells #[.int .u32 o, .int .u8 a, .int .u8 r, .int .i64 q] 87 (0, 0))) := HBX3
        generalize w3.drew = Wd at *
        refine wpAnyH_ready (rs := [4, 10]) (by kernel_rfl) (by simp) (AllReadyH.cons rfl (fun K hK => ?_) (AllReadyH.cons rfl (fun K hK => ?_) AllReadyH.nil))
        · have hv := (last_cell HD.out.fill.own).1
          rw [HM.out] at hv
          unfold itm at hv
          dsimp only at hv
          go_simp
          refine hK.out _ _ HXD (fun hHeld2 => ?_)
          clear hK K hHeld
          have hHeld := hHeld2
          clear hHeld2
          try simp only [Act.put, List.setIfInBounds_toArray, List.set_cons_zero, List.set_cons_succ]
          clear hv
          refine wpAnyH_ready (rs := [10]) (by kernel_rfl) (by simp) (AllReadyH.cons rfl (fun K hK => ?_) AllReadyH.nil)
          go_simp
          have HA2 := Lib.hid (HD.out.later (show Below Wd.heap.size Wd (Wd.alloc (.cells #[.int .u8 a, .int .i64 q] 110)) from (Below.refl _ _).alloc (Nat.le_refl _) _))
          have HX2 := Lib.hid (block_later HXD.out (show Below Wd.heap.size Wd (Wd.alloc (.cells #[.int .u8 a, .int .i64 q] 110)) from (Below.refl _ _).alloc (Nat.le_refl _) _))
          refine hK.out _ _ HX2 (fun hHeld2 => ?_)
          clear hK K hHeld
          have hHeld := hHeld2
          clear hHeld2
          try simp only [Act.put, List.setIfInBounds_toArray, List.set_cons_zero, List.set_cons_succ]
          refine wpAnyH_ready (rs := [11]) (by kernel_rfl) (by simp) (AllReadyH.cons rfl (fun K hK => ?_) AllReadyH.nil)
          refine step_append_vals (k := 2) (by decide) Tryz.underlying25 info_line rfl (by omega) rfl (.tmp 45) (.tmp 51) rfl (.slice none 0 0) lq (flatG lc ([] : List Ln)) (by simp [Act.eval]) (by rw [← HLQ.out]; exact own_zero HA2.out.items) (some ⟨Wd.heap.size, 0, none⟩) 1 1 (flatG lc [((a, q) : Ln)]) (by simp [Act.eval]) rfl (fun h => by cases h) (line_news Wd (a, q)) (flatG_all lc_one _) (by have := HLJ.out; omega) ?_
          intro p4 c4 w4 h1 h2 h3
          have HA3 := Lib.hid (HA2.out.app h1 h2 h3)
          have HX3 := Lib.hid ((h2.block wr.heap.size (block_lt HX2.out) fun hb => HIX.out _ hb rfl).trans HX2.out)
          clear h1 h2 h3
          refine hK.out _ _ HX3 (fun hHeld2 => ?_)
          clear hK K hHeld
          have hHeld := hHeld2
          clear hHeld2
          try simp only [Act.put, List.setIfInBounds_toArray, List.set_cons_zero, List.set_cons_succ]
          refine wpAnyH_take (i := 12) (oi := ⟨some 53, _, _, _, _, _⟩) (v := (.pointer (some ⟨g, m * 3, none⟩))) rfl (by kernel_rfl) (by kernel_rfl) (by kernel_rfl) (fun _ _ _ h => h) (Or.inl ⟨by rfl, fun w' hw' => ?_⟩) (by assumption) ?_
          · clear hHeld
            go_simp
          simp only [Act.put, List.setIfInBounds_toArray, List.set_cons_zero, List.set_cons_succ]
          refine wpAnyH_take (i := 13) (oi := ⟨some 54, _, _, _, _, _⟩) (v := (.pointer (some ⟨g, m * 3 + 2, none⟩))) rfl (by kernel_rfl) (by kernel_rfl) (by kernel_rfl) (fun _ _ _ h => h) (Or.inl ⟨by rfl, fun w' hw' => ?_⟩) (by assumption) ?_
          · clear hHeld
            go_simp
          simp only [Act.put, List.setIfInBounds_toArray, List.set_cons_zero, List.set_cons_succ]
          refine wpAnyH_ready (rs := [14]) (by kernel_rfl) (by simp) (AllReadyH.cons rfl (fun K hK => ?_) AllReadyH.nil)
          have hc2 := (last_cell HA3.out.own).1
          have hfz := (last_cell HA3.out.own).2
          rw [HM.out] at hc2 hfz
          have hA4 := HA3.out.put
          rw [HM.out] at hA4
          have HA4 := Lib.hid hA4
          have HX4 : Hid ((w4.setCell ⟨g, m * 3 + 2, none⟩ (.slice p4 (lq + 1) c4)).heap[wr.heap.size]? = _) := Lib.hid ((Below.heap_setCell _ _ _ _ (fun hc => HG.out hc.symm)).trans HX3.out)
          clear hA4
          go_simp
          refine hK.out _ _ HX4 (fun hHeld2 => ?_)
          clear hc2 hfz
          clear hK K hHeld
          have hHeld := hHeld2
          clear hHeld2
          try simp only [Act.put, List.setIfInBounds_toArray, List.set_cons_zero, List.set_cons_succ]
          refine wpAnyH_done (by kernel_rfl) ?_ _
          clear hHeld
          go_wp2_with fail
          go_roundw
          case rel => exact ⟨j + 1, by omega, by go_num, Lib.hid (.inr ⟨_, _, _, _, HA4.out.mono (Nat.le_refl (j + 1)), by rw [HS.out]; exact HSN.out.symm, rfl, by rw [Nat.add_sub_cancel, HX.out], by omega⟩)⟩
          case measure => simp [Go.RowKit.intOf]; omega
        · go_simp
          have HA2 := Lib.hid (HD.out.later (show Below Wd.heap.size Wd (Wd.alloc (.cells #[.int .u8 a, .int .i64 q] 110)) from (Below.refl _ _).alloc (Nat.le_refl _) _))
          have HX2 := Lib.hid (block_later HXD.out (show Below Wd.heap.size Wd (Wd.alloc (.cells #[.int .u8 a, .int .i64 q] 110)) from (Below.refl _ _).alloc (Nat.le_refl _) _))
          refine hK.out _ _ HX2 (fun hHeld2 => ?_)
          clear hK K hHeld
          have hHeld := hHeld2
          clear hHeld2
          try simp only [Act.put, List.setIfInBounds_toArray, List.set_cons_zero, List.set_cons_succ]
          refine wpAnyH_ready (rs := [4]) (by kernel_rfl) (by simp) (AllReadyH.cons rfl (fun K hK => ?_) AllReadyH.nil)
          have hv := (last_cell HA2.out.fill.own).1
          rw [HM.out] at hv
          unfold itm at hv
          dsimp only at hv
          go_simp
          refine hK.out _ _ HX2 (fun hHeld2 => ?_)
          clear hK K hHeld
          have hHeld := hHeld2
          clear hHeld2
          try simp only [Act.put, List.setIfInBounds_toArray, List.set_cons_zero, List.set_cons_succ]
          clear hv
          refine wpAnyH_ready (rs := [11]) (by kernel_rfl) (by simp) (AllReadyH.cons rfl (fun K hK => ?_) AllReadyH.nil)
          refine step_append_vals (k := 2) (by decide) Tryz.underlying25 info_line rfl (by omega) rfl (.tmp 45) (.tmp 51) rfl (.slice none 0 0) lq (flatG lc ([] : List Ln)) (by simp [Act.eval]) (by rw [← HLQ.out]; exact own_zero HA2.out.items) (some ⟨Wd.heap.size, 0, none⟩) 1 1 (flatG lc [((a, q) : Ln)]) (by simp [Act.eval]) rfl (fun h => by cases h) (line_news Wd (a, q)) (flatG_all lc_one _) (by have := HLJ.out; omega) ?_
          intro p4 c4 w4 h1 h2 h3
          have HA3 := Lib.hid (HA2.out.app h1 h2 h3)
          have HX3 := Lib.hid ((h2.block wr.heap.size (block_lt HX2.out) fun hb => HIX.out _ hb rfl).trans HX2.out)
          clear h1 h2 h3
          refine hK.out _ _ HX3 (fun hHeld2 => ?_)
          clear hK K hHeld
          have hHeld := hHeld2
          clear hHeld2
          try simp only [Act.put, List.setIfInBounds_toArray, List.set_cons_zero, List.set_cons_succ]
          refine wpAnyH_take (i := 12) (oi := ⟨some 53, _, _, _, _, _⟩) (v := (.pointer (some ⟨g, m * 3, none⟩))) rfl (by kernel_rfl) (by kernel_rfl) (by kernel_rfl) (fun _ _ _ h => h) (Or.inl ⟨by rfl, fun w' hw' => ?_⟩) (by assumption) ?_
          · clear hHeld
            go_simp
          simp only [Act.put, List.setIfInBounds_toArray, List.set_cons_zero, List.set_cons_succ]
          refine wpAnyH_take (i := 13) (oi := ⟨some 54, _, _, _, _, _⟩) (v := (.pointer (some ⟨g, m * 3 + 2, none⟩))) rfl (by kernel_rfl) (by kernel_rfl) (by kernel_rfl) (fun _ _ _ h => h) (Or.inl ⟨by rfl, fun w' hw' => ?_⟩) (by assumption) ?_
          · clear hHeld
            go_simp
          simp only [Act.put, List.setIfInBounds_toArray, List.set_cons_zero, List.set_cons_succ]
          refine wpAnyH_ready (rs := [14]) (by kernel_rfl) (by simp) (AllReadyH.cons rfl (fun K hK => ?_) AllReadyH.nil)
          have hc2 := (last_cell HA3.out.own).1
          have hfz := (last_cell HA3.out.own).2
          rw [HM.out] at hc2 hfz
          have hA4 := HA3.out.put
          rw [HM.out] at hA4
          have HA4 := Lib.hid hA4
          have HX4 : Hid ((w4.setCell ⟨g, m * 3 + 2, none⟩ (.slice p4 (lq + 1) c4)).heap[wr.heap.size]? = _) := Lib.hid ((Below.heap_setCell _ _ _ _ (fun hc => HG.out hc.symm)).trans HX3.out)
          clear hA4
          go_simp
          refine hK.out _ _ HX4 (fun hHeld2 => ?_)
          clear hc2 hfz
          clear hK K hHeld
          have hHeld := hHeld2
          clear hHeld2
          try simp only [Act.put, List.setIfInBounds_toArray, List.set_cons_zero, List.set_cons_succ]
          refine wpAnyH_done (by kernel_rfl) ?_ _
          clear hHeld
          go_wp2_with fail
          go_roundw
          case rel => exact ⟨j + 1, by omega, by go_num, Lib.hid (.inr ⟨_, _, _, _, HA4.out.mono (Nat.le_refl (j + 1)), by rw [HS.out]; exact HSN.out.symm, rfl, by rw [Nat.add_sub_cancel, HX.out], by omega⟩)⟩
          case measure => simp [Go.RowKit.intOf]; omega

      case pos =>
        have hd1 : (r != yr) = false := by simp [hrr]
        have HRR := Lib.hid hrr
        obtain ⟨m, hm⟩ : ∃ m, H0.length = m := ⟨_, rfl⟩
        have HM := Lib.hid hm
        rw [hm] at hmj
        have HMJ : Hid (m ≤ j) := Lib.hid (by omega)
        obtain ⟨g, c3, hv⟩ : ∃ g c3, u5 = .slice (some ⟨g, 0, none⟩) (m + 1) c3 := by
          rcases HWR.out.fill.own.2 with ⟨_, h0⟩ | ⟨g, cap, cur, hv, _⟩
          · simp at h0
          · rw [List.length_append, List.length_singleton, hm] at hv
            exact ⟨g, cap, hv⟩
        subst hv
        have HG : Hid (g ≠ wr.heap.size) := Lib.hid (Nat.ne_of_lt (HLT.out g rfl))
        have HIX : Hid (∀ b, (itm h0).ownBlock = some b → b ≠ wr.heap.size) := Lib.hid fun b hb => Nat.ne_of_lt (HWR.out.items.lt b hb).2
        obtain ⟨i1, i2, ip, il, ic⟩ := h0
        obtain ⟨lq, hlq⟩ : ∃ lq, Lq.length = lq := ⟨_, rfl⟩
        have HLQ := Lib.hid hlq
        have HLJ : Hid (lq ≤ j) := Lib.hid (by rw [← hlq]; exact hRL)
        have HSN : Hid (hstep t (housesP t (T.take j)) (o, a, r, q) = S0 ++ [(t, yr, Lq ++ [(a, q)])]) := Lib.hid (by rw [← HHE.out]; exact hstep_same t S0 _ _ hrr)
        clear hlq hRL hm hmj hrr
        go_quiet (fail)
        have HW3 := Lib.hid ((HWR.out.later HB1.out).later (below_drewN (Below.refl _ _) nq))
        have HBX3 : Hid ((W1.drewN nq).heap[wr.heap.size]? = some (.cells #[.int .u32 o, .int .u8 a, .int .u8 r, .int .i64 q] 87 (0, 0))) := HBX
        clear x0 x1 x2 x3 y0 y1 y2 y3
        generalize W1.drewN nq = w3 at *
        have hwm : wrap64 (m : Int) = m := by have := HMJ.out; unfold wrap64; omega
        have hm0 : (0 : Int) ≤ m := by omega
        go_upto_region 8 with (fail)
        clear hwm hm0
        refine wp_region_held_drew (S := fun w' => Hid (w'.heap[wr.heap.size]? = some (.cells #[.int .u32 o, .int .u8 a, .int .u8 r, .int .i64 q] 87 (0, 0)))) (by kernel_rfl) HBX3 (fun hHeld => ?_)
        refine wpAnyH_take (i := 0) (oi := ⟨some 41, _, _, _, _, _⟩) (v := (.pointer (some ⟨g, m * 3, none⟩))) rfl (by kernel_rfl) (by kernel_rfl) (by kernel_rfl) (fun _ _ _ h => h) (Or.inl ⟨by rfl, fun w' hw' => ?_⟩) (by assumption) ?_
        · clear hHeld
          go_simp
        simp only [Act.put, List.setIfInBounds_toArray, List.set_cons_zero, List.set_cons_succ]
        refine wpAnyH_take (i := 1) (oi := ⟨some 42, _, _, _, _, _⟩) (v := (.pointer (some ⟨g, m * 3, none⟩))) rfl (by kernel_rfl) (by kernel_rfl) (by kernel_rfl) (fun _ _ _ h => h) (Or.inl ⟨by rfl, fun w' hw' => ?_⟩) (by assumption) ?_
        · clear hHeld
          go_simp
        simp only [Act.put, List.setIfInBounds_toArray, List.set_cons_zero, List.set_cons_succ]
        refine wpAnyH_take (i := 2) (oi := ⟨some 43, _, _, _, _, _⟩) (v := (.pointer (some ⟨g, m * 3, none⟩))) rfl (by kernel_rfl) (by kernel_rfl) (by kernel_rfl) (fun _ _ _ h => h) (Or.inl ⟨by rfl, fun w' hw' => ?_⟩) (by assumption) ?_
        · clear hHeld
          go_simp
        simp only [Act.put, List.setIfInBounds_toArray, List.set_cons_zero, List.set_cons_succ]
        refine wpAnyH_take (i := 3) (oi := ⟨some 44, _, _, _, _, _⟩) (v := (.pointer (some ⟨g, m * 3 + 2, none⟩))) rfl (by kernel_rfl) (by kernel_rfl) (by kernel_rfl) (fun _ _ _ h => h) (Or.inl ⟨by rfl, fun w' hw' => ?_⟩) (by assumption) ?_
        · clear hHeld
          go_simp
        simp only [Act.put, List.setIfInBounds_toArray, List.set_cons_zero, List.set_cons_succ]
        refine wpAnyH_take (i := 5) (oi := ⟨some 46, _, _, _, _, _⟩) (v := (.pointer (some ⟨wr.heap.size, 1, none⟩))) rfl (by kernel_rfl) (by kernel_rfl) (by kernel_rfl) (fun _ _ _ h => h) (Or.inl ⟨by rfl, fun w' hw' => ?_⟩) (by assumption) ?_
        · clear hHeld
          go_simp
        simp only [Act.put, List.setIfInBounds_toArray, List.set_cons_zero, List.set_cons_succ]
        refine wpAnyH_take (i := 6) (oi := ⟨some 47, _, _, _, _, _⟩) (v := (.int .u8 a)) rfl (by kernel_rfl) (by kernel_rfl) (by kernel_rfl) (fun _ _ _ h => h) (Or.inl ⟨by rfl, fun w' hw' => ?_⟩) (by assumption) ?_
        · obtain ⟨g0, g1, g2, g3⟩ := box_cells hw'.out
          clear hHeld
          go_simp
        simp only [Act.put, List.setIfInBounds_toArray, List.set_cons_zero, List.set_cons_succ]
        refine wpAnyH_take (i := 7) (oi := ⟨some 48, _, _, _, _, _⟩) (v := (.pointer (some ⟨wr.heap.size, 3, none⟩))) rfl (by kernel_rfl) (by kernel_rfl) (by kernel_rfl) (fun _ _ _ h => h) (Or.inl ⟨by rfl, fun w' hw' => ?_⟩) (by assumption) ?_
        · clear hHeld
          go_simp
        simp only [Act.put, List.setIfInBounds_toArray, List.set_cons_zero, List.set_cons_succ]
        refine wpAnyH_take (i := 8) (oi := ⟨some 49, _, _, _, _, _⟩) (v := (.int .i64 q)) rfl (by kernel_rfl) (by kernel_rfl) (by kernel_rfl) (fun _ _ _ h => h) (Or.inl ⟨by rfl, fun w' hw' => ?_⟩) (by assumption) ?_
        · obtain ⟨g0, g1, g2, g3⟩ := box_cells hw'.out
          clear hHeld
          go_simp
        simp only [Act.put, List.setIfInBounds_toArray, List.set_cons_zero, List.set_cons_succ]
        refine wpAnyH_take (i := 9) (oi := ⟨some 50, _, _, _, _, _⟩) (v := (.agg #[.int .u8 a, .int .i64 q])) rfl (by kernel_rfl) (by kernel_rfl) (by kernel_rfl) (fun _ _ _ h => h) (Or.inl ⟨by rfl, fun w' hw' => ?_⟩) (by assumption) ?_
        · clear hHeld
          go_simp
        simp only [Act.put, List.setIfInBounds_toArray, List.set_cons_zero, List.set_cons_succ]
        have HD := Lib.hid (HW3.out.later (show Below w3.heap.size w3 w3.drew from (Below.refl _ _).drew))
        have HXD : Hid (w3.drew.heap[wr.heap.size]? = some (.cells #[.int .u32 o, .int .u8 a, .int .u8 r, .int .i64 q] 87 (0, 0))) := HBX3
        generalize w3.drew = Wd at *
        refine wpAnyH_ready (rs := [4, 10]) (by kernel_rfl) (by simp) (AllReadyH.cons rfl (fun K hK => ?_) (AllReadyH.cons rfl (fun K hK => ?_) AllReadyH.nil))
        · have hv := (last_cell HD.out.fill.own).1
          rw [HM.out] at hv
          unfold itm at hv
          dsimp only at hv
          go_simp
          refine hK.out _ _ HXD (fun hHeld2 => ?_)
          clear hK K hHeld
          have hHeld := hHeld2
          clear hHeld2
          try simp only [Act.put, List.setIfInBounds_toArray, List.set_cons_zero, List.set_cons_succ]
          clear hv
          refine wpAnyH_ready (rs := [10]) (by kernel_rfl) (by simp) (AllReadyH.cons rfl (fun K hK => ?_) AllReadyH.nil)
          go_simp
          have HA2 := Lib.hid (HD.out.later (show Below Wd.heap.size Wd (Wd.alloc (.cells #[.int .u8 a, .int .i64 q] 110)) from (Below.refl _ _).alloc (Nat.le_refl _) _))
          have HX2 := Lib.hid (block_later HXD.out (show Below Wd.heap.size Wd (Wd.alloc (.cells #[.int .u8 a, .int .i64 q] 110)) from (Below.refl _ _).alloc (Nat.le_refl _) _))
          refine hK.out _ _ HX2 (fun hHeld2 => ?_)
          clear hK K hHeld
          have hHeld := hHeld2
          clear hHeld2
          try simp only [Act.put, List.setIfInBounds_toArray, List.set_cons_zero, List.set_cons_succ]
          refine wpAnyH_ready (rs := [11]) (by kernel_rfl) (by simp) (AllReadyH.cons rfl (fun K hK => ?_) AllReadyH.nil)
          refine step_append_vals (k := 2) (by decide) Tryz.underlying25 info_line rfl (by omega) rfl (.tmp 45) (.tmp 51) rfl (.slice ip il ic) lq (flatG lc Lq) (by simp [Act.eval]) (by rw [← HLQ.out]; exact own_zero HA2.out.items) (some ⟨Wd.heap.size, 0, none⟩) 1 1 (flatG lc [((a, q) : Ln)]) (by simp [Act.eval]) rfl (fun h => by cases h) (line_news Wd (a, q)) (flatG_all lc_one _) (by have := HLJ.out; omega) ?_
          intro p4 c4 w4 h1 h2 h3
          have HA3 := Lib.hid (HA2.out.app h1 h2 h3)
          have HX3 := Lib.hid ((h2.block wr.heap.size (block_lt HX2.out) fun hb => HIX.out _ hb rfl).trans HX2.out)
          clear h1 h2 h3
          refine hK.out _ _ HX3 (fun hHeld2 => ?_)
          clear hK K hHeld
          have hHeld := hHeld2
          clear hHeld2
          try simp only [Act.put, List.setIfInBounds_toArray, List.set_cons_zero, List.set_cons_succ]
          refine wpAnyH_take (i := 12) (oi := ⟨some 53, _, _, _, _, _⟩) (v := (.pointer (some ⟨g, m * 3, none⟩))) rfl (by kernel_rfl) (by kernel_rfl) (by kernel_rfl) (fun _ _ _ h => h) (Or.inl ⟨by rfl, fun w' hw' => ?_⟩) (by assumption) ?_
          · clear hHeld
            go_simp
          simp only [Act.put, List.setIfInBounds_toArray, List.set_cons_zero, List.set_cons_succ]
          refine wpAnyH_take (i := 13) (oi := ⟨some 54, _, _, _, _, _⟩) (v := (.pointer (some ⟨g, m * 3 + 2, none⟩))) rfl (by kernel_rfl) (by kernel_rfl) (by kernel_rfl) (fun _ _ _ h => h) (Or.inl ⟨by rfl, fun w' hw' => ?_⟩) (by assumption) ?_
          · clear hHeld
            go_simp
          simp only [Act.put, List.setIfInBounds_toArray, List.set_cons_zero, List.set_cons_succ]
          refine wpAnyH_ready (rs := [14]) (by kernel_rfl) (by simp) (AllReadyH.cons rfl (fun K hK => ?_) AllReadyH.nil)
          have hc2 := (last_cell HA3.out.own).1
          have hfz := (last_cell HA3.out.own).2
          rw [HM.out] at hc2 hfz
          have hA4 := HA3.out.put
          rw [HM.out] at hA4
          have HA4 := Lib.hid hA4
          have HX4 : Hid ((w4.setCell ⟨g, m * 3 + 2, none⟩ (.slice p4 (lq + 1) c4)).heap[wr.heap.size]? = _) := Lib.hid ((Below.heap_setCell _ _ _ _ (fun hc => HG.out hc.symm)).trans HX3.out)
          clear hA4
          go_simp
          refine hK.out _ _ HX4 (fun hHeld2 => ?_)
          clear hc2 hfz
          clear hK K hHeld
          have hHeld := hHeld2
          clear hHeld2
          try simp only [Act.put, List.setIfInBounds_toArray, List.set_cons_zero, List.set_cons_succ]
          refine wpAnyH_done (by kernel_rfl) ?_ _
          clear hHeld
          go_wp2_with fail
          go_roundw
          case rel => exact ⟨j + 1, by omega, by go_num, Lib.hid (.inr ⟨_, _, _, _, HA4.out.mono (Nat.le_succ j), by rw [HS.out]; exact HSN.out.symm, rfl, by rw [Nat.add_sub_cancel, HX.out]; exact HRR.out, by omega⟩)⟩
          case measure => simp [Go.RowKit.intOf]; omega
        · go_simp
          have HA2 := Lib.hid (HD.out.later (show Below Wd.heap.size Wd (Wd.alloc (.cells #[.int .u8 a, .int .i64 q] 110)) from (Below.refl _ _).alloc (Nat.le_refl _) _))
          have HX2 := Lib.hid (block_later HXD.out (show Below Wd.heap.size Wd (Wd.alloc (.cells #[.int .u8 a, .int .i64 q] 110)) from (Below.refl _ _).alloc (Nat.le_refl _) _))
          refine hK.out _ _ HX2 (fun hHeld2 => ?_)
          clear hK K hHeld
          have hHeld := hHeld2
          clear hHeld2
          try simp only [Act.put, List.setIfInBounds_toArray, List.set_cons_zero, List.set_cons_succ]
          refine wpAnyH_ready (rs := [4]) (by kernel_rfl) (by simp) (AllReadyH.cons rfl (fun K hK => ?_) AllReadyH.nil)
          have hv := (last_cell HA2.out.fill.own).1
          rw [HM.out] at hv
          unfold itm at hv
          dsimp only at hv
          go_simp
          refine hK.out _ _ HX2 (fun hHeld2 => ?_)
          clear hK K hHeld
          have hHeld := hHeld2
          clear hHeld2
          try simp only [Act.put, List.setIfInBounds_toArray, List.set_cons_zero, List.set_cons_succ]
          clear hv
          refine wpAnyH_ready (rs := [11]) (by kernel_rfl) (by simp) (AllReadyH.cons rfl (fun K hK => ?_) AllReadyH.nil)
          refine step_append_vals (k := 2) (by decide) Tryz.underlying25 info_line rfl (by omega) rfl (.tmp 45) (.tmp 51) rfl (.slice ip il ic) lq (flatG lc Lq) (by simp [Act.eval]) (by rw [← HLQ.out]; exact own_zero HA2.out.items) (some ⟨Wd.heap.size, 0, none⟩) 1 1 (flatG lc [((a, q) : Ln)]) (by simp [Act.eval]) rfl (fun h => by cases h) (line_news Wd (a, q)) (flatG_all lc_one _) (by have := HLJ.out; omega) ?_
          intro p4 c4 w4 h1 h2 h3
          have HA3 := Lib.hid (HA2.out.app h1 h2 h3)
          have HX3 := Lib.hid ((h2.block wr.heap.size (block_lt HX2.out) fun hb => HIX.out _ hb rfl).trans HX2.out)
          clear h1 h2 h3
          refine hK.out _ _ HX3 (fun hHeld2 => ?_)
          clear hK K hHeld
          have hHeld := hHeld2
          clear hHeld2
          try simp only [Act.put, List.setIfInBounds_toArray, List.set_cons_zero, List.set_cons_succ]
          refine wpAnyH_take (i := 12) (oi := ⟨some 53, _, _, _, _, _⟩) (v := (.pointer (some ⟨g, m * 3, none⟩))) rfl (by kernel_rfl) (by kernel_rfl) (by kernel_rfl) (fun _ _ _ h => h) (Or.inl ⟨by rfl, fun w' hw' => ?_⟩) (by assumption) ?_
          · clear hHeld
            go_simp
          simp only [Act.put, List.setIfInBounds_toArray, List.set_cons_zero, List.set_cons_succ]
          refine wpAnyH_take (i := 13) (oi := ⟨some 54, _, _, _, _, _⟩) (v := (.pointer (some ⟨g, m * 3 + 2, none⟩))) rfl (by kernel_rfl) (by kernel_rfl) (by kernel_rfl) (fun _ _ _ h => h) (Or.inl ⟨by rfl, fun w' hw' => ?_⟩) (by assumption) ?_
          · clear hHeld
            go_simp
          simp only [Act.put, List.setIfInBounds_toArray, List.set_cons_zero, List.set_cons_succ]
          refine wpAnyH_ready (rs := [14]) (by kernel_rfl) (by simp) (AllReadyH.cons rfl (fun K hK => ?_) AllReadyH.nil)
          have hc2 := (last_cell HA3.out.own).1
          have hfz := (last_cell HA3.out.own).2
          rw [HM.out] at hc2 hfz
          have hA4 := HA3.out.put
          rw [HM.out] at hA4
          have HA4 := Lib.hid hA4
          have HX4 : Hid ((w4.setCell ⟨g, m * 3 + 2, none⟩ (.slice p4 (lq + 1) c4)).heap[wr.heap.size]? = _) := Lib.hid ((Below.heap_setCell _ _ _ _ (fun hc => HG.out hc.symm)).trans HX3.out)
          clear hA4
          go_simp
          refine hK.out _ _ HX4 (fun hHeld2 => ?_)
          clear hc2 hfz
          clear hK K hHeld
          have hHeld := hHeld2
          clear hHeld2
          try simp only [Act.put, List.setIfInBounds_toArray, List.set_cons_zero, List.set_cons_succ]
          refine wpAnyH_done (by kernel_rfl) ?_ _
          clear hHeld
          go_wp2_with fail
          go_roundw
          case rel => exact ⟨j + 1, by omega, by go_num, Lib.hid (.inr ⟨_, _, _, _, HA4.out.mono (Nat.le_succ j), by rw [HS.out]; exact HSN.out.symm, rfl, by rw [Nat.add_sub_cancel, HX.out]; exact HRR.out, by omega⟩)⟩
          case measure => simp [Go.RowKit.intOf]; omega

end Go.Proofs.YtdcanppiiikjgaaGreatDoor
namespace Go.Proofs.YtdcanppiiikjgaaGreatDoor
open Go.RowKit Go.ChangeShapes Go.WideShapes
set_option linter.unusedVariables false
set_option linter.unusedSimpArgs false
set_option maxRecDepth 10000

/-- What is known of each step of takes. -/
def StepFit (t : Int) (N : Nat) (s : Stp) : Prop := s.1 = t ∧ (0 ≤ s.2.1 ∧ s.2.1 ≤ 255) ∧ (∀ y ∈ s.2.2, Lnok y) ∧ s.2.2.length ≤ N
theorem StepFit.mono {t : Int} {N K : Nat} {s : Stp} (h : StepFit t N s) (hn : N ≤ K) : StepFit t K s := ⟨h.1, h.2.1, h.2.2.1, Nat.le_trans h.2.2.2 hn⟩
theorem hstep_fit {t : Int} {N : Nat} {S : List Stp} {x : Tk} (h : ∀ s ∈ S, StepFit t N s) (hx : Tkok x) : ∀ s ∈ hstep t S x, StepFit t (N + 1) s := by
  have hl : Lnok (lnT x) := ⟨hx.2.1, hx.2.2.2⟩
  have hn : StepFit t (N + 1) (t, x.2.2.1, [lnT x]) := ⟨rfl, hx.2.2.1, fun y hy => by obtain rfl := List.mem_singleton.1 hy; exact hl, by simp⟩
  unfold hstep
  intro s hs
  cases hg : S.getLast? with
  | none =>
    rw [hg] at hs
    obtain rfl := List.mem_singleton.1 hs
    exact hn
  | some l =>
    rw [hg] at hs
    dsimp only at hs
    have hlm := List.mem_of_getLast? hg
    split at hs
    · rcases List.mem_append.1 hs with hs | hs
      · exact (h s (List.dropLast_subset _ hs)).mono (by omega)
      · obtain rfl := List.mem_singleton.1 hs
        obtain ⟨h1, h2, h3, h4⟩ := h l hlm
        refine ⟨h1, h2, fun y hy => ?_, by simp; exact h4⟩
        rcases List.mem_append.1 hy with hy | hy
        · exact h3 y hy
        · obtain rfl := List.mem_singleton.1 hy
          exact hl
    · rcases List.mem_append.1 hs with hs | hs
      · exact (h s hs).mono (by omega)
      · obtain rfl := List.mem_singleton.1 hs
        exact hn
theorem houses_fit {t : Int} : ∀ (T : List Tk) (N : Nat) (S : List Stp), (∀ x ∈ T, Tkok x) → (∀ s ∈ S, StepFit t N s) → ∀ s ∈ T.foldl (hstep t) S, StepFit t (N + T.length) s
  | [], N, S, _, h => h
  | x :: T, N, S, hT, h => by
    have := houses_fit T (N + 1) (hstep t S x) (fun y hy => hT y (List.mem_cons.2 (.inr hy))) (hstep_fit h (hT x (List.mem_cons.2 (.inl rfl))))
    rw [List.length_cons]
    have e : N + (T.length + 1) = N + 1 + T.length := by omega
    rw [e]
    exact this
theorem houses_each (t : Int) (T : List Tk) (h : ∀ x ∈ T, Tkok x) {j : Nat} (hj : j < (housesP t T).length) : StepFit t T.length ((housesP t T).getD j (0, 0, [])) := by
  have := houses_fit (t := t) T 0 [] h (fun s hs => by cases hs)
  rw [Nat.zero_add] at this
  refine this _ ?_
  rw [List.getD, List.getElem?_eq_getElem hj]
  exact List.getElem_mem _
theorem takes_long {s w o : Int} {T : List Tk} (h : 12 < T.length) : takesB s w o T = false := by
  cases hc : takesB s w o T with
  | false => rfl
  | true => have := ((takes_iff s w o T).1 hc).1; omega
theorem takes_other {s w o : Int} {T : List Tk} (h : otherB o T = true) : takesB s w o T = false := by
  cases hc : takesB s w o T with
  | false => rfl
  | true =>
    have h1 := ((takes_iff s w o T).1 hc).2.1
    unfold otherB at h
    rw [List.any_eq_true] at h
    obtain ⟨x, hx, hne⟩ := h
    obtain ⟨j, hj, rfl⟩ := mem_getD tk0 hx
    rw [h1 j hj] at hne
    simp at hne
theorem takes_house {s w o : Int} {T : List Tk} (hs : sizedB s w = true) {j : Nat} (hj : j < (housesP 1 T).length) (h : houseAt s w (housesP 1 T) j = false) : takesB s w o T = false := by
  cases hc : takesB s w o T with
  | false => rfl
  | true =>
    have := ((house_all s w o T hs).1 hc).2.2 j hj
    rw [h] at this
    cases this
theorem takes_all {s w o : Int} {T : List Tk} (hs : sizedB s w = true) (hl : T.length ≤ 12) (h : otherB o T = false) (ha : ∀ j, j < (housesP 1 T).length → houseAt s w (housesP 1 T) j = true) : takesB s w o T = true := by
  refine (house_all s w o T hs).2 ⟨hl, fun j hj => ?_, ha⟩
  unfold otherB at h
  rw [List.any_eq_false] at h
  have := h (T.getD j tk0) (by rw [List.getD, List.getElem?_eq_getElem hj]; exact List.getElem_mem _)
  simpa using this
theorem step_cells {w : World} {p : Option Addr} {n c : Nat} {H : List Hs} (h : HL w p n c H) {j : Nat} (hj : j < n) : ∃ b off, p = some ⟨b, off, none⟩ ∧ b < w.heap.size ∧ w.cell? ⟨b, off + j * 3, none⟩ = some (.int .u8 (H.getD j hs0).1) ∧ w.cell? ⟨b, off + j * 3 + 1, none⟩ = some (.int .u8 (H.getD j hs0).2.1) ∧ w.cell? ⟨b, off + j * 3 + 2, none⟩ = some (.slice (H.getD j hs0).2.2.1 (H.getD j hs0).2.2.2.1 (H.getD j hs0).2.2.2.2) := by
  obtain ⟨b, off, rfl, hb, hc⟩ := h.cell (by omega)
  exact ⟨b, off, rfl, hb, hc j hj 0 _ rfl, hc j hj 1 _ rfl, hc j hj 2 _ rfl⟩
set_option maxHeartbeats 8000000 in
theorem goodtakes_any (s w : Int) (k od po : Int) (lp : Option Addr) (ln lcp : Nat) (tp : Option Addr) (tn tcp : Nat) (wp : Option Addr) (wn wcp : Nat) (sk fr to q : Int) (T : List Tk) (W : World) (hw : Words W) (hT : TKL W tp tn tcp T) (hok : ∀ x ∈ T, Tkok x) (h1 : 1 ≤ s) (h4 : s ≤ 4) (hw1 : 1 ≤ w) (hw4 : w ≤ 4) (hn : tn ≤ 1000) :
    Calls Tryz.prog 101 #[.int .i64 s, .int .i64 w, .agg #[.int .u8 k, .int .u32 od, .int .u8 po, .slice lp ln lcp, .slice tp tn tcp, .slice wp wn wcp, .int .u8 sk, .int .u8 fr, .int .u8 to, .int .i64 q]] W fun e w' => e = .returned (.bool (takesB s w od T)) ∧ Below W.heap.size W w' := by
  have hs : sizedB s w = true := by unfold sizedB; simp; omega
  obtain ⟨W2, hW2, hbx, hb2⟩ : ∃ W2, W.alloc (.cells #[.int .u8 k, .int .u32 od, .int .u8 po, .slice lp ln lcp, .slice tp tn tcp, .slice wp wn wcp, .int .u8 sk, .int .u8 fr, .int .u8 to, .int .i64 q] 28) = W2 ∧ W2.heap[W.heap.size]? = some (.cells #[.int .u8 k, .int .u32 od, .int .u8 po, .slice lp ln lcp, .slice tp tn tcp, .slice wp wn wcp, .int .u8 sk, .int .u8 fr, .int .u8 to, .int .i64 q] 28 (0, 0)) ∧ Below W.heap.size W W2 := ⟨_, rfl, alloc_block W _, (Below.refl _ _).alloc (Nat.le_refl _) _⟩
  have HW2 := Lib.hid hW2
  have HB2 := Lib.hid hb2
  have HX2 := Lib.hid hbx
  have HT2 := Lib.hid (hT.later hb2)
  have HV2 := Lib.hid (hw.later hb2)
  have HLN := Lib.hid hT.len
  have HOK := Lib.hid hok
  have HLG := Lib.hid (takes_long (s := s) (w := w) (o := od) (T := T))
  have HOT := Lib.hid (takes_other (s := s) (w := w) (o := od) (T := T))
  have HHO := Lib.hid (fun j => takes_house (s := s) (w := w) (o := od) (T := T) hs (j := j))
  have HAL := Lib.hid (takes_all (s := s) (w := w) (o := od) (T := T) hs)
  generalize takesB s w od T = res at *
  clear hW2 hb2 hbx hT hok hw hs
  by_cases hlen : 12 < tn
  case pos =>
    have hlen' : (12 : Int) < tn := by omega
    have d1 : decide ((12 : Int) < tn) = true := decide_eq_true hlen'
    have HF := Lib.hid (HLG.out (by rw [HLN.out]; exact hlen))
    go_enter Tryz.func101, Tryz.ntmps101
    go_wp2_with fail
    go_ret
    rw [HW2.out]
    exact ⟨by rw [HF.out]; rfl, HB2.out⟩
  have d1 : decide ((12 : Int) < tn) = false := decide_eq_false (by omega)
  have HL12 := Lib.hid hlen
  go_enter Tryz.func101, Tryz.ntmps101
  go_wp2_with fail
  rw [HW2.out]
  refine (contains_other W.heap.size od tp tn tcp T W2 HT2.out (block_cell HX2.out rfl) hn).mono ?_
  rintro e w3 ⟨rfl, hb3⟩
  have HB3 := Lib.hid hb3
  have HT3 := Lib.hid (HT2.out.later hb3)
  have HX3 := Lib.hid (block_later HX2.out hb3)
  have HV3 := Lib.hid (HV2.out.later hb3)
  clear hb3
  cases ho : otherB od T with
  | true =>
    have HF := Lib.hid (HOT.out ho)
    clear ho
    go_wp2_with fail
    go_ret
    exact ⟨by rw [HF.out]; rfl, HB2.out.trans (HB3.out.mono HB2.out.size)⟩
  | false =>
    have HO := Lib.hid ho
    obtain ⟨a0, a1, a2, a3, a4, a5, a6, a7, a8, a9⟩ := prog_cells k od po lp ln lcp tp tn tcp wp wn wcp sk fr to q HX3.out
    clear ho
    go_wp2_with fail
    refine (houses_any 1 tp tn tcp T w3 HT3.out hn).mono ?_
    rintro e w4 ⟨v, H, rfl, hf⟩
    have hb4 := hf.below
    have HB4 := Lib.hid hb4
    have HV4 := Lib.hid (HV3.out.later hb4)
    have hmost := hf.most
    obtain ⟨p, c, H', he, hsl, _⟩ := hf.gives
    cases he
    have HSL := Lib.hid hsl
    have HEA := Lib.hid fun j (hj : j < (housesP 1 T).length) => houses_each 1 T HOK.out hj
    have hSN : (housesP 1 T).length ≤ 1000 := by rw [← hf.tells.len]; omega
    clear hf hsl hb4 hmost a0 a1 a2 a3 a4 a5 a6 a7 a8 a9
    generalize housesP 1 T = S at *
    generalize hnl : S.length = n at *
    have HNL := Lib.hid hnl
    have hcap := HSL.out.row.cap
    clear hnl
    go_wp2_with fail
    go_loopw [27] (fun i wr => ∃ j : Nat, j ≤ n ∧ i = .int .i64 j ∧ Hid (Below w4.heap.size w4 wr) ∧ Hid (∀ i, i < j → houseAt s w S i = true)) (fun i _ => n - (Go.RowKit.intOf i).toNat)
    case atStart => exact ⟨0, Nat.zero_le _, rfl, Lib.hid (Below.refl _ _), Lib.hid fun i hi => by omega⟩
    case round =>
      obtain ⟨j, hj, rfl, HB, HE⟩ := hrel
      by_cases hlt : j < n
      case neg =>
        obtain rfl : j = n := by omega
        have HF := Lib.hid (HAL.out (by rw [HLN.out]; have := HL12.out; omega) HO.out HE.out)
        go_wp2_with fail
        go_ret
        exact ⟨by rw [HF.out]; rfl, HB2.out.trans ((HB3.out.trans ((HB4.out.trans (HB.out.mono HB4.out.size)).mono HB3.out.size)).mono HB2.out.size)⟩
      have hlt' : (j : Int) < n := by omega
      obtain ⟨hq1, hfr, hfl, hfn⟩ := HEA.out j hlt
      rw [HLN.out] at hfn
      obtain ⟨ht1, ht2, hl3⟩ := (HSL.out.later HB.out).tells.at j (by rw [HSL.out.row.len]; exact hlt)
      obtain ⟨b, off, rfl, _, k0, k1, k2⟩ := step_cells (HSL.out.row.later HB.out) hlt
      have hat : houseAt s w S j = ((decide (j = 0) || decide ((S.getD (j - 1) (0, 0, [])).2.1 < (S.getD j (0, 0, [])).2.1)) && goodS s w (S.getD j (0, 0, [])).1 (S.getD j (0, 0, [])).2.1 (S.getD j (0, 0, [])).2.2) := rfl
      have HPV := Lib.hid fun i (hi : i < n) => (HSL.out.tells.at i (by rw [HSL.out.row.len]; exact hi)).2.1
      have HPC : Hid (∀ i, i < n → ∀ w', Below w4.heap.size w4 w' → w'.cell? ⟨b, off + i * 3 + 1, none⟩ = some (.int .u8 (H'.getD i hs0).2.1)) := Lib.hid fun i hi w' h => by
        obtain ⟨b', off', he, _, d0, d1, d2⟩ := step_cells (HSL.out.row.later h) hi
        cases he
        exact d1
      rw [hq1] at hat ht1
      rw [ht1] at k0
      rw [ht2] at k1
      generalize hSj : S.getD j (0, 0, []) = sj at *
      obtain ⟨z1, r, Lq⟩ := sj
      generalize hh : H'.getD j hs0 = hd at *
      obtain ⟨z2, z3, lp2, ln2, lc2⟩ := hd
      dsimp only at *
      have HAT := Lib.hid hat
      have hlnn := hl3.len
      have HBA := Lib.hid (HB.out.trans ((show Below wr.heap.size wr (wr.alloc (.cells #[.int .u8 1, .int .u8 r, .slice lp2 ln2 lc2] 147)) from (Below.refl _ _).alloc (Nat.le_refl _) _).mono HB.out.size))
      have HVB := Lib.hid fun w' (h : Below (wr.alloc (.cells #[.int .u8 1, .int .u8 r, .slice lp2 ln2 lc2] 147)).heap.size (wr.alloc (.cells #[.int .u8 1, .int .u8 r, .slice lp2 ln2 lc2] 147)) w') => (HV4.out.later HBA.out).later h
      have HLB := Lib.hid fun w' (h : Below (wr.alloc (.cells #[.int .u8 1, .int .u8 r, .slice lp2 ln2 lc2] 147)).heap.size (wr.alloc (.cells #[.int .u8 1, .int .u8 r, .slice lp2 ln2 lc2] 147)) w') => (hl3.later ((Below.refl _ _).alloc (Nat.le_refl _) (.cells #[.int .u8 1, .int .u8 r, .slice lp2 ln2 lc2] 147))).later h
      have HBK := Lib.hid (alloc_block wr (.cells #[.int .u8 1, .int .u8 r, .slice lp2 ln2 lc2] 147))
      have e0 := fun q : After (wr.alloc (.cells #[.int .u8 1, .int .u8 r, .slice lp2 ln2 lc2] 147)) => cell_after q (block_cell (j := 0) (v := .int .u8 1) HBK.out rfl)
      have e1 := fun q : After (wr.alloc (.cells #[.int .u8 1, .int .u8 r, .slice lp2 ln2 lc2] 147)) => cell_after q (block_cell (j := 1) (v := .int .u8 r) HBK.out rfl)
      have e2 := fun q : After (wr.alloc (.cells #[.int .u8 1, .int .u8 r, .slice lp2 ln2 lc2] 147)) => cell_after q (block_cell (j := 2) (v := .slice lp2 ln2 lc2) HBK.out rfl)
      clear ht1 ht2 hh hat hSj hl3
      by_cases h0 : j = 0
      case pos =>
        have d2 : decide (0 < (j : Int)) = false := decide_eq_false (by omega)
        have d2n : decide (0 < j) = false := decide_eq_false (by omega)
        have HPREV : Hid (((decide (j = 0) || decide ((S.getD (j - 1) (0, 0, [])).2.1 < r)) && true) = true) := Lib.hid (by rw [h0]; rfl)
        clear h0
        have hgd := fun q : After (wr.alloc (.cells #[.int .u8 1, .int .u8 r, .slice lp2 ln2 lc2] 147)) => good_s s w 1 r lp2 ln2 lc2 Lq q.w (HVB.out q.w q.h) (HLB.out q.w q.h) hfl (by omega) hfr (by omega)
        cases hg : goodS s w 1 r Lq with
        | false =>
          rw [hg] at hgd
          have HF := Lib.hid (HHO.out j hlt (by rw [HAT.out, hg, Bool.and_false]))
          go_wp2_with fail
          refine wp_region_after (by kernel_rfl) (by kernel_rfl) ?_
          repeat (go_big_quiet_step (first | (go_at_call 108; exact calls_after _ (hgd _))))
          refine wpQuiet_nil ?_
          rintro w5 ⟨⟨wq, h6⟩, hw5⟩
          subst hw5
          have HB5 := Lib.hid (HBA.out.trans (h6.mono HBA.out.size))
          clear h6 hgd
          go_wp2_with fail
          go_ret
          exact ⟨by rw [HF.out]; rfl, HB2.out.trans ((HB3.out.trans ((HB4.out.trans (HB5.out.mono HB4.out.size)).mono HB3.out.size)).mono HB2.out.size)⟩
        | true =>
          rw [hg] at hgd
          have HT1 : Hid (houseAt s w S j = true) := Lib.hid (by rw [HAT.out, hg]; exact HPREV.out)
          go_wp2_with fail
          refine wp_region_after (by kernel_rfl) (by kernel_rfl) ?_
          repeat (go_big_quiet_step (first | (go_at_call 108; exact calls_after _ (hgd _))))
          refine wpQuiet_nil ?_
          rintro w5 ⟨⟨wq, h6⟩, hw5⟩
          subst hw5
          have HB5 := Lib.hid (HBA.out.trans (h6.mono HBA.out.size))
          clear h6 hgd
          go_wp2_with fail
          go_roundw
          case rel =>
            refine ⟨j + 1, by omega, by go_num, HB5, Lib.hid fun i hi => ?_⟩
            by_cases e : i = j
            · subst e; exact HT1.out
            · exact HE.out i (by omega)
          case measure => simp [Go.RowKit.intOf]; omega
      have d2 : decide (0 < (j : Int)) = true := decide_eq_true (by omega)
      have d2n : decide (0 < j) = true := decide_eq_true (by omega)
      obtain ⟨k, hk⟩ : ∃ k, j = k + 1 := ⟨j - 1, by omega⟩
      have hji : (j : Int) - 1 = k := by omega
      have hkn : (k : Int) < n := by omega
      have ej : j - 1 = k := by omega
      have y0 := HPC.out k (by omega) (wr.alloc (.cells #[.int .u8 1, .int .u8 r, .slice lp2 ln2 lc2] 147)) HBA.out
      rw [HPV.out k (by omega)] at y0
      have y1 := fun q : After (wr.alloc (.cells #[.int .u8 1, .int .u8 r, .slice lp2 ln2 lc2] 147)) => cell_after q y0
      clear y0
      rw [ej, decide_eq_false h0, Bool.false_or] at HAT
      generalize (S.getD k (0, 0, [])).2.1 = rp at *
      clear hk ej h0
      by_cases hrp : r ≤ rp
      case pos =>
        have d3 : decide (r ≤ rp) = true := decide_eq_true hrp
        have HF := Lib.hid (HHO.out j hlt (by rw [HAT.out, decide_eq_false (by omega), Bool.false_and]))
        have hgd := fun q : After (wr.alloc (.cells #[.int .u8 1, .int .u8 r, .slice lp2 ln2 lc2] 147)) => good_s s w 1 r lp2 ln2 lc2 Lq q.w (HVB.out q.w q.h) (HLB.out q.w q.h) hfl (by omega) hfr (by omega)
        go_wp2_with fail
        refine wp_region_after (by kernel_rfl) (by kernel_rfl) ?_
        repeat (go_big_quiet_step (first | (go_at_call 108; exact calls_after _ (hgd _))))
        refine wpQuiet_nil ?_
        rintro w5 ⟨⟨wq, h6⟩, hw5⟩
        subst hw5
        have HB5 := Lib.hid (HBA.out.trans (h6.mono HBA.out.size))
        clear h6 hgd
        go_wp2_with fail
        go_ret
        exact ⟨by rw [HF.out]; rfl, HB2.out.trans ((HB3.out.trans ((HB4.out.trans (HB5.out.mono HB4.out.size)).mono HB3.out.size)).mono HB2.out.size)⟩
      have d3 : decide (r ≤ rp) = false := decide_eq_false hrp
      have HPREV : Hid ((decide (rp < r) && true) = true) := Lib.hid (by rw [decide_eq_true (by omega)]; rfl)
      clear hrp
      have hgd := fun q : After (wr.alloc (.cells #[.int .u8 1, .int .u8 r, .slice lp2 ln2 lc2] 147)) => good_s s w 1 r lp2 ln2 lc2 Lq q.w (HVB.out q.w q.h) (HLB.out q.w q.h) hfl (by omega) hfr (by omega)
      cases hg : goodS s w 1 r Lq with
      | false =>
        rw [hg] at hgd
        have HF := Lib.hid (HHO.out j hlt (by rw [HAT.out, hg, Bool.and_false]))
        go_wp2_with fail
        refine wp_region_after (by kernel_rfl) (by kernel_rfl) ?_
        repeat (go_big_quiet_step (first | (go_at_call 108; exact calls_after _ (hgd _))))
        refine wpQuiet_nil ?_
        rintro w5 ⟨⟨wq, h6⟩, hw5⟩
        subst hw5
        have HB5 := Lib.hid (HBA.out.trans (h6.mono HBA.out.size))
        clear h6 hgd
        go_wp2_with fail
        go_ret
        exact ⟨by rw [HF.out]; rfl, HB2.out.trans ((HB3.out.trans ((HB4.out.trans (HB5.out.mono HB4.out.size)).mono HB3.out.size)).mono HB2.out.size)⟩
      | true =>
        rw [hg] at hgd
        have HT1 : Hid (houseAt s w S j = true) := Lib.hid (by rw [HAT.out, hg]; exact HPREV.out)
        go_wp2_with fail
        refine wp_region_after (by kernel_rfl) (by kernel_rfl) ?_
        repeat (go_big_quiet_step (first | (go_at_call 108; exact calls_after _ (hgd _))))
        refine wpQuiet_nil ?_
        rintro w5 ⟨⟨wq, h6⟩, hw5⟩
        subst hw5
        have HB5 := Lib.hid (HBA.out.trans (h6.mono HBA.out.size))
        clear h6 hgd
        go_wp2_with fail
        go_roundw
        case rel =>
          refine ⟨j + 1, by omega, by go_num, HB5, Lib.hid fun i hi => ?_⟩
          by_cases e : i = j
          · subst e; exact HT1.out
          · exact HE.out i (by omega)
        case measure => simp [Go.RowKit.intOf]; omega
end Go.Proofs.YtdcanppiiikjgaaGreatDoor
