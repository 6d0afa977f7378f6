/- A disk in memory: which block is whose, by colours; its volume and tape, seen and sure; what is pending. -/
import Derived.Test.YtdkpjaobfohdfaaVolTear
import Derived.Test.YtdkpjaobfohdfaaTapeCutting
import Derived.Test.YtdkpjaobfohdfaaTapeAdd
import Derived.Test.YtdkpjaobfohdfaaTapeCopies
import Derived.Test.YtdkpjaobfohdfaaDiskMath
namespace Go.Proofs.Ytdkpjaobfohdfaa
open Go.RowKit Go.ChangeShapes Go.WideShapes
set_option linter.unusedVariables false
set_option maxRecDepth 10000
set_option linter.unusedSimpArgs false

/-- New blocks, from n on, have the colour c. -/
def paint (col : Nat → Nat) (n c : Nat) : Nat → Nat := fun k => if k < n then col k else c
theorem paint_old {col : Nat → Nat} {n c k : Nat} (h : k < n) : paint col n c k = col k := if_pos h
theorem paint_new {col : Nat → Nat} {n c k : Nat} (h : n ≤ k) : paint col n c k = c := if_neg (by omega)
/-- All blocks of a world keep their colours. -/
def Ext (w : World) (col col' : Nat → Nat) : Prop := ∀ k, k < w.heap.size → col' k = col k
theorem Ext.refl (w : World) (col : Nat → Nat) : Ext w col col := fun _ _ => rfl
theorem Ext.trans {w w' : World} {a b c : Nat → Nat} (h : Ext w a b) (g : Ext w' b c) (hs : w.heap.size ≤ w'.heap.size) : Ext w a c := fun k hk => (g k (Nat.lt_of_lt_of_le hk hs)).trans (h k hk)
theorem Ext.paint (w : World) (col : Nat → Nat) (c : Nat) : Ext w col (paint col w.heap.size c) := fun _ hk => paint_old hk
theorem bl_col {w : World} {p : Option Addr} {n c x : Nat} {L : List Int} {col col' : Nat → Nat} (h : BL w p n c L) (he : Ext w col col') (hc : 0 < n → ∀ a, p = some a → col a.block = x) : 0 < n → ∀ a, p = some a → col' a.block = x := fun h0 a ha => by
  obtain ⟨b, off, hp, hlt, _⟩ := h.at h0
  rw [hp] at ha
  cases ha
  rw [he b hlt]
  exact hc h0 _ hp
/-- A volume of colour c and a tape of colour c + 1. -/
structure Pa (w : World) (col : Nat → Nat) (c Bv T s : Nat) (V : List (List Int)) (a : Int) (z : Nat) (t : TS) : Prop where
  vo : ∃ G, Vo w Bv G s V ∧ col G = c
  cv : col Bv = c
  tp : ∃ mb, Tp w T mb (fun k => col k = c + 1) a z t
theorem Pa.keep {w w' : World} {col : Nat → Nat} {c Bv T s z : Nat} {V : List (List Int)} {a : Int} {t : TS} {S : Nat → Prop} (h : Pa w col c Bv T s V a z t) (hc : Chg S w w') (hs : ∀ k, col k = c ∨ col k = c + 1 → ¬ S k) : Pa w' col c Bv T s V a z t := by
  obtain ⟨⟨G, h1, h2⟩, h3, mb, h4⟩ := h
  exact ⟨⟨G, h1.keep hc (hs _ (.inl h3)) (hs _ (.inl h2)), h2⟩, h3, mb, h4.keep hc fun k hk => hs k (.inr hk)⟩
theorem Pa.later {w w' : World} {col : Nat → Nat} {c Bv T s z : Nat} {V : List (List Int)} {a : Int} {t : TS} (h : Pa w col c Bv T s V a z t) (hb : Below w.heap.size w w') : Pa w' col c Bv T s V a z t := h.keep (Chg.of_below (S := fun _ => False) hb) fun _ _ h => h
theorem Pa.recol {w : World} {col col' : Nat → Nat} {c Bv T s z : Nat} {V : List (List Int)} {a : Int} {t : TS} (h : Pa w col c Bv T s V a z t) (he : Ext w col col') : Pa w col' c Bv T s V a z t := by
  obtain ⟨⟨G, h1, h2⟩, h3, mb, h4⟩ := h
  exact ⟨⟨G, h1, (he G (block_lt h1.row)).trans h2⟩, (he Bv (block_lt h1.blk)).trans h3, mb, h4.mono fun k hk hl => (he k hl).trans hk⟩
theorem Pa.z_in {w : World} {col : Nat → Nat} {c Bv T s z : Nat} {V : List (List Int)} {a : Int} {t : TS} (h : Pa w col c Bv T s V a z t) : 64 ≤ z ∧ z ≤ 4096 := by
  obtain ⟨mb, h4⟩ := h.tp
  exact h4.s_in
def Dw.bytes : Dw → List Int
  | .put _ b => b
  | .grow b => b
  | _ => []
/-- A write that is pending, in memory: where its bytes lie, and their room. -/
structure Pw where
  x : Dw
  p : Option Addr
  c : Nat
def Pw.val : Pw → Value
  | ⟨.put i b, p, c⟩ => .iface 97 (.agg #[.int .i64 i, .slice p b.length c])
  | ⟨.grow b, p, c⟩ => .iface 80 (.agg #[.slice p b.length c])
  | ⟨.drop x, _, _⟩ => .iface 99 (.agg #[.int .i64 x])
  | ⟨.cut x, _, _⟩ => .iface 101 (.agg #[.int .i64 x])
theorem Pw.val_iface (y : Pw) : ∃ t v, y.val = .iface t v := by
  obtain ⟨x, p, c⟩ := y
  cases x <;> exact ⟨_, _, rfl⟩
def ew (y : Pw) : List Value := [y.val]
theorem ew_len (y : Pw) : (ew y).length = 1 := rfl
theorem ew_one (y : Pw) : ∀ u ∈ ew y, u.oneCell' = true := by
  intro u hu
  simp only [ew, List.mem_cons, List.not_mem_nil, or_false] at hu
  subst hu
  obtain ⟨t, v, h⟩ := y.val_iface
  rw [h]
  rfl
abbrev yd : Pw := ⟨.drop 0, none, 0⟩
structure Pw.ok (w : World) (col : Nat → Nat) (y : Pw) : Prop where
  bl : BL w y.p y.x.bytes.length y.c y.x.bytes
  c0 : 0 < y.x.bytes.length → ∀ a, y.p = some a → col a.block = 0
theorem Pw.ok.keep {w w' : World} {col : Nat → Nat} {y : Pw} {S : Nat → Prop} (h : y.ok w col) (hc : Chg S w w') (hs : ∀ k, col k = 0 → ¬ S k) : y.ok w' col := ⟨BL.keep h.bl hc fun h0 a ha => hs _ (h.c0 h0 a ha), h.c0⟩
theorem Pw.ok.recol {w : World} {col col' : Nat → Nat} {y : Pw} (h : y.ok w col) (he : Ext w col col') : y.ok w col' := ⟨h.bl, bl_col h.bl he h.c0⟩
/-- What is pending, in a row of colour c. -/
structure Pe (w : World) (col : Nat → Nat) (c : Nat) (pv : Value) (L : List Dw) : Prop where
  row : ∃ PL : List Pw, PL.map (·.x) = L ∧ w.ownsRow 0 82 1 pv PL.length (flatG ew PL) ∧ ∀ y ∈ PL, y.ok w col
  at_ : ∀ k, pv.ownBlock = some k → col k = c
theorem own_keep {w w' : World} {T : TypeId} {v : Value} {n : Nat} {cs : List Value} {S : Nat → Prop} (h : w.ownsRow 0 T 1 v n cs) (hc : Chg S w w') (hs : ∀ k, v.ownBlock = some k → ¬ S k) : w'.ownsRow 0 T 1 v n cs := by
  refine ⟨h.1, ?_⟩
  rcases h.2 with hn | ⟨g, cap, cur, rfl, h1, h2, h3⟩
  · exact .inl hn
  · exact .inr ⟨g, cap, cur, rfl, h1, by rw [hc.block g (block_lt h2) (hs g rfl)]; exact h2, h3⟩
theorem Pe.keep {w w' : World} {col : Nat → Nat} {c : Nat} {pv : Value} {L : List Dw} {S : Nat → Prop} (h : Pe w col c pv L) (hc : Chg S w w') (hs : ∀ k, col k = 0 ∨ col k = c → ¬ S k) : Pe w' col c pv L := by
  obtain ⟨⟨PL, h1, h2, h3⟩, h4⟩ := h
  exact ⟨⟨PL, h1, own_keep h2 hc fun k hk => hs k (.inr (h4 k hk)), fun y hy => (h3 y hy).keep hc fun k hk => hs k (.inl hk)⟩, h4⟩
theorem Pe.later {w w' : World} {col : Nat → Nat} {c : Nat} {pv : Value} {L : List Dw} (h : Pe w col c pv L) (hb : Below w.heap.size w w') : Pe w' col c pv L := h.keep (Chg.of_below (S := fun _ => False) hb) fun _ _ h => h
theorem Pe.recol {w : World} {col col' : Nat → Nat} {c : Nat} {pv : Value} {L : List Dw} (h : Pe w col c pv L) (he : Ext w col col') : Pe w col' c pv L := by
  obtain ⟨⟨PL, h1, h2, h3⟩, h4⟩ := h
  exact ⟨⟨PL, h1, h2, fun y hy => (h3 y hy).recol he⟩, fun k hk => (he k (h2.lt k hk).2).trans (h4 k hk)⟩
theorem Pe.nil (w : World) (col : Nat → Nat) (c : Nat) : Pe w col c (.slice none 0 0) [] := ⟨⟨[], rfl, World.ownsRow_nil _ _ _ _, fun y hy => by cases hy⟩, fun k hk => by cases hk⟩
theorem Pe.sl {w : World} {col : Nat → Nat} {c : Nat} {pv : Value} {L : List Dw} (h : Pe w col c pv L) : ∃ p cp PL, pv = .slice p L.length cp ∧ PL.map (·.x) = L ∧ SlG ew 1 yd w p L.length cp PL ∧ (∀ y ∈ PL, y.ok w col) ∧ (0 < L.length → ∀ a, p = some a → col a.block = c) := by
  obtain ⟨⟨PL, h1, h2, h3⟩, h4⟩ := h
  have hl : PL.length = L.length := by rw [← h1, List.length_map]
  rw [hl] at h2
  obtain ⟨p, cp, rfl, hs, _⟩ := SlG.of_own (d := yd) ew_len (by decide) h2
  refine ⟨p, cp, PL, rfl, h1, hs, h3, fun h0 a ha => ?_⟩
  obtain ⟨b, off, hp, _, _⟩ := hs.cell h0
  rw [hp] at ha
  cases ha
  exact h4 b (by rw [hp]; rfl)
/-- Where a disk's parts lie. -/
structure Ad where
  Bv : Nat
  T : Nat
  Bv' : Nat
  T' : Nat
  pv : Value
abbrev dcells (M : Nat) (A : Ad) : Array Value := #[.int .i64 (M : Nat), .pointer (some ⟨A.Bv, 0, none⟩), .pointer (some ⟨A.T, 0, none⟩), .pointer (some ⟨A.Bv', 0, none⟩), .pointer (some ⟨A.T', 0, none⟩), A.pv]
/-- The disk at block B, of the colours c to c + 5. -/
structure Dka (w : World) (col : Nat → Nat) (c B : Nat) (A : Ad) (d : DS) : Prop where
  c0 : 1 ≤ c
  blk : w.heap[B]? = some (.cells (dcells d.M A) 60 (0, 0))
  cB : col B = c
  pe : Pe w col (c + 1) A.pv d.L
  seen : Pa w col (c + 2) A.Bv A.T d.s d.sV d.a d.z d.sT
  sure : Pa w col (c + 4) A.Bv' A.T' d.s d.V d.a d.z d.t
  most : d.M ≤ 1048576
def Dk (w : World) (col : Nat → Nat) (c B : Nat) (d : DS) : Prop := ∃ A, Dka w col c B A d
/-- The blocks that are its own. -/
def own (col : Nat → Nat) (c : Nat) (k : Nat) : Prop := c ≤ col k ∧ col k < c + 6
theorem Dka.keep {w w' : World} {col : Nat → Nat} {c B : Nat} {A : Ad} {d : DS} {S : Nat → Prop} (h : Dka w col c B A d) (hc : Chg S w w') (hs : ∀ k, col k = 0 ∨ own col c k → ¬ S k) : Dka w' col c B A d := by
  have hB : own col c B := by have := h.cB; unfold own; omega
  refine ⟨h.c0, (hc.block B (block_lt h.blk) (hs B (.inr hB))).trans h.blk, h.cB, h.pe.keep hc fun k hk => hs k ?_, h.seen.keep hc fun k hk => hs k (.inr (by unfold own; omega)), h.sure.keep hc fun k hk => hs k (.inr (by unfold own; omega)), h.most⟩
  rcases hk with hk | hk
  · exact .inl hk
  · exact .inr (by unfold own; omega)
theorem Dka.later {w w' : World} {col : Nat → Nat} {c B : Nat} {A : Ad} {d : DS} (h : Dka w col c B A d) (hb : Below w.heap.size w w') : Dka w' col c B A d := h.keep (Chg.of_below (S := fun _ => False) hb) fun _ _ h => h
theorem Dka.recol {w : World} {col col' : Nat → Nat} {c B : Nat} {A : Ad} {d : DS} (h : Dka w col c B A d) (he : Ext w col col') : Dka w col' c B A d :=
  ⟨h.c0, h.blk, (he B (block_lt h.blk)).trans h.cB, h.pe.recol he, h.seen.recol he, h.sure.recol he, h.most⟩
theorem Dk.keep {w w' : World} {col : Nat → Nat} {c B : Nat} {d : DS} {S : Nat → Prop} (h : Dk w col c B d) (hc : Chg S w w') (hs : ∀ k, col k = 0 ∨ own col c k → ¬ S k) : Dk w' col c B d := by
  obtain ⟨A, h⟩ := h
  exact ⟨A, h.keep hc hs⟩
theorem Dk.later {w w' : World} {col : Nat → Nat} {c B : Nat} {d : DS} (h : Dk w col c B d) (hb : Below w.heap.size w w') : Dk w' col c B d := h.keep (Chg.of_below (S := fun _ => False) hb) fun _ _ h => h
theorem Dk.recol {w : World} {col col' : Nat → Nat} {c B : Nat} {d : DS} (h : Dk w col c B d) (he : Ext w col col') : Dk w col' c B d := by
  obtain ⟨A, h⟩ := h
  exact ⟨A, h.recol he⟩
theorem Dk.lt {w : World} {col : Nat → Nat} {c B : Nat} {d : DS} (h : Dk w col c B d) : B < w.heap.size := by
  obtain ⟨A, h⟩ := h
  exact block_lt h.blk
theorem Dk.z_in {w : World} {col : Nat → Nat} {c B : Nat} {d : DS} (h : Dk w col c B d) : 64 ≤ d.z ∧ d.z ≤ 4096 := by
  obtain ⟨A, h⟩ := h
  exact h.seen.z_in
theorem Dka.cells {w : World} {col : Nat → Nat} {c B : Nat} {A : Ad} {d : DS} (h : Dka w col c B A d) : w.cell? ⟨B, 0, none⟩ = some (.int .i64 (d.M : Nat)) ∧ w.cell? ⟨B, 1, none⟩ = some (.pointer (some ⟨A.Bv, 0, none⟩)) ∧ w.cell? ⟨B, 2, none⟩ = some (.pointer (some ⟨A.T, 0, none⟩)) ∧
    w.cell? ⟨B, 3, none⟩ = some (.pointer (some ⟨A.Bv', 0, none⟩)) ∧ w.cell? ⟨B, 4, none⟩ = some (.pointer (some ⟨A.T', 0, none⟩)) ∧ w.cell? ⟨B, 5, none⟩ = some A.pv :=
  ⟨block_cell h.blk rfl, block_cell h.blk rfl, block_cell h.blk rfl, block_cell h.blk rfl, block_cell h.blk rfl, block_cell h.blk rfl⟩
/-- What an act on a disk leaves. -/
def Turned (w : World) (col : Nat → Nat) (c B : Nat) (d : DS) (w' : World) : Prop := ∃ col', Ext w col col' ∧ Dk w' col' c B d ∧ Chg (own col c) w w'
/-- Another disk stays, whatever is done to one. -/
theorem Dk.other {w w' : World} {col col' : Nat → Nat} {c c2 B : Nat} {d : DS} (h : Dk w col c B d) (he : Ext w col col') (hc : Chg (own col c2) w w') (hn : c + 6 ≤ c2 ∨ c2 + 6 ≤ c) (h0 : 1 ≤ c2) : Dk w' col' c B d := by
  refine (h.recol he).keep (hc.mono (T := own col' c2) fun k hk h => ?_) fun k hk h2 => ?_
  · unfold own at *
    rw [he k hk]
    exact h
  · unfold own at *
    omega
end Go.Proofs.Ytdkpjaobfohdfaa
