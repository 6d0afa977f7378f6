/- What every layer's texts stand on: a block's cells; what a call may change; a world in which what lay in another lies as it did. -/
/- append onto a row of any kind, with where the new row lies (all layers). -/
/- A region that draws, walked by hand: a condition may be strengthened under way. -/
/- Lists of values of several cells each, in memory: those that are read, those that grow (any element type). -/
/- Part of a block loaded, and stored: a struct within a struct. -/
/- A region that draws its order and only reads, in a round of a range over a function: walked once. -/
import Derived.Test.YtdcanppiiikjgaaGreatDoorRows
import Derived.WalkKit
import Derived.ProofKit
import Derived.Below
import Derived.Lib.Hide
import Derived.OwnWalk
import Derived.Laws.ResultCell
import Derived.Laws.StructEq
import Derived.Deep.Draws
import Derived.Deep.QuietTactic
import Derived.BigQuiet
import Derived.KernelRfl
import Derived.Maps.AppendAt
import Derived.Laws.AppendOwnNone
import Derived.Deep.RegionHeld
import Derived.Deep.OwnRows
import Derived.Laws.AppendOwn
import Derived.Laws.Rows
import Derived.Laws.Tables
import Derived.Laws.Cells
import Derived.Sort.QuietIn
import Derived.OwnWalkIn
import Derived.RangeFuncOwn
namespace Go.Proofs.YtdcanppiiikjgaaGreatDoor
open Go.RowKit Go.ChangeShapes Go.WideShapes
set_option linter.unusedVariables false
set_option maxRecDepth 10000

theorem block_cell {w : World} {B : Nat} {c : Array Value} {t : TypeId} {j : Nat} {v : Value} (h : w.heap[B]? = some (.cells c t (0, 0))) (hj : c[j]? = some v) : w.cell? ⟨B, j, none⟩ = some v := by simp [World.cell?, h, hj]
theorem block_free {w : World} {B : Nat} {c : Array Value} {t : TypeId} (j : Nat) (h : w.heap[B]? = some (.cells c t (0, 0))) : w.frozen? ⟨B, j, none⟩ = false := by simp [World.frozen?, h]
theorem alloc_block (w : World) (o : Obj) : (w.alloc o).heap[w.heap.size]? = some o := by
  show (w.heap.push o)[w.heap.size]? = some o
  simp
theorem block_lt {w : World} {B : Nat} {o : Obj} (h : w.heap[B]? = some o) : B < w.heap.size := (Array.getElem?_eq_some_iff.1 h).1
theorem block_put {w : World} {B : Nat} {c : Array Value} {t : TypeId} (j : Nat) (v : Value) (h : w.heap[B]? = some (.cells c t (0, 0))) : (w.setCell ⟨B, j, none⟩ v).heap[B]? = some (.cells (c.setIfInBounds j v) t (0, 0)) := by simp [World.setCell, Array.getElem?_modify, h]
theorem block_later {w w' : World} {B : Nat} {o : Obj} (h : w.heap[B]? = some o) (hb : Below w.heap.size w w') : w'.heap[B]? = some o := (hb.block B (block_lt h)).trans h
/-- What a call may change: the blocks of S alone; new blocks beside. -/
structure Chg (S : Nat → Prop) (w w' : World) : Prop where
  os : w'.os = w.os
  tape : w'.tape = w.tape
  output : w'.output = w.output
  size : w.heap.size ≤ w'.heap.size
  block : ∀ k, k < w.heap.size → ¬ S k → w'.heap[k]? = w.heap[k]?
theorem Chg.refl (S : Nat → Prop) (w : World) : Chg S w w := ⟨rfl, rfl, rfl, Nat.le_refl _, fun _ _ _ => rfl⟩
theorem Chg.mono {S T : Nat → Prop} {a b : World} (h : Chg S a b) (hs : ∀ k, k < a.heap.size → S k → T k) : Chg T a b := ⟨h.os, h.tape, h.output, h.size, fun k hk ht => h.block k hk fun hs' => ht (hs k hk hs')⟩
theorem Chg.trans {S T : Nat → Prop} {a b c : World} (h : Chg S a b) (g : Chg T b c) (hs : ∀ k, k < a.heap.size → T k → S k) : Chg S a c :=
  ⟨g.os.trans h.os, g.tape.trans h.tape, g.output.trans h.output, Nat.le_trans h.size g.size, fun k hk hn => (g.block k (Nat.lt_of_lt_of_le hk h.size) fun ht => hn (hs k hk ht)).trans (h.block k hk hn)⟩
theorem Chg.of_below {S : Nat → Prop} {a b : World} (h : Below a.heap.size a b) : Chg S a b := ⟨h.os, h.tape, h.output, h.size, fun k hk _ => h.block k hk⟩
theorem Chg.of_grown {a b : World} {row : Option Nat} (h : a.grownBy b row) : Chg (fun k => row = some k) a b := ⟨h.os, h.tape, h.output, h.size, fun k hk hn => h.block k hk fun e => hn e.symm⟩
theorem Chg.drewN {S : Nat → Prop} {a b : World} (h : Chg S a b) (q : Nat) : Chg S a (b.drewN q) := ⟨h.os, h.tape, h.output, h.size, h.block⟩
theorem Chg.alloc {S : Nat → Prop} {a b : World} (h : Chg S a b) (o : Obj) : Chg S a (b.alloc o) := h.trans (Chg.of_below (S := S) ((Below.refl _ _).alloc (Nat.le_refl _) o)) fun _ _ h => h
theorem Chg.setCell {S : Nat → Prop} {a b : World} (h : Chg S a b) (p : Addr) (v : Value) (hp : p.block < a.heap.size → S p.block) : Chg S a (b.setCell p v) :=
  h.trans (T := fun k => k = p.block) ⟨rfl, rfl, rfl, by simp [World.setCell], fun k _ hk => Below.heap_setCell _ _ _ _ hk⟩ (fun k hk e => by subst e; exact hp hk)
theorem Chg.below {S : Nat → Prop} {B : Nat} {W a b : World} (hb : Below B W a) (hB : B ≤ a.heap.size) (h : Chg S a b) (hs : ∀ k, S k → B ≤ k) : Below B W b :=
  hb.trans ⟨h.os, h.tape, h.output, h.size, fun k hk => h.block k (by omega) fun h' => by have := hs k h'; omega⟩
theorem below_drewN {B : Nat} {a w : World} (h : Below B a w) (q : Nat) : Below B a (w.drewN q) := ⟨h.os, h.tape, h.output, h.size, h.block⟩
theorem below_undrew {B q : Nat} {a w : World} (h : Below B (a.drewN q) w) : Below B a w := ⟨h.os, h.tape, h.output, h.size, h.block⟩
/-- A world in which what lay in W lies as it did. -/
structure After (W : World) where
  w : World
  h : Below W.heap.size W w
instance afterInhabited (W : World) : Inhabited (After W) := ⟨⟨W, Below.refl _ _⟩⟩
theorem wp_region_after {P : Program} {id : Nat} {Q : Exit → Act → World → Prop} {a : Act} {W : World} {l : List Oper} (hm : P.follows .mixedOrders = true) (hB : Region.lexB .any l.toArray = true)
    (h : wpQuiet P l.toArray (fun w' => ∃ p : After W, w' = p.w) (fun a' => ∀ w', (∃ p : After W, w' = p.w) → Q .normal a' w') l a) : (Code.region id l.toArray true).wp P Q a W :=
  wp_region_quiet (C := fun w' => ∃ p : After W, w' = p.w) hm hB ⟨⟨_, (Below.refl _ _).drew⟩, rfl⟩ (by simpa using h)
theorem calls_after {P : Program} {f : FuncId} {args : Array Value} {W : World} {v : Value} (p : After W) (h : Calls P f args p.w fun e w' => e = .returned v ∧ Below p.w.heap.size p.w w') :
    Calls P f args p.w fun e w'' => e = .returned v ∧ ∃ q : After W, w'' = q.w := h.mono fun _ w' ⟨he, hb⟩ => ⟨he, ⟨w', p.h.trans (hb.mono p.h.size)⟩, rfl⟩
theorem calls_after_same {P : Program} {f : FuncId} {args : Array Value} {W : World} {v : Value} (p : After W) (h : Calls P f args p.w fun e w' => e = .returned v ∧ w' = p.w) :
    Calls P f args p.w fun e w'' => e = .returned v ∧ ∃ q : After W, w'' = q.w := calls_after p (h.mono fun _ _ ⟨he, hb⟩ => ⟨he, by rw [hb]; exact Below.refl _ _⟩)
theorem cell_after {W : World} {a : Addr} {v : Value} (p : After W) (h : W.cell? a = some v) : p.w.cell? a = some v := (p.h.cell (World.block_lt_of_cell? _ _ h)).trans h
theorem info_u8 : (Tryz.prog.info? 5).map (fun i => (i.zero, i.size, i.bytes)) = some (some (.int .u8 0), 1, 1) := by kernel_rfl
end Go.Proofs.YtdcanppiiikjgaaGreatDoor
namespace Go.Proofs.YtdcanppiiikjgaaGreatDoor
open Go.RowKit Go.ChangeShapes Go.WideShapes
set_option linter.unusedVariables false
set_option maxRecDepth 10000
set_option linter.unusedSimpArgs false

theorem row_keep {w w' : World} {T : TypeId} {k : Nat} {v : Value} {n : Nat} {xs : List Value} {S : Nat → Prop} (h : w.ownsRow 0 T k v n xs) (hc : Chg S w w') (hs : ∀ b, v.ownBlock = some b → ¬ S b) : w'.ownsRow 0 T k v n xs := by
  have hb : ∀ b, v.ownBlock = some b → w'.heap[b]? = w.heap[b]? := fun b hk => hc.block b (h.lt b hk).2 (hs b hk)
  refine ⟨h.1, ?_⟩
  rcases h.2 with hn | ⟨g, cap, cur, rfl, h1, h2, h3⟩
  · exact .inl hn
  · exact .inr ⟨g, cap, cur, rfl, h1, by rw [hb g rfl]; exact h2, h3⟩
/-- What append does: the row behind, and where it lies. -/
theorem run_append_vals {w : World} {T S ty : TypeId} {k bytes : Nat} {z : Value} (hk0 : 0 < k) (hu : Tryz.prog.underlying S = some (.slice T)) (hinfo : (Tryz.prog.info? T).map (fun i => (i.zero, i.size, i.bytes)) = some (some z, k, bytes)) (hz : z.cells.size = k) (hby : bytes ≤ 1000)
    {v : Value} {n : Nat} {xs : List Value} (hr : w.ownsRow 0 T k v n xs) {p : Option Addr} {m c : Nat} {news : List Value} (hl : news.length = m * k) (hnone : p = none → m = 0 ∧ c = 0) (hnews : ∀ ad, p = some ad → ∀ j u, news[j]? = some u → w.cell? (ad.add j) = some u) (h1 : ∀ u ∈ news, u.oneCell' = true) (hbig : n + m ≤ 1000000) :
    ∃ p' c' w', (Builtin.append_ #[S, S] ty #[v, .slice p m c]).run Tryz.prog w = .ok (.slice p' (n + m) c') w' ∧ w'.ownsRow 0 T k (.slice p' (n + m) c') (n + m) (xs ++ news) ∧ Chg (fun b => v.ownBlock = some b) w w' ∧
      (∀ b, (Value.slice p' (n + m) c').ownBlock = some b → v.ownBlock = some b ∨ w.heap.size ≤ b) := by
  obtain ⟨i, hi, hz0, hz1, hz2⟩ := info_parts hinfo
  cases p with
  | none =>
    obtain ⟨rfl, rfl⟩ := hnone rfl
    obtain rfl : news = [] := List.eq_nil_of_length_eq_zero (by omega)
    obtain ⟨p', c', rfl⟩ : ∃ p' c', v = .slice p' n c' := by
      rcases hr.2 with ⟨rfl, rfl⟩ | ⟨g, cap, cur, rfl, _⟩
      · exact ⟨_, _, rfl⟩
      · exact ⟨_, _, rfl⟩
    have hrun := run_append_owned_none (P := Tryz.prog) (w := w) 0 S ty T i k hu hi (.slice p' n c') n xs hr
    refine ⟨p', c', w, hrun, ?_, Chg.refl _ _, fun k hk => .inl hk⟩
    rw [List.append_nil, Nat.add_zero]; exact hr
  | some ad =>
    have hbb : (n + m) * bytes ≤ 1000000 * 1000 := Nat.mul_le_mul hbig hby
    obtain ⟨v', w', hrun, h1, h2, h3, h4⟩ := run_append_own_at (P := Tryz.prog) w 0 S ty T i z k bytes hu hi hz0 hz1 hz2 hz hk0 v n xs hr ad m c news hl (hnews ad rfl) h1 (by unfold maxLen; omega) (by omega) (Nat.zero_le _)
    obtain ⟨p', c', rfl⟩ : ∃ p' c', v' = .slice p' (n + m) c' := by
      rcases h1.2 with ⟨rfl, h0⟩ | ⟨g, cap, cur, rfl, _⟩
      · rw [h0]; exact ⟨_, _, rfl⟩
      · exact ⟨_, _, rfl⟩
    refine ⟨p', c', w', hrun, h1, Chg.mono (Chg.of_grown h2) (fun k _ h => h), fun k hk => ?_⟩
    rcases h4 with h4 | h4
    · exact .inl (h4 ▸ hk)
    · rw [h4] at hk
      cases hk
      exact .inr (Nat.le_refl _)
/-- append as one step of a region that draws its order. -/
theorem step_append_vals {w : World} {ops : Array Oper} {o : Oper} {a : Act} {K : Act → World → Prop} {Q : Exit → Act → World → Prop} {E : Prop} {T S : TypeId} {k bytes : Nat} {z : Value} (hk0 : 0 < k) (hu : Tryz.prog.underlying S = some (.slice T)) (hinfo : (Tryz.prog.info? T).map (fun i => (i.zero, i.size, i.bytes)) = some (some z, k, bytes)) (hz : z.cells.size = k) (hby : bytes ≤ 1000)
    (hgd : o.guard = none) (s x : Operand) (ho : o.op = .call { callee := .builtin .append, args := #[s, x], argTypes := #[S, S] })
    (v : Value) (n : Nat) (xs : List Value) (hs : a.eval s = v) (hr : w.ownsRow 0 T k v n xs) (p : Option Addr) (m c : Nat) (news : List Value) (hx : a.eval x = .slice p m c) (hl : news.length = m * k) (hnone : p = none → m = 0 ∧ c = 0) (hnews : ∀ ad, p = some ad → ∀ j u, news[j]? = some u → w.cell? (ad.add j) = some u) (h1 : ∀ u ∈ news, u.oneCell' = true) (hbig : n + m ≤ 1000000)
    (h : ∀ p' c' w', w'.ownsRow 0 T k (.slice p' (n + m) c') (n + m) (xs ++ news) → Chg (fun b => v.ownBlock = some b) w w' → (∀ b, (Value.slice p' (n + m) c').ownBlock = some b → v.ownBlock = some b ∨ w.heap.size ≤ b) → K (a.put o.dst (.slice p' (n + m) c')) w') :
    if Region.wanted o (yielded ops a.tmps) = true then Oper.wp Tryz.prog o a w K Q else E := by
  have hw : Region.wanted o (yielded ops a.tmps) = true := by simp [Region.wanted, hgd]
  rw [if_pos hw]
  obtain ⟨p', c', w', hrun, h1, h2, h3⟩ := run_append_vals (ty := o.type) hk0 hu hinfo hz hby hr hl hnone hnews h1 hbig
  unfold Oper.wp execOp
  simp only [ho, resolve, invoke, builtin, Sem.run_bind, Sem.run_pure, Result.andThen_ok, List.map_toArray, List.map_cons, List.map_nil, hs, hx, hrun]
  exact h p' c' w' h1 h2 h3
/-- append at the operation. -/
theorem wpList_append_vals {w : World} {ops : Array Oper} {rest : List Oper} {o : Oper} {a : Act} {Q : Exit → Act → World → Prop} {T S : TypeId} {k bytes : Nat} {z : Value} (hk0 : 0 < k) (hu : Tryz.prog.underlying S = some (.slice T)) (hinfo : (Tryz.prog.info? T).map (fun i => (i.zero, i.size, i.bytes)) = some (some z, k, bytes)) (hz : z.cells.size = k) (hby : bytes ≤ 1000)
    (hgd : o.guard = none) (s x : Operand) (ho : o.op = .call { callee := .builtin .append, args := #[s, x], argTypes := #[S, S] })
    (v : Value) (n : Nat) (xs : List Value) (hs : a.eval s = v) (hr : w.ownsRow 0 T k v n xs) (p : Option Addr) (m c : Nat) (news : List Value) (hx : a.eval x = .slice p m c) (hl : news.length = m * k) (hnone : p = none → m = 0 ∧ c = 0) (hnews : ∀ ad, p = some ad → ∀ j u, news[j]? = some u → w.cell? (ad.add j) = some u) (h1 : ∀ u ∈ news, u.oneCell' = true) (hbig : n + m ≤ 1000000)
    (h : ∀ p' c' w', w'.ownsRow 0 T k (.slice p' (n + m) c') (n + m) (xs ++ news) → Chg (fun b => v.ownBlock = some b) w w' → (∀ b, (Value.slice p' (n + m) c').ownBlock = some b → v.ownBlock = some b ∨ w.heap.size ≤ b) → wpList Tryz.prog ops Q rest (a.put o.dst (.slice p' (n + m) c')) w') :
    wpList Tryz.prog ops Q (o :: rest) a w := by
  refine wpList_plain hgd fun K hK => ?_
  obtain ⟨p', c', w', hrun, h1, h2, h3⟩ := run_append_vals (ty := o.type) hk0 hu hinfo hz hby hr hl hnone hnews h1 hbig
  unfold Oper.wp execOp
  simp only [ho, resolve, invoke, builtin, Sem.run_bind, Sem.run_pure, Result.andThen_ok, List.map_toArray, List.map_cons, List.map_nil, hs, hx, hrun]
  exact hK _ _ (h p' c' w' h1 h2 h3)
end Go.Proofs.YtdcanppiiikjgaaGreatDoor
namespace Go.Proofs.YtdcanppiiikjgaaGreatDoor
open Go.RowKit Go.ChangeShapes Go.WideShapes
set_option linter.unusedVariables false
set_option maxRecDepth 10000
theorem wpAnyH_less {P : Program} {md : Region.Mode} {ops : Array Oper} {Q : Exit → Act → World → Prop} {S S2 : World → Prop} (h : ∀ w, S2 w → S w) : ∀ (fuel : Nat) (listed : Array Bool) (a : Act) (w : World), wpAnyH P md ops Q S2 fuel listed a w → wpAnyH P md ops Q S fuel listed a w
  | 0, _, _, _, hh => hh
  | fuel + 1, _, _, _, hh => ⟨hh.1, fun i hi => wpOp_mono (fun a' w' h' => ⟨h w' h'.1, wpAnyH_less h fuel _ a' w' h'.2⟩) (hh.2 i hi)⟩
end Go.Proofs.YtdcanppiiikjgaaGreatDoor
namespace Go.Proofs.YtdcanppiiikjgaaGreatDoor
open Go.RowKit Go.ChangeShapes Go.WideShapes Go.Deep
set_option linter.unusedVariables false
set_option maxRecDepth 10000

section
variable {α : Type} {enc : α → List Value} {k : Nat} {d : α}
/-- Elements as values, cell by cell. -/
def flatG (enc : α → List Value) (L : List α) : List Value := L.flatMap enc
theorem flatG_len (hk : ∀ x, (enc x).length = k) : ∀ L : List α, (flatG enc L).length = L.length * k
  | [] => by simp [flatG]
  | x :: L => by
    have := flatG_len hk L
    unfold flatG at *
    rw [List.flatMap_cons, List.length_append, this, List.length_cons, hk, Nat.add_mul]
    omega
theorem flatG_append (L M : List α) : flatG enc (L ++ M) = flatG enc L ++ flatG enc M := List.flatMap_append ..
theorem flatG_one (x : α) : flatG enc [x] = enc x := by simp [flatG]
theorem flatG_at (hk : ∀ x, (enc x).length = k) : ∀ (L : List α) (j i : Nat), j < L.length → i < k → (flatG enc L)[j * k + i]? = (enc (L.getD j d))[i]?
  | x :: L, 0, i, _, hi => by
    unfold flatG
    rw [List.flatMap_cons, List.getElem?_append_left (by rw [hk]; omega)]
    simp
  | x :: L, j + 1, i, hj, hi => by
    have ih := flatG_at hk L j i (by simpa using hj) hi
    unfold flatG at *
    rw [List.flatMap_cons, List.getElem?_append_right (by rw [hk, Nat.add_mul]; omega), hk]
    rw [show (j + 1) * k + i - k = j * k + i by rw [Nat.add_mul]; omega]
    simpa using ih
theorem flatG_all {p : Value → Prop} (h : ∀ x, ∀ u ∈ enc x, p u) (L : List α) : ∀ u ∈ flatG enc L, p u := by
  intro u hu
  obtain ⟨x, _, hx⟩ := List.mem_flatMap.1 hu
  exact h x u hx
/-- The address, the length and the capacity of a slice that holds the elements L. -/
structure SlG (enc : α → List Value) (k : Nat) (d : α) (w : World) (p : Option Addr) (n c : Nat) (L : List α) : Prop where
  len : L.length = n
  cap : n ≤ c
  max : c ≤ maxLen
  nil : p = none → c = 0
  cell : 0 < n → ∃ b off, p = some ⟨b, off, none⟩ ∧ b < w.heap.size ∧ ∀ j, j < n → ∀ i v, (enc (L.getD j d))[i]? = some v → w.cell? ⟨b, off + j * k + i, none⟩ = some v
theorem SlG.turn {w w' : World} {p : Option Addr} {n c : Nat} {L : List α} (h : SlG enc k d w p n c L) (hs : w.heap.size ≤ w'.heap.size) (hb : 0 < n → ∀ a, p = some a → a.block < w.heap.size → w'.heap[a.block]? = w.heap[a.block]?) : SlG enc k d w' p n c L := by
  refine ⟨h.len, h.cap, h.max, h.nil, fun h0 => ?_⟩
  obtain ⟨b, off, rfl, hlt, hc⟩ := h.cell h0
  have he := hb h0 _ rfl hlt
  exact ⟨b, off, rfl, Nat.lt_of_lt_of_le hlt hs, fun j hj i v hv => (World.cell?_of_block (a := ⟨b, off + j * k + i, none⟩) he).trans (hc j hj i v hv)⟩
theorem SlG.later {w w' : World} {p : Option Addr} {n c : Nat} {L : List α} (h : SlG enc k d w p n c L) (hb : Below w.heap.size w w') : SlG enc k d w' p n c L :=
  h.turn hb.size fun _ a _ hlt => hb.block a.block hlt
theorem SlG.empty (w : World) : SlG enc k d w none 0 0 [] := ⟨rfl, Nat.le_refl _, by unfold maxLen; omega, fun _ => rfl, fun h => by omega⟩
theorem SlG.take {w : World} {p : Option Addr} {n c : Nat} {L : List α} (h : SlG enc k d w p n c L) (m : Nat) (hm : m ≤ n) : SlG enc k d w p m c (L.take m) := by
  refine ⟨by rw [List.length_take, h.len]; omega, Nat.le_trans hm h.cap, h.max, h.nil, fun h0 => ?_⟩
  obtain ⟨b, off, hp, hlt, hc⟩ := h.cell (by omega)
  refine ⟨b, off, hp, hlt, fun j hj i v hv => hc j (by omega) i v ?_⟩
  have e : (L.take m).getD j d = L.getD j d := by rw [List.getD, List.getD, List.getElem?_take, if_pos hj]
  rwa [e] at hv
theorem SlG.of_own {w : World} {B : Nat} {T : TypeId} {v : Value} {n : Nat} {L : List α} (hk : ∀ x, (enc x).length = k) (hk0 : 0 < k) (h : w.ownsRow B T k v n (flatG enc L)) : ∃ p c, v = .slice p n c ∧ SlG enc k d w p n c L ∧ ∀ a, p = some a → B ≤ a.block := by
  have hl : L.length = n := by
    have h1 := h.1
    rw [flatG_len hk] at h1
    exact Nat.eq_of_mul_eq_mul_right hk0 h1
  rcases h.2 with ⟨rfl, rfl⟩ | ⟨g, cap, cur, rfl, h1, h2, h3, h4, h5, h6⟩
  · obtain rfl : L = [] := List.eq_nil_of_length_eq_zero hl
    exact ⟨_, _, rfl, SlG.empty w, fun a ha => by cases ha⟩
  · refine ⟨_, _, rfl, ⟨hl, h3, h4, (fun hn => by cases hn), fun h0 => ⟨g, 0, rfl, (Array.getElem?_eq_some_iff.1 h2).1, fun j hj i v hv => ?_⟩⟩, fun a ha => by cases ha; exact h1⟩
    have hi : i < k := by
      rw [← hk (L.getD j d)]
      exact (List.getElem?_eq_some_iff.1 hv).1
    have hlt : j * k + i < n * k := by
      have := Nat.mul_le_mul_right k (show j + 1 ≤ n from hj)
      rw [Nat.add_mul] at this
      omega
    rw [Nat.zero_add, h.cellAt (j * k + i) hlt, flatG_at hk L j i (by omega) hi, hv]
/-- The row that the call is filling holds L, at most N elements. -/
structure FillG (enc : α → List Value) (k : Nat) (T : TypeId) (W wr : World) (v : Value) (L : List α) (N : Nat) : Prop where
  own : wr.ownsRow W.heap.size T k v L.length (flatG enc L)
  below : Below W.heap.size W wr
  most : L.length ≤ N
variable {T : TypeId}
theorem FillG.nil (W : World) : FillG enc k T W W (.slice none 0 0) [] 0 := ⟨World.ownsRow_nil _ _ _ _, Below.refl _ _, Nat.le_refl _⟩
theorem FillG.step {W wr w' : World} {v v' : Value} {L : List α} {N : Nat} {x : α} (h : FillG enc k T W wr v L N) (o : Obj) (h1 : w'.ownsRow W.heap.size T k v' (L.length + 1) (flatG enc (L ++ [x]))) (h2 : (wr.alloc o).grownBy w' v.ownBlock) : FillG enc k T W w' v' (L ++ [x]) (N + 1) := by
  refine ⟨by simpa using h1, (h.below.alloc h.below.size o).grown h2 ?_ fun j hj => (h.own.lt j hj).1, ?_⟩
  · have := h.below.size
    simp
    omega
  · have := h.most
    simp
    omega
theorem FillG.later {W wr w' : World} {v : Value} {L : List α} {N : Nat} (h : FillG enc k T W wr v L N) (hb : Below wr.heap.size wr w') : FillG enc k T W w' v L N := by
  refine ⟨⟨h.own.1, ?_⟩, h.below.trans (hb.mono h.below.size), h.most⟩
  rcases h.own.2 with hn | ⟨g, cap, cur, rfl, h1, h2, h3⟩
  · exact .inl hn
  · exact .inr ⟨g, cap, cur, rfl, h1, (hb.block g (Array.getElem?_eq_some_iff.1 h2).1).trans h2, h3⟩
theorem FillG.mono {W wr : World} {v : Value} {L : List α} {N M : Nat} (h : FillG enc k T W wr v L N) (hn : N ≤ M) : FillG enc k T W wr v L M := ⟨h.own, h.below, Nat.le_trans h.most hn⟩
/-- A call that hands back a row of its own with the elements L. -/
def GivesG (enc : α → List Value) (k : Nat) (d : α) (W : World) (L : List α) (e : Ending) (w' : World) : Prop := ∃ p c, e = .returned (.slice p L.length c) ∧ SlG enc k d w' p L.length c L ∧ Below W.heap.size W w' ∧ ∀ a, p = some a → W.heap.size ≤ a.block
theorem FillG.gives {W wr : World} {v : Value} {L : List α} {N : Nat} (hk : ∀ x, (enc x).length = k) (hk0 : 0 < k) (h : FillG enc k T W wr v L N) : GivesG enc k d W L (.returned v) wr := by
  obtain ⟨p, c, rfl, hs, hp⟩ := SlG.of_own (d := d) hk hk0 h.own
  exact ⟨p, c, rfl, hs, h.below, hp⟩
end
/-- append of one element, that lies in a block of its own, onto a row of the call's own. -/
theorem wpList_append_g {α : Type} {enc : α → List Value} {k : Nat} (hk : ∀ x, (enc x).length = k) (h1 : ∀ x, ∀ u ∈ enc x, u.oneCell' = true) (hk0 : 0 < k) {P : Program} {w : World} {ops : Array Oper} {rest : List Oper} {o : Oper} {a : Act} {Q : Exit → Act → World → Prop} (hgd : o.guard = none) (s x : Operand) (S T : TypeId)
    (ho : o.op = .call { callee := .builtin .append, args := #[s, x], argTypes := #[S, S] }) (hu : P.underlying S = some (.slice T)) (z : Value) (bytes : Nat) (hinfo : (P.info? T).map (fun i => (i.zero, i.size, i.bytes)) = some (some z, k, bytes)) (hz : z.cells.size = k) (hb : bytes ≤ 1000)
    (base : Nat) (v : Value) (n : Nat) (L : List α) (hs : a.eval s = v) (hr : w.ownsRow base T k v n (flatG enc L)) (hn : n ≤ 1000000) (e : α) (B : Nat)
    (hx : a.eval x = .slice (some ⟨B, 0, none⟩) 1 1) (hc : ∀ i u, (enc e)[i]? = some u → w.cell? ⟨B, i, none⟩ = some u) (hbase : base ≤ w.heap.size)
    (h : ∀ v' w', w'.ownsRow base T k v' (n + 1) (flatG enc (L ++ [e])) → w.grownBy w' v.ownBlock → wpList P ops Q rest (a.put o.dst v') w') : wpList P ops Q (o :: rest) a w := by
  obtain ⟨i, hi, hz0, hz1, hz2⟩ := info_parts hinfo
  refine wpList_append_own w hgd s x S ho base T i z k bytes hu hi hz0 hz1 hz2 hz hk0 v n (flatG enc L) hs hr ⟨B, 0, none⟩ 1 1 (enc e) hx (by rw [hk]; omega)
    (fun j u hu => ?_) (h1 e) (by unfold maxLen; omega) ?_ hbase ?_
  · rw [Go.WideShapes.add_plain, Nat.zero_add]
    exact hc j u hu
  · have := Nat.mul_le_mul (show n + 1 ≤ 1000001 by omega) hb
    omega
  · intro v' w' g1 g2 _
    refine h v' w' ?_ g2
    rw [flatG_append, flatG_one]
    exact g1
end Go.Proofs.YtdcanppiiikjgaaGreatDoor
namespace Go.Proofs.YtdcanppiiikjgaaGreatDoor
open Go.RowKit Go.ChangeShapes Go.WideShapes
set_option linter.unusedVariables false
set_option maxRecDepth 10000

theorem add_none (g i j : Nat) : (⟨g, i, none⟩ : Addr).add j = ⟨g, i + j, none⟩ := by unfold Addr.add; split <;> simp_all
theorem run_loadVar_part {P : Program} (w : World) (g i : Nat) (t ty : TypeId) (cs part : Array Value) (fr : Nat × Nat) (d : TypeDesc) (hg : w.heap[g]? = some (.cells cs t fr)) (hp : ∀ j, j < part.size → cs[i + j]? = part[j]?)
    (hu : P.underlying ty = some d) (hd : (match d with | .struct _ | .array _ _ => true | _ => false) = true) (hi : (P.info? ty).map (·.size) = some part.size) :
    (loadVar ty ⟨g, i, none⟩).run P w = .ok (.agg part) w := by
  have hl : (loadCells ⟨g, i, none⟩ part.toList.length).run P w = .ok part.toList.toArray w :=
    run_loadCells_list (P := P) w ⟨g, i, none⟩ part.toList (fun j v hv => by
      rw [add_none, cell_of_row w g (i + j) cs t fr hg]
      have hj : j < part.size := by
        have := (List.getElem?_eq_some_iff.1 hv).1
        simpa using this
      rw [hp j hj]
      simpa using hv)
  cases hq : P.info? ty with
  | none => simp [hq] at hi
  | some inf =>
    have hs : inf.size = part.size := by simpa [hq] using hi
    have hagg : (isAgg ty).run P w = .ok true w := by
      unfold isAgg
      rw [Sem.run_bind, run_underlying hu w]
      cases d <;> simp_all
    simp only [Array.length_toList, Array.toArray_toList] at hl
    simp [loadVar, Sem.run_bind, hagg, sizeOf, typeInfo, hq, hs, hl]
/-- Cells put into a row from j on. -/
def putAt : Array Value → Nat → List Value → Array Value
  | cur, _, [] => cur
  | cur, j, v :: vs => putAt (cur.setIfInBounds j v) (j + 1) vs
theorem setRow_same {w : World} {g : Nat} {cur : Array Value} {t : TypeId} (hg : w.heap[g]? = some (.cells cur t (0, 0))) : w.setRow g cur = w := by
  have hv : w.heap[g]'(Array.getElem?_eq_some_iff.1 hg).1 = .cells cur t (0, 0) := (Array.getElem?_eq_some_iff.1 hg).2
  unfold World.setRow
  cases w with
  | mk heap tape drawn os output =>
    congr 1
    apply Array.ext
    · simp
    · intro k h1 h2
      simp only [Array.getElem_modify]
      split
      · rename_i hk; subst hk; simp at hv; simp [hv]
      · rfl
theorem run_storeCells_at {P : Program} (g i : Nat) (t : TypeId) : ∀ (vs : List Value) (k : Nat) (cur : Array Value) (w : World), w.heap[g]? = some (.cells cur t (0, 0)) → i + k + vs.length ≤ cur.size → (∀ v ∈ vs, v.oneCell' = true) →
    (storeCells ⟨g, i, none⟩ vs k).run P w = .ok () (w.setRow g (putAt cur (i + k) vs))
  | [], k, cur, w, hg, hl, _ => by
    simp only [storeCells, putAt]
    rw [setRow_same hg]
    rfl
  | v :: rest, k, cur, w, hg, hl, h1 => by
    have hi : i + k < cur.size := by simp at hl; omega
    have hcell : w.cell? ⟨g, i + k, none⟩ = some cur[i + k] := by simp [World.cell?, hg, hi]
    have hfro : w.frozen? ⟨g, i + k, none⟩ = false := by simp [World.frozen?, hg]
    have hst : (store ((⟨g, i, none⟩ : Addr).add k) v).run P w = .ok () (w.setRow g (cur.setIfInBounds (i + k) v)) := by
      rw [add_none, run_store P w _ v _ (h1 v (by simp)), hcell]
      simp [hfro, setCell_eq_setRow w g (i + k) cur t (0, 0) v hg]
    have ih := run_storeCells_at (P := P) g i t rest (k + 1) (cur.setIfInBounds (i + k) v) (w.setRow g (cur.setIfInBounds (i + k) v)) (setRow_heap w g cur _ t _ hg) (by simp at hl ⊢; omega) (fun x hx => h1 x (by simp [hx]))
    simp only [storeCells, Sem.run_bind, hst, Result.andThen_ok, ih, setRow_setRow, putAt]
    rfl
theorem run_storeVar_part {P : Program} (w : World) (g i : Nat) (t ty : TypeId) (old cells : Array Value) (hg : w.heap[g]? = some (.cells old t (0, 0))) (hi : (P.info? ty).map (·.size) = some cells.size)
    (ho : i + cells.size ≤ old.size) (h1 : cells.all (·.oneCell') = true) :
    (storeVar ty ⟨g, i, none⟩ (.agg cells)).run P w = .ok () (w.setRow g (putAt old i cells.toList)) := by
  have := run_storeCells_at (P := P) g i t cells.toList 0 old w hg (by simp; omega) (fun v hv => (Array.all_eq_true_iff_forall_mem.1 h1) v (by simpa using hv))
  cases hq : P.info? ty with
  | none => simp [hq] at hi
  | some inf =>
    have hs : cells.size = inf.size := by simp [hq] at hi; omega
    simp [storeVar, sizeOf, typeInfo, hq, Value.cells, hs, this]
theorem wpList_load_part {P : Program} {ops : Array Oper} {rest : List Oper} {o : Oper} {a : Act} {w : World} {Q : Exit → Act → World → Prop} (hgd : o.guard = none) (ty : TypeId) (x : Operand) (ho : o.op = .load ty x)
    (g i : Nat) (hx : a.eval x = .pointer (some ⟨g, i, none⟩)) (t : TypeId) (cs part : Array Value) (fr : Nat × Nat) (d : TypeDesc) (hg : w.heap[g]? = some (.cells cs t fr)) (hp : ∀ j, j < part.size → cs[i + j]? = part[j]?)
    (hu : P.underlying ty = some d) (hd : (match d with | .struct _ | .array _ _ => true | _ => false) = true) (hi : (P.info? ty).map (·.size) = some part.size)
    (h : wpList P ops Q rest (a.put o.dst (.agg part)) w) : wpList P ops Q (o :: rest) a w :=
  wpList_plain hgd fun _ hK => by
    unfold Oper.wp execOp
    simp only [ho, hx, Instr.loadAt, Instr.sureAddr, Sem.run_bind, Sem.run_pure, Result.andThen_ok, run_loadVar_part w g i t ty cs part fr d hg hp hu hd hi]
    exact hK _ _ h
theorem wpList_store_part {P : Program} {ops : Array Oper} {rest : List Oper} {o : Oper} {a : Act} {w : World} {Q : Exit → Act → World → Prop} (hgd : o.guard = none) (ty : TypeId) (x y : Operand) (ho : o.op = .store ty x y)
    (g i : Nat) (cells : Array Value) (hx : a.eval x = .pointer (some ⟨g, i, none⟩)) (hy : a.eval y = .agg cells)
    (t : TypeId) (old : Array Value) (hg : w.heap[g]? = some (.cells old t (0, 0))) (hi : (P.info? ty).map (·.size) = some cells.size)
    (hold : i + cells.size ≤ old.size) (h1 : cells.all (·.oneCell') = true)
    (h : wpList P ops Q rest (a.put o.dst undef) (w.setRow g (putAt old i cells.toList))) : wpList P ops Q (o :: rest) a w :=
  wpList_plain hgd fun _ hK => by
    unfold Oper.wp execOp
    simp only [ho, hx, hy, Instr.storeAt, Instr.sureAddr, Sem.run_bind, Sem.run_pure, Result.andThen_ok, run_storeVar_part w g i t ty old cells hg hi hold h1]
    exact hK _ _ h
end Go.Proofs.YtdcanppiiikjgaaGreatDoor
namespace Go.Proofs.YtdcanppiiikjgaaGreatDoor
open Go.RowKit
set_option linter.unusedVariables false
set_option maxRecDepth 10000

/-- No operation is a defer statement. -/
def noDefer (ops : Array Oper) : Bool := ops.all fun o => match o.op with | .defer _ => false | _ => true
theorem noDefer_at {ops : Array Oper} (h : noDefer ops = true) {i : Nat} {o : Oper} (hi : ops[i]? = some o) : ∀ c, o.op ≠ .defer c := by
  intro c hc
  have h1 := Array.all_eq_true.1 h i (Array.getElem?_eq_some_iff.1 hi).1
  rw [(Array.getElem?_eq_some_iff.1 hi).2, hc] at h1
  cases h1
section
variable {F : Fence} {n : Nat} {P : Program} {ops : Array Oper} {md : Region.Mode} {C : World → Prop}
theorem quietIn_round {o : Oper} {a : Act} {K : Act → Prop} {K' : Act → World → Prop} {Q' : Exit → Act → World → Prop} {w : World} (hd : ∀ c, o.op ≠ .defer c) (hw : C w) (h : ∀ a w', C w' → K a → K' a w')
    (ha : o.askedIn F P a C) (hh : o.quietIn F n P a C K) : o.wpIn F n P a w K' Q' := by
  obtain ⟨v, h1, h2⟩ := hh
  have h3 := h1 w hw
  unfold Oper.quietAtIn at h3
  unfold Oper.wpIn
  refine ⟨ha w hw, ?_⟩
  rw [Oper.semAt_plain F _ _ hd]
  generalize (execOp a.eval o).run P w = r at *
  cases r with
  | ok x w' =>
    cases x <;> simp only [Oper.quietUponIn] at h3 <;> simp only [Oper.uponIn]
    case value u =>
      obtain ⟨e1, e2⟩ := h3
      rw [e1, e2]
      exact h _ _ hw h2
    case skip =>
      obtain ⟨e1, e2⟩ := h3
      rw [e1, ← e2]
      exact h _ _ hw h2
    case enter f args =>
      obtain ⟨e1, hd, hc⟩ := h3
      rw [e1]
      exact ⟨hd, hc.mono fun e w'' ⟨he, hw''⟩ => by subst he; exact h _ _ hw'' h2⟩
  | halt x w' => simp only [Oper.quietUponIn] at h3
theorem qOpIn_round {i : Nat} {a : Act} {K : Act → Prop} {K' : Act → World → Prop} {Q' : Exit → Act → World → Prop} {w : World} (hd : noDefer ops = true) (hC : C w) (h : ∀ a w', C w' → K a → K' a w')
    (hh : qOpIn F n P ops C i K a) : wpOpIn F n P ops Q' i K' a w := by
  unfold qOpIn at hh
  unfold wpOpIn
  split
  · rename_i ho; simp only [ho] at hh; exact h _ _ hC hh
  · rename_i o ho
    simp only [ho] at hh
    obtain ⟨ha, hh⟩ := hh
    split
    · rename_i hw; simp only [hw, if_true] at hh; exact quietIn_round (noDefer_at hd ho) hC h ha hh
    · rename_i hw; simp only [hw] at hh; exact ⟨ha w hC, h _ _ hC hh⟩
theorem anyQuiet_round {Q : Act → Prop} {Q' : Exit → Act → World → Prop} (hd : noDefer ops = true) (hQ : ∀ a w, C w → Q a → Q' .normal a w) : ∀ (fuel : Nat) (listed : Array Bool) (a : Act) (w : World), C w →
    wpAnyQIn F n P md ops C Q fuel listed a → wpAnyIn F n P md ops Q' fuel listed a w
  | 0, _, _, _, hw, h => ⟨h.1, hQ _ _ hw h.2⟩
  | fuel + 1, _, _, _, hw, h => ⟨fun h0 => hQ _ _ hw (h.1 h0), fun i hi => qOpIn_round hd hw (fun a' w' hw' => anyQuiet_round hd hQ fuel _ a' w' hw') (h.2 i hi)⟩
theorem wpIn_region_round {id : Nat} {Q : Exit → Act → World → Prop} {a : Act} {w : World} {l : List Oper} (hd : noDefer l.toArray = true) (hm : P.follows .mixedOrders = true) (hB : Region.lexB .any l.toArray = true)
    (h : wpQuietIn F n P l.toArray (fun w' => ∃ n, w' = w.drewN n) (fun a' => ∀ w', (∃ n, w' = w.drewN n) → Q .normal a' w') l a) : (Code.region id l.toArray true).wpIn F n P Q a w := by
  simp only [Region.lexB, Bool.and_eq_true] at hB
  refine wpIn_region_any hm (anyQuiet_round (C := fun w' => ∃ n, w' = w.drewN n) (Q := fun a' => ∀ w', (∃ n, w' = w.drewN n) → Q .normal a' w') hd (fun _ w' hw' h => h w' hw') _ _ _ _ ⟨1, rfl⟩ ?_)
  have := wpAnyQIn_lex (F := F) (n := n) (C := fun w' => ∃ n, w' = w.drewN n) (md := .any) hB.1 l 0 (Array.replicate l.toArray.size false) a (by simp) (by simpa using hB.2) h
  simpa using this
end
end Go.Proofs.YtdcanppiiikjgaaGreatDoor
