import Derived.Test.YtccgjdmbongbaaaGreatDoorPA14
import Derived.Test.YtccgjdmbongbaaaGreatDoorPA15
import Derived.Test.YtccgjdmbongbaaaGreatDoorPA01
import Derived.Test.YtccgjdmbongbaaaGreatDoorPA04
namespace Go.Proofs.YtccgjdmbongbaaaGreatDoor
open Go.RowKit Go.ChangeShapes Go.WideShapes Go.Deep
set_option linter.unusedVariables false
set_option maxRecDepth 10000
def oc (o : O) : List Value := [.int .u8 o.1.1, .int .u8 o.1.2.1, .int .u8 o.1.2.2, .int .i64 o.2]
theorem oc_len (o : O) : (oc o).length = 4 := rfl
theorem oc_one (o : O) : ∀ u ∈ oc o, u.oneCell' = true := by
 intro u hu
 simp only [oc, List.mem_cons, List.not_mem_nil, or_false] at hu
 rcases hu with rfl | rfl | rfl | rfl <;> rfl
abbrev OL (w : World) (p : Option Addr) (n c : Nat) (L : List O) : Prop := SlG oc 4 o0 w p n c L
abbrev FillO (W wr : World) (v : Value) (L : List O) (N : Nat) : Prop := FillG oc 4 50 W wr v L N
theorem info_op : (Tryz.prog.info? 50).map (fun i => (i.zero, i.size, i.bytes)) = some (some (.agg #[.int .u8 0, .int .u8 0, .int .u8 0, .int .i64 0]), 4, 16) := by kernel_rfl
theorem info_int : (Tryz.prog.info? 2).map (fun i => (i.zero, i.size, i.bytes)) = some (some (.int .i64 0), 1, 8) := by kernel_rfl
theorem op_news (w : World) (x : O) : ∀ i u, (oc x)[i]? = some u → (w.alloc (.cells #[.int .u8 x.1.1, .int .u8 x.1.2.1, .int .u8 x.1.2.2, .int .i64 x.2] 50)).cell? ⟨w.heap.size, i, none⟩ = some u :=
 fun i u hu => block_cell (alloc_block w _) (by simpa [oc] using hu)
theorem op_cells {w : World} {p : Option Addr} {n c : Nat} {L : List O} (h : OL w p n c L) {j : Nat} (hj : j < n) : ∃ b off, p = some ⟨b, off, none⟩ ∧ b < w.heap.size ∧ w.cell? ⟨b, off + j * 4, none⟩ = some (.int .u8 (L.getD j o0).1.1) ∧ w.cell? ⟨b, off + j * 4 + 1, none⟩ = some (.int .u8 (L.getD j o0).1.2.1) ∧ w.cell? ⟨b, off + j * 4 + 2, none⟩ = some (.int .u8 (L.getD j o0).1.2.2) ∧ w.cell? ⟨b, off + j * 4 + 3, none⟩ = some (.int .i64 (L.getD j o0).2) := by
 obtain ⟨b, off, rfl, hb, hc⟩ := h.cell (by omega)
 exact ⟨b, off, rfl, hb, hc j hj 0 _ rfl, hc j hj 1 _ rfl, hc j hj 2 _ rfl, hc j hj 3 _ rfl⟩
theorem ok_at {L : List O} (h : ∀ o ∈ L, Ook o) {j : Nat} (hj : j < L.length) : Ook (L.getD j o0) := by
 rw [List.getD, List.getElem?_eq_getElem hj]
 exact h _ (List.getElem_mem _)
def ic (x : Int) : List Value := [.int .i64 x]
theorem ic_len (x : Int) : (ic x).length = 1 := rfl
theorem ic_one (x : Int) : ∀ u ∈ ic x, u.oneCell' = true := by
 intro u hu
 simp only [ic, List.mem_cons, List.not_mem_nil, or_false] at hu
 rw [hu]; rfl
abbrev IL (w : World) (p : Option Addr) (n c : Nat) (L : List Int) : Prop := SlG ic 1 0 w p n c L
abbrev FillI (W wr : World) (v : Value) (L : List Int) (N : Nat) : Prop := FillG ic 1 2 W wr v L N
theorem int_news (w : World) (x : Int) : ∀ i u, (ic x)[i]? = some u → (w.alloc (.cells #[.int .i64 x] 2)).cell? ⟨w.heap.size, i, none⟩ = some u :=
 fun i u hu => block_cell (alloc_block w _) (by simpa [ic] using hu)
theorem wpList_append_i {w : World} {ops : Array Oper} {rest : List Oper} {o : Oper} {a : Act} {Q : Exit → Act → World → Prop} (hgd : o.guard = none) (s x : Operand)
 (ho : o.op = .call { callee := .builtin .append, args := #[s, x], argTypes := #[135, 135] })
 (base : Nat) (v : Value) (n : Nat) (L : List Int) (hs : a.eval s = v) (hr : w.ownsRow base 2 1 v n (flatG ic L)) (hn : n ≤ 1000000) (e : Int) (B : Nat)
 (hx : a.eval x = .slice (some ⟨B, 0, none⟩) 1 1) (hc : ∀ i u, (ic e)[i]? = some u → w.cell? ⟨B, i, none⟩ = some u) (hbase : base ≤ w.heap.size)
 (h : ∀ v' w', w'.ownsRow base 2 1 v' (n + 1) (flatG ic (L ++ [e])) → w.grownBy w' v.ownBlock → wpList Tryz.prog ops Q rest (a.put o.dst v') w') : wpList Tryz.prog ops Q (o :: rest) a w :=
 wpList_append_g ic_len ic_one (by decide) hgd s x _ _ ho Tryz.underlying135 _ 8 info_int rfl (by omega) base v n L hs hr hn e B hx hc hbase h
theorem IL.row {w : World} {p : Option Addr} {n c : Nat} {xs : List Int} (h : IL w p n c xs) (hr : ∀ x ∈ xs, In64 x) : RowN w p n xs := by
 refine ⟨h.len.symm, hr, ?_⟩
 by_cases h0 : n = 0
 · exact .inl h0
 · obtain ⟨b, off, rfl, hb, hc⟩ := h.cell (by omega)
   refine .inr ⟨b, off, rfl, hb, fun j hj => ?_⟩
   have := hc j (by rw [← h.len]; exact hj) 0 _ rfl
   simpa using this
theorem opCells : Tryz.prog.cellsOf 50 = 4 := by kernel_rfl
theorem intCells : Tryz.prog.cellsOf 2 = 1 := by kernel_rfl
section
variable {H : Type} {enc : TypeId × Value → H} {w : World} {base : Nat} {spare : Nat → Bool} {held : Bool}
theorem key_trod {fuel : Nat} {x y z : Value} {d : DataW H × List MemPlace} (h : DataW.trod enc Tryz.prog w base spare held fuel 34 [x, y, z] = some d) : ∃ k : K, Kok k ∧ x = .int .u8 k.1 ∧ y = .int .u8 k.2.1 ∧ z = .int .u8 k.2.2 := by
 obtain ⟨y0, y1, y2, n, _, _, t0, t1, t2⟩ := trod_struct3 Tryz.underlying34 h
 simp only [byteCells, List.drop_zero, List.drop_succ_cons, List.take_succ_cons, List.take_zero] at t0 t1 t2
 obtain ⟨z0, hv0, _, wf0⟩ := DataW.trod_int Tryz.underlying5 t0
 obtain ⟨z1, hv1, _, wf1⟩ := DataW.trod_int Tryz.underlying5 t1
 obtain ⟨z2, hv2, _, wf2⟩ := DataW.trod_int Tryz.underlying5 t2
 simp at hv0 hv1 hv2
 exact ⟨(z0, z1, z2), ⟨bounds_u8 wf0, bounds_u8 wf1, bounds_u8 wf2⟩, hv0, hv1, hv2⟩
theorem op_trod {fuel : Nat} {cs : List Value} {d : DataW H × List MemPlace} (h : DataW.trod enc Tryz.prog w base spare held fuel 50 cs = some d) : ∃ o : O, Ook o ∧ cs = oc o := by
 obtain ⟨_, _, _, _, hlen, _, _⟩ := DataW.trod_struct Tryz.underlying50 h
 rw [opCells] at hlen
 obtain ⟨y0, y1, n, _, _, t0, t1⟩ := trod_struct2 Tryz.underlying50 h
 obtain ⟨v0, v1, v2, v3, rfl⟩ : ∃ v0 v1 v2 v3, cs = [v0, v1, v2, v3] := by
  match cs, hlen with
  | [a, b, c, d], _ => exact ⟨a, b, c, d, rfl⟩
 simp only [keyCells, intCells, List.drop_zero, List.drop_succ_cons, List.take_succ_cons, List.take_zero] at t0 t1
 obtain ⟨k, hk, rfl, rfl, rfl⟩ := key_trod t0
 obtain ⟨z3, hv3, _, wf3⟩ := DataW.trod_int Tryz.underlying2 t1
 simp at hv3
 subst hv3
 exact ⟨(k, z3), ⟨hk, bounds_i64 wf3⟩, rfl⟩
theorem open_ops {fuel : Nat} {a : Option Addr} {len cap : Nat} {x : DataW H × List MemPlace}
 (h : DataW.trod enc Tryz.prog w base (fun _ => true) held fuel 45 [.slice a len cap] = some x) : ∃ L, OL w a len cap L ∧ ∀ y ∈ L, Ook y := by
 rcases open_slice Tryz.underlying45 h with ⟨hcs, _⟩ | ⟨a', l, c, m, n, D, Pl, hcs, hb, hl, hm, hmm, hx, hi⟩
 · simp at hcs
   obtain ⟨rfl, rfl, rfl⟩ := hcs
   exact ⟨[], SlG.empty w, fun y hy => by cases hy⟩
 · simp at hcs
   obtain ⟨rfl, rfl, rfl⟩ := hcs
   rw [if_pos rfl] at hmm
   subst hmm
   have hall : ∀ i, i < len → ∃ y : O, Ook y ∧ ∀ j u, (oc y)[j]? = some u → w.cell? (a'.add (i * 4 + j)) = some u := by
    intro i hil
    obtain ⟨cs', hc, ht⟩ := hi i (by omega)
    rw [opCells] at hc
    obtain ⟨y, hy, rfl⟩ := op_trod ht
    obtain ⟨_, hcl, hat⟩ := World.cells?_some hc
    refine ⟨y, hy, fun j u hu => ?_⟩
    have hj : j < 4 := (List.getElem?_eq_some_iff.1 hu).1
    have := hat j hj
    rw [← Go.Deep.add_add, this]
    exact hu
   obtain ⟨f, hf⟩ : ∃ f : Nat → O, ∀ i, i < len → Ook (f i) ∧ ∀ j u, (oc (f i))[j]? = some u → w.cell? (a'.add (i * 4 + j)) = some u :=
    ⟨fun i => if h : i < len then Classical.choose (hall i h) else o0, fun i h => by dsimp only; rw [dif_pos h]; exact Classical.choose_spec (hall i h)⟩
   refine ⟨(List.range len).map f, ⟨by simp, hl, hm, (fun h => by cases h), fun h0 => ?_⟩, fun y hy => ?_⟩
   · have h00 := (hf 0 h0).2 0 _ rfl
     have hsp : a'.spot = none := World.cell?_spot (a := a') (by simpa [Addr.add] using h00)
     obtain ⟨b, off, sp⟩ := a'
     replace hsp : sp = none := hsp
     subst hsp
     rw [Go.WideShapes.add_plain] at h00
     refine ⟨b, off, rfl, World.block_lt_of_cell? _ _ h00, fun j hj i v hv => ?_⟩
     have e : ((List.range len).map f).getD j o0 = f j := by
      rw [List.getD, List.getElem?_map, List.getElem?_range hj]; rfl
     rw [e] at hv
     have := (hf j hj).2 i v hv
     rwa [Go.WideShapes.add_plain, ← Nat.add_assoc] at this
   · obtain ⟨i, hi', rfl⟩ := List.mem_map.1 hy
     exact (hf i (List.mem_range.1 hi')).1
end
end Go.Proofs.YtccgjdmbongbaaaGreatDoor
namespace Go.Proofs.YtccgjdmbongbaaaGreatDoor
open Go.RowKit Go.ChangeShapes Go.WideShapes
set_option linter.unusedVariables false
set_option linter.unusedSimpArgs false
set_option maxRecDepth 10000
structure Tv where
 c : Tc
 p : Option Addr
 n : Nat
 m : Nat
def tv0 : Tv := ⟨tc0, none, 0, 0⟩
def Tv.id (t : Tv) : Int := t.c.id
def Tv.sg (t : Tv) : Int := t.c.sg
abbrev tcs (t : Tv) : Array Value := #[.int .u32 t.c.id, .int .u32 t.c.sg, .int .u8 t.c.st, .bool t.c.cp, .bool t.c.dd, .slice t.p t.n t.m, .int .i64 t.c.fs, .int .i64 t.c.sz]
def tce (t : Tv) : List Value := (tcs t).toList
theorem tce_len (t : Tv) : (tce t).length = 8 := rfl
theorem tce_one (t : Tv) : ∀ u ∈ tce t, u.oneCell' = true := by
 intro u hu
 simp only [tce, List.mem_cons, List.not_mem_nil, or_false] at hu
 rcases hu with rfl | rfl | rfl | rfl | rfl | rfl | rfl | rfl <;> rfl
abbrev TvM (w : World) (t : Tv) : Prop := OL w t.p t.n t.m t.c.dn
theorem tv0_m (w : World) : TvM w tv0 := SlG.empty _
structure TL (w : World) (p : Option Addr) (n c : Nat) (L : List Tv) : Prop where
 row : SlG tce 8 tv0 w p n c L
 each : ∀ t ∈ L, TvM w t
theorem TL.later {w w' : World} {p : Option Addr} {n c : Nat} {L : List Tv} (h : TL w p n c L) (hb : Below w.heap.size w w') : TL w' p n c L := ⟨h.row.later hb, fun t ht => (h.each t ht).later hb⟩
theorem TL.empty (w : World) : TL w none 0 0 [] := ⟨SlG.empty _, fun t h => by cases h⟩
theorem TL.mem {w : World} {p : Option Addr} {n c : Nat} {L : List Tv} (h : TL w p n c L) {j : Nat} (hj : j < n) : L.getD j tv0 ∈ L := by
 rw [List.getD, List.getElem?_eq_getElem (by rw [h.row.len]; exact hj)]
 exact List.getElem_mem _
theorem TL.at {w : World} {p : Option Addr} {n c : Nat} {L : List Tv} (h : TL w p n c L) {j : Nat} (hj : j < n) : TvM w (L.getD j tv0) := h.each _ (h.mem hj)
theorem txr_cells {w : World} {p : Option Addr} {n c : Nat} {L : List Tv} (h : SlG tce 8 tv0 w p n c L) {j : Nat} (hj : j < n) : ∃ b off, p = some ⟨b, off, none⟩ ∧ b < w.heap.size ∧ w.cell? ⟨b, off + j * 8, none⟩ = some (.int .u32 (L.getD j tv0).c.id) ∧ w.cell? ⟨b, off + j * 8 + 1, none⟩ = some (.int .u32 (L.getD j tv0).c.sg) ∧ w.cell? ⟨b, off + j * 8 + 2, none⟩ = some (.int .u8 (L.getD j tv0).c.st) ∧ w.cell? ⟨b, off + j * 8 + 3, none⟩ = some (.bool (L.getD j tv0).c.cp) ∧ w.cell? ⟨b, off + j * 8 + 4, none⟩ = some (.bool (L.getD j tv0).c.dd) ∧ w.cell? ⟨b, off + j * 8 + 5, none⟩ = some (.slice (L.getD j tv0).p (L.getD j tv0).n (L.getD j tv0).m) ∧ w.cell? ⟨b, off + j * 8 + 6, none⟩ = some (.int .i64 (L.getD j tv0).c.fs) ∧ w.cell? ⟨b, off + j * 8 + 7, none⟩ = some (.int .i64 (L.getD j tv0).c.sz) := by
 obtain ⟨b, off, rfl, hb, hc⟩ := h.cell (by omega)
 exact ⟨b, off, rfl, hb, hc j hj 0 _ rfl, hc j hj 1 _ rfl, hc j hj 2 _ rfl, hc j hj 3 _ rfl, hc j hj 4 _ rfl, hc j hj 5 _ rfl, hc j hj 6 _ rfl, hc j hj 7 _ rfl⟩
theorem tx_box {w : World} {B : Nat} {t : Tv} {T : TypeId} (h : w.heap[B]? = some (.cells #[.int .u32 t.c.id, .int .u32 t.c.sg, .int .u8 t.c.st, .bool t.c.cp, .bool t.c.dd, .slice t.p t.n t.m, .int .i64 t.c.fs, .int .i64 t.c.sz] T (0, 0))) : w.cell? ⟨B, 0, none⟩ = some (.int .u32 t.c.id) ∧ w.cell? ⟨B, 1, none⟩ = some (.int .u32 t.c.sg) ∧ w.cell? ⟨B, 2, none⟩ = some (.int .u8 t.c.st) ∧ w.cell? ⟨B, 3, none⟩ = some (.bool t.c.cp) ∧ w.cell? ⟨B, 4, none⟩ = some (.bool t.c.dd) ∧ w.cell? ⟨B, 5, none⟩ = some (.slice t.p t.n t.m) ∧ w.cell? ⟨B, 6, none⟩ = some (.int .i64 t.c.fs) ∧ w.cell? ⟨B, 7, none⟩ = some (.int .i64 t.c.sz) := ⟨block_cell h rfl, block_cell h rfl, block_cell h rfl, block_cell h rfl, block_cell h rfl, block_cell h rfl, block_cell h rfl, block_cell h rfl⟩
theorem txv_cells {w : World} {B : Nat} {a b c d e f g h : Value} {T : TypeId} (hb : w.heap[B]? = some (.cells #[a, b, c, d, e, f, g, h] T (0, 0))) : w.cell? ⟨B, 0, none⟩ = some a ∧ w.cell? ⟨B, 1, none⟩ = some b ∧ w.cell? ⟨B, 2, none⟩ = some c ∧ w.cell? ⟨B, 3, none⟩ = some d ∧ w.cell? ⟨B, 4, none⟩ = some e ∧ w.cell? ⟨B, 5, none⟩ = some f ∧ w.cell? ⟨B, 6, none⟩ = some g ∧ w.cell? ⟨B, 7, none⟩ = some h := ⟨block_cell hb rfl, block_cell hb rfl, block_cell hb rfl, block_cell hb rfl, block_cell hb rfl, block_cell hb rfl, block_cell hb rfl, block_cell hb rfl⟩
theorem tx_news (w : World) (t : Tv) : ∀ i u, (tce t)[i]? = some u → (w.alloc (.cells #[.int .u32 t.c.id, .int .u32 t.c.sg, .int .u8 t.c.st, .bool t.c.cp, .bool t.c.dd, .slice t.p t.n t.m, .int .i64 t.c.fs, .int .i64 t.c.sz] 47)).cell? ⟨w.heap.size, i, none⟩ = some u :=
 fun i u hu => block_cell (alloc_block w _) (by simpa [tce] using hu)
theorem infoTxn : (Tryz.prog.info? 47).map (fun i => (i.zero, i.size, i.bytes)) = some (some (.agg #[.int .u32 0, .int .u32 0, .int .u8 0, .bool false, .bool false, .slice none 0 0, .int .i64 0, .int .i64 0]), 8, 56) := by kernel_rfl
abbrev FillT (W wr : World) (v : Value) (L : List Tv) (N : Nat) : Prop := FillG tce 8 47 W wr v L N
theorem wpList_append_tx {w : World} {ops : Array Oper} {rest : List Oper} {o : Oper} {a : Act} {Q : Exit → Act → World → Prop} (hgd : o.guard = none) (s x : Operand)
 (ho : o.op = .call { callee := .builtin .append, args := #[s, x], argTypes := #[22, 22] })
 (base : Nat) (v : Value) (n : Nat) (M : List Tv) (hs : a.eval s = v) (hr : w.ownsRow base 47 8 v n (flatG tce M)) (hn : n ≤ 1000000) (e : Tv) (B : Nat)
 (hx : a.eval x = .slice (some ⟨B, 0, none⟩) 1 1) (hc : ∀ i u, (tce e)[i]? = some u → w.cell? ⟨B, i, none⟩ = some u) (hbase : base ≤ w.heap.size)
 (h : ∀ v' w', w'.ownsRow base 47 8 v' (n + 1) (flatG tce (M ++ [e])) → w.grownBy w' v.ownBlock → wpList Tryz.prog ops Q rest (a.put o.dst v') w') : wpList Tryz.prog ops Q (o :: rest) a w :=
 wpList_append_g tce_len tce_one (by decide) hgd s x _ _ ho Tryz.underlying22 _ 56 infoTxn rfl (by omega) base v n M hs hr hn e B hx hc hbase h
theorem op_neq (a b c z a' b' c' z' : Int) (w : World) : (binOp .neq 50 (.agg #[.int .u8 a, .int .u8 b, .int .u8 c, .int .i64 z]) (.agg #[.int .u8 a', .int .u8 b', .int .u8 c', .int .i64 z'])).run Tryz.prog w = .ok (.bool (!decide ((((a, b, c), z) : O) = ((a', b', c'), z')))) w := by
 by_cases h1 : a = a'
 · by_cases h2 : b = b'
   · by_cases h3 : c = c'
     · by_cases h4 : z = z'
       · subst h1 h2 h3 h4
         go_simp
       · subst h1 h2 h3
         go_simp
     · subst h1 h2
       go_simp
   · subst h1
     go_simp
 · go_simp
theorem op_eql (a b c z a' b' c' z' : Int) (w : World) : (binOp .eql 50 (.agg #[.int .u8 a, .int .u8 b, .int .u8 c, .int .i64 z]) (.agg #[.int .u8 a', .int .u8 b', .int .u8 c', .int .i64 z'])).run Tryz.prog w = .ok (.bool (decide ((((a, b, c), z) : O) = ((a', b', c'), z')))) w := by
 by_cases h1 : a = a'
 · by_cases h2 : b = b'
   · by_cases h3 : c = c'
     · by_cases h4 : z = z'
       · subst h1 h2 h3 h4
         go_simp
       · subst h1 h2 h3
         go_simp
     · subst h1 h2
       go_simp
   · subst h1
     go_simp
 · go_simp
theorem lists_same {L M : List O} {n : Nat} (hL : L.length = n) (hM : M.length = n) (h : ∀ j, j < n → L.getD j o0 = M.getD j o0) : L = M := by
 apply List.ext_getElem (by omega)
 intro i h1 h2
 have := h i (by omega)
 simpa [List.getD, List.getElem?_eq_getElem h1, List.getElem?_eq_getElem h2] using this
set_option maxHeartbeats 1000000 in
theorem rsame_o (p q : Option Addr) (n m c d : Nat) (L M : List O) (W : World) (hL : OL W p n c L) (hM : OL W q m d M) (hn : n ≤ 100000) (hm : m ≤ 100000) :
 Calls Tryz.prog 53 #[.slice p n c, .slice q m d] W fun e w' => e = .returned (.bool (decide (L = M))) ∧ Below W.heap.size W w' := by
 have HL := Lib.hid hL
 have HM := Lib.hid hM
 have hLl := hL.len
 have hMl := hM.len
 have HLN := Lib.hid hLl
 have HMN := Lib.hid hMl
 clear hL hM
 by_cases hnm : n = m
 · subst hnm
   have h0 : ((n : Int) != (n : Int)) = false := by simp
   have hcc := HL.out.cap
   have hcd := HM.out.cap
   clear hLl hMl
   go_enter Tryz.func53, Tryz.ntmps53
   go_wp2_with fail
   go_loopw [5] (fun i wr => ∃ j : Nat, j ≤ n ∧ i = .int .i64 j ∧ Hid (Below W.heap.size W wr) ∧ Hid (∀ i, i < j → L.getD i o0 = M.getD i o0)) (fun i _ => n - (intOf i).toNat)
   case atStart => exact ⟨0, Nat.zero_le _, rfl, Lib.hid (Below.refl _ _), Lib.hid fun i hi => by omega⟩
   case round =>
    obtain ⟨j, hj, rfl, HB, HE⟩ := hrel
    by_cases hlt : j < n
    · have hlt' : (j : Int) < n := by omega
      obtain ⟨b, off, rfl, _, c0, c1, c2, c3⟩ := op_cells (HL.out.later HB.out) hlt
      obtain ⟨b', off', rfl, _, d0, d1, d2, d3⟩ := op_cells (HM.out.later HB.out) hlt
      generalize hx : L.getD j o0 = x at *
      generalize hy : M.getD j o0 = y at *
      have HX := Lib.hid hx
      have HY := Lib.hid hy
      have hq := fun w => op_neq x.1.1 x.1.2.1 x.1.2.2 x.2 y.1.1 y.1.2.1 y.1.2.2 y.2 w
      have e1 : decide ((((x.1.1, x.1.2.1, x.1.2.2), x.2) : O) = ((y.1.1, y.1.2.1, y.1.2.2), y.2)) = decide (x = y) := rfl
      rw [e1] at hq
      clear e1 hx hy
      by_cases hxy : x = y
      · rw [decide_eq_true hxy] at hq
        have HXY := Lib.hid hxy
        clear hxy
        go_wp2_with fail
        go_quiet (fail)
        go_wp2_with fail
        go_roundw
        case rel =>
         refine ⟨j + 1, by omega, by go_num, Lib.hid (below_drewN HB.out _), Lib.hid fun i hi => ?_⟩
         by_cases e : i = j
         · subst e; rw [HX.out, HY.out, HXY.out]
         · exact HE.out i (by omega)
        case measure => simp [intOf]; omega
      · rw [decide_eq_false hxy] at hq
        have HF : Hid (decide (L = M) = false) := Lib.hid (decide_eq_false fun e => hxy (by rw [← HX.out, ← HY.out, e]))
        clear hxy
        go_wp2_with fail
        go_quiet (fail)
        go_wp2_with fail
        go_ret
        exact ⟨by rw [HF.out]; rfl, below_drewN HB.out _⟩
    · obtain rfl : j = n := by omega
      have HF : Hid (decide (L = M) = true) := Lib.hid (decide_eq_true (lists_same HLN.out HMN.out HE.out))
      go_wp2_with fail
      go_ret
      exact ⟨by rw [HF.out]; rfl, HB.out⟩
 · have h0 : ((n : Int) != (m : Int)) = true := by simp; omega
   have HF : Hid (decide (L = M) = false) := Lib.hid (decide_eq_false fun e => hnm (by rw [← HLN.out, ← HMN.out, e]))
   clear hLl hMl
   go_enter Tryz.func53, Tryz.ntmps53
   go_wp2_with fail
   go_ret
   exact ⟨by rw [HF.out]; rfl, Below.refl _ _⟩
end Go.Proofs.YtccgjdmbongbaaaGreatDoor
namespace Go.Proofs.YtccgjdmbongbaaaGreatDoor
open Go.RowKit Go.ChangeShapes Go.WideShapes Go.Deep
set_option linter.unusedVariables false
set_option maxRecDepth 10000
def lc (x : Ln) : List Value := [.int .u8 x.1, .int .i64 x.2]
theorem lc_len (x : Ln) : (lc x).length = 2 := rfl
abbrev LL (w : World) (p : Option Addr) (n c : Nat) (L : List Ln) : Prop := SlG lc 2 l0 w p n c L
theorem line_cells {w : World} {p : Option Addr} {n c : Nat} {L : List Ln} (h : LL w p n c L) {j : Nat} (hj : j < n) : ∃ b off, p = some ⟨b, off, none⟩ ∧ b < w.heap.size ∧ w.cell? ⟨b, off + j * 2, none⟩ = some (.int .u8 (L.getD j l0).1) ∧ w.cell? ⟨b, off + j * 2 + 1, none⟩ = some (.int .i64 (L.getD j l0).2) := by
 obtain ⟨b, off, rfl, hb, hc⟩ := h.cell (by omega)
 exact ⟨b, off, rfl, hb, hc j hj 0 _ rfl, hc j hj 1 _ rfl⟩
theorem lnok_at {L : List Ln} (h : ∀ x ∈ L, Lnok x) {j : Nat} (hj : j < L.length) : Lnok (L.getD j l0) := by
 rw [List.getD, List.getElem?_eq_getElem hj]
 exact h _ (List.getElem_mem _)
theorem byteCells1 : Tryz.prog.cellsOf 5 = 1 := by kernel_rfl
theorem lineCells : Tryz.prog.cellsOf 115 = 2 := by kernel_rfl
section
variable {H : Type} {enc : TypeId × Value → H} {w : World} {base : Nat} {held : Bool}
theorem line_trod {spare : Nat → Bool} {fuel : Nat} {cs : List Value} {d : DataW H × List MemPlace} (h : DataW.trod enc Tryz.prog w base spare held fuel 115 cs = some d) : ∃ x : Ln, Lnok x ∧ cs = lc x := by
 obtain ⟨_, _, _, _, hlen, _, _⟩ := DataW.trod_struct Tryz.underlying115 h
 rw [lineCells] at hlen
 obtain ⟨y0, y1, n, _, _, t0, t1⟩ := trod_struct2 Tryz.underlying115 h
 obtain ⟨v0, v1, rfl⟩ : ∃ v0 v1, cs = [v0, v1] := by
  match cs, hlen with
  | [a, b], _ => exact ⟨a, b, rfl⟩
 simp only [byteCells1, intCells, List.drop_zero, List.drop_succ_cons, List.take_succ_cons, List.take_zero] at t0 t1
 obtain ⟨z0, hv0, _, wf0⟩ := DataW.trod_int Tryz.underlying5 t0
 obtain ⟨z1, hv1, _, wf1⟩ := DataW.trod_int Tryz.underlying2 t1
 simp at hv0 hv1
 subst hv0 hv1
 exact ⟨(z0, z1), ⟨bounds_u8 wf0, bounds_i64 wf1⟩, rfl⟩
theorem open_lines {fuel : Nat} {a : Option Addr} {len cap : Nat} {x : DataW H × List MemPlace}
 (h : DataW.trod enc Tryz.prog w base (fun _ => true) held fuel 35 [.slice a len cap] = some x) : ∃ L, LL w a len cap L ∧ ∀ y ∈ L, Lnok y := by
 rcases open_slice Tryz.underlying35 h with ⟨hcs, _⟩ | ⟨a', l, c, m, n, D, Pl, hcs, hb, hl, hm, hmm, hx, hi⟩
 · simp at hcs
   obtain ⟨rfl, rfl, rfl⟩ := hcs
   exact ⟨[], SlG.empty w, fun y hy => by cases hy⟩
 · simp at hcs
   obtain ⟨rfl, rfl, rfl⟩ := hcs
   rw [if_pos rfl] at hmm
   subst hmm
   have hall : ∀ i, i < len → ∃ y : Ln, Lnok y ∧ ∀ j u, (lc y)[j]? = some u → w.cell? (a'.add (i * 2 + j)) = some u := by
    intro i hil
    obtain ⟨cs', hc, ht⟩ := hi i (by omega)
    rw [lineCells] at hc
    obtain ⟨y, hy, rfl⟩ := line_trod ht
    obtain ⟨_, hcl, hat⟩ := World.cells?_some hc
    refine ⟨y, hy, fun j u hu => ?_⟩
    have hj : j < 2 := (List.getElem?_eq_some_iff.1 hu).1
    have := hat j hj
    rw [← Go.Deep.add_add, this]
    exact hu
   obtain ⟨f, hf⟩ : ∃ f : Nat → Ln, ∀ i, i < len → Lnok (f i) ∧ ∀ j u, (lc (f i))[j]? = some u → w.cell? (a'.add (i * 2 + j)) = some u :=
    ⟨fun i => if h : i < len then Classical.choose (hall i h) else l0, fun i h => by dsimp only; rw [dif_pos h]; exact Classical.choose_spec (hall i h)⟩
   refine ⟨(List.range len).map f, ⟨by simp, hl, hm, (fun h => by cases h), fun h0 => ?_⟩, fun y hy => ?_⟩
   · have h00 := (hf 0 h0).2 0 _ rfl
     have hsp : a'.spot = none := World.cell?_spot (a := a') (by simpa [Addr.add] using h00)
     obtain ⟨b, off, sp⟩ := a'
     replace hsp : sp = none := hsp
     subst hsp
     rw [Go.WideShapes.add_plain] at h00
     refine ⟨b, off, rfl, World.block_lt_of_cell? _ _ h00, fun j hj i v hv => ?_⟩
     have e : ((List.range len).map f).getD j l0 = f j := by
      rw [List.getD, List.getElem?_map, List.getElem?_range hj]; rfl
     rw [e] at hv
     have := (hf j hj).2 i v hv
     rwa [Go.WideShapes.add_plain, ← Nat.add_assoc] at this
   · obtain ⟨i, hi', rfl⟩ := List.mem_map.1 hy
     exact (hf i (List.mem_range.1 hi')).1
end
theorem own_zero {w : World} {B : Nat} {T : TypeId} {k : Nat} {v : Value} {n : Nat} {xs : List Value} (h : w.ownsRow B T k v n xs) : w.ownsRow 0 T k v n xs := by
 refine ⟨h.1, ?_⟩
 rcases h.2 with hn | ⟨g, cap, cur, rfl, h1, h2, h3⟩
 · exact .inl hn
 · exact .inr ⟨g, cap, cur, rfl, Nat.zero_le _, h2, h3⟩
theorem GivesG.since {α : Type} {enc : α → List Value} {k : Nat} {d : α} {W W2 : World} {V : List α} {e : Ending} {w' : World} (h : GivesG enc k d W2 V e w') (hb : Below W.heap.size W W2) : GivesG enc k d W V e w' := by
 obtain ⟨p, c, rfl, hs, hb2, hp⟩ := h
 exact ⟨p, c, rfl, hs, hb.trans (hb2.mono hb.size), fun a ha => Nat.le_trans hb.size (hp a ha)⟩
def tkc (x : Tk) : List Value := [.int .u32 x.1, .int .u8 x.2.1, .int .u8 x.2.2.1, .int .i64 x.2.2.2]
theorem lc_one (x : Ln) : ∀ u ∈ lc x, u.oneCell' = true := by
 intro u hu
 simp only [lc, List.mem_cons, List.not_mem_nil, or_false] at hu
 rcases hu with rfl | rfl <;> rfl
abbrev TKL (w : World) (p : Option Addr) (n c : Nat) (T : List Tk) : Prop := SlG tkc 4 tk0 w p n c T
theorem take_cells {w : World} {p : Option Addr} {n c : Nat} {T : List Tk} (h : TKL w p n c T) {j : Nat} (hj : j < n) : ∃ b off, p = some ⟨b, off, none⟩ ∧ b < w.heap.size ∧ w.cell? ⟨b, off + j * 4, none⟩ = some (.int .u32 (T.getD j tk0).1) ∧ w.cell? ⟨b, off + j * 4 + 1, none⟩ = some (.int .u8 (T.getD j tk0).2.1) ∧ w.cell? ⟨b, off + j * 4 + 2, none⟩ = some (.int .u8 (T.getD j tk0).2.2.1) ∧ w.cell? ⟨b, off + j * 4 + 3, none⟩ = some (.int .i64 (T.getD j tk0).2.2.2) := by
 obtain ⟨b, off, rfl, hb, hc⟩ := h.cell (by omega)
 exact ⟨b, off, rfl, hb, hc j hj 0 _ rfl, hc j hj 1 _ rfl, hc j hj 2 _ rfl, hc j hj 3 _ rfl⟩
theorem tkok_at {T : List Tk} (h : ∀ x ∈ T, Tkok x) {j : Nat} (hj : j < T.length) : Tkok (T.getD j tk0) := by
 rw [List.getD, List.getElem?_eq_getElem hj]
 exact h _ (List.getElem_mem _)
theorem takeCells4 : Tryz.prog.cellsOf 117 = 4 := by kernel_rfl
theorem bounds32 {n : Int} (h : (Lit.int .u32 n).wf = true) : 0 ≤ n ∧ n ≤ 4294967295 := by
 have := bounds_u32 h
 omega
section
variable {H : Type} {enc : TypeId × Value → H} {w : World} {base : Nat} {held : Bool}
theorem take_trod {spare : Nat → Bool} {fuel : Nat} {cs : List Value} {d : DataW H × List MemPlace} (h : DataW.trod enc Tryz.prog w base spare held fuel 117 cs = some d) : ∃ x : Tk, Tkok x ∧ cs = tkc x := by
 obtain ⟨xs, n, _, _, hlen, hxl, hg⟩ := DataW.trod_struct Tryz.underlying117 h
 rw [takeCells4] at hlen
 obtain ⟨v0, v1, v2, v3, rfl⟩ : ∃ v0 v1 v2 v3, cs = [v0, v1, v2, v3] := by
  match cs, hlen with
  | [a, b, c, d], _ => exact ⟨a, b, c, d, rfl⟩
 have h4 : xs.length = 4 := hxl
 have t0 := hg 0 _ rfl
 have t1 := hg 1 _ rfl
 have t2 := hg 2 _ rfl
 have t3 := hg 3 _ rfl
 rw [List.getElem?_eq_getElem (by omega)] at t0 t1 t2 t3
 have e0 : DataW.trod enc Tryz.prog w base spare held n 32 [v0] = some (xs[0]'(by omega)) := t0
 have e1 : DataW.trod enc Tryz.prog w base spare held n 5 [v1] = some (xs[1]'(by omega)) := t1
 have e2 : DataW.trod enc Tryz.prog w base spare held n 5 [v2] = some (xs[2]'(by omega)) := t2
 have e3 : DataW.trod enc Tryz.prog w base spare held n 2 [v3] = some (xs[3]'(by omega)) := t3
 obtain ⟨z0, hv0, _, wf0⟩ := DataW.trod_int Tryz.underlying32 e0
 obtain ⟨z1, hv1, _, wf1⟩ := DataW.trod_int Tryz.underlying5 e1
 obtain ⟨z2, hv2, _, wf2⟩ := DataW.trod_int Tryz.underlying5 e2
 obtain ⟨z3, hv3, _, wf3⟩ := DataW.trod_int Tryz.underlying2 e3
 simp at hv0 hv1 hv2 hv3
 subst hv0 hv1 hv2 hv3
 exact ⟨(z0, z1, z2, z3), ⟨bounds32 wf0, bounds_u8 wf1, bounds_u8 wf2, bounds_i64 wf3⟩, rfl⟩
theorem open_takes {fuel : Nat} {a : Option Addr} {len cap : Nat} {x : DataW H × List MemPlace}
 (h : DataW.trod enc Tryz.prog w base (fun _ => true) held fuel 36 [.slice a len cap] = some x) : ∃ L, TKL w a len cap L ∧ ∀ y ∈ L, Tkok y := by
 rcases open_slice Tryz.underlying36 h with ⟨hcs, _⟩ | ⟨a', l, c, m, n, D, Pl, hcs, hb, hl, hm, hmm, hx, hi⟩
 · simp at hcs
   obtain ⟨rfl, rfl, rfl⟩ := hcs
   exact ⟨[], SlG.empty w, fun y hy => by cases hy⟩
 · simp at hcs
   obtain ⟨rfl, rfl, rfl⟩ := hcs
   rw [if_pos rfl] at hmm
   subst hmm
   have hall : ∀ i, i < len → ∃ y : Tk, Tkok y ∧ ∀ j u, (tkc y)[j]? = some u → w.cell? (a'.add (i * 4 + j)) = some u := by
    intro i hil
    obtain ⟨cs', hc, ht⟩ := hi i (by omega)
    rw [takeCells4] at hc
    obtain ⟨y, hy, rfl⟩ := take_trod ht
    obtain ⟨_, hcl, hat⟩ := World.cells?_some hc
    refine ⟨y, hy, fun j u hu => ?_⟩
    have hj : j < 4 := (List.getElem?_eq_some_iff.1 hu).1
    have := hat j hj
    rw [← Go.Deep.add_add, this]
    exact hu
   obtain ⟨f, hf⟩ : ∃ f : Nat → Tk, ∀ i, i < len → Tkok (f i) ∧ ∀ j u, (tkc (f i))[j]? = some u → w.cell? (a'.add (i * 4 + j)) = some u :=
    ⟨fun i => if h : i < len then Classical.choose (hall i h) else tk0, fun i h => by dsimp only; rw [dif_pos h]; exact Classical.choose_spec (hall i h)⟩
   refine ⟨(List.range len).map f, ⟨by simp, hl, hm, (fun h => by cases h), fun h0 => ?_⟩, fun y hy => ?_⟩
   · have h00 := (hf 0 h0).2 0 _ rfl
     have hsp : a'.spot = none := World.cell?_spot (a := a') (by simpa [Addr.add] using h00)
     obtain ⟨b, off, sp⟩ := a'
     replace hsp : sp = none := hsp
     subst hsp
     rw [Go.WideShapes.add_plain] at h00
     refine ⟨b, off, rfl, World.block_lt_of_cell? _ _ h00, fun j hj i v hv => ?_⟩
     have e : ((List.range len).map f).getD j tk0 = f j := by
      rw [List.getD, List.getElem?_map, List.getElem?_range hj]; rfl
     rw [e] at hv
     have := (hf j hj).2 i v hv
     rwa [Go.WideShapes.add_plain, ← Nat.add_assoc] at this
   · obtain ⟨i, hi', rfl⟩ := List.mem_map.1 hy
     exact (hf i (List.mem_range.1 hi')).1
theorem slice_shape {fuel : Nat} {ty e : TypeId} (hu : Tryz.prog.underlying ty = some (.slice e)) {v : Value} {d : DataW H × List MemPlace} (h : DataW.trod enc Tryz.prog w base (fun _ => true) held fuel ty [v] = some d) : ∃ a len cap, v = .slice a len cap := by
 rcases open_slice hu h with ⟨hcs, _⟩ | ⟨a', l, c', m, n', D', Pl, hcs, _⟩
 · exact ⟨none, 0, 0, by simpa using hcs⟩
 · exact ⟨some a', l, c', by simpa using hcs⟩
end
structure PgM (w : World) (lp : Option Addr) (ln lcp : Nat) (L : List Ln) (tp : Option Addr) (tn tcp : Nat) (T : List Tk) (wp : Option Addr) (wn wcp : Nat) (M : List Ln) : Prop where
 l : LL w lp ln lcp L
 t : TKL w tp tn tcp T
 o : LL w wp wn wcp M
theorem PgM.later {w w' : World} {lp : Option Addr} {ln lcp : Nat} {L : List Ln} {tp : Option Addr} {tn tcp : Nat} {T : List Tk} {wp : Option Addr} {wn wcp : Nat} {M : List Ln} (h : PgM w lp ln lcp L tp tn tcp T wp wn wcp M) (hb : Below w.heap.size w w') : PgM w' lp ln lcp L tp tn tcp T wp wn wcp M := ⟨h.l.later hb, h.t.later hb, h.o.later hb⟩
end Go.Proofs.YtccgjdmbongbaaaGreatDoor
namespace Go.Proofs.YtccgjdmbongbaaaGreatDoor
open Go.RowKit Go.ChangeShapes Go.WideShapes
set_option linter.unusedVariables false
set_option maxRecDepth 10000
theorem FillG.slice {W wr : World} {v : Value} {L : List O} {N : Nat} (h : FillO W wr v L N) : ∃ p c, v = .slice p L.length c ∧ OL wr p L.length c L ∧ ∀ a, p = some a → W.heap.size ≤ a.block := SlG.of_own oc_len (by decide) h.own
theorem cells_step {w : World} {X : Nat} {t r : Int} {s : Value} (h : w.heap[X]? = some (.cells #[.int .u8 t, .int .u8 r, s] 161 (0, 0))) :
 w.cell? ⟨X, 0, none⟩ = some (.int .u8 t) ∧ w.cell? ⟨X, 1, none⟩ = some (.int .u8 r) ∧ w.cell? ⟨X, 2, none⟩ = some s := ⟨block_cell h rfl, block_cell h rfl, block_cell h rfl⟩
theorem filli_slice {W wr : World} {v : Value} {L : List Int} {N : Nat} (h : FillI W wr v L N) : ∃ p c, v = .slice p L.length c ∧ IL wr p L.length c L := by
 obtain ⟨p, c, hv, hs, _⟩ := SlG.of_own (d := 0) ic_len (by decide) h.own
 exact ⟨p, c, hv, hs⟩
theorem line_neq (a z a' z' : Int) (w : World) : (binOp .neq 115 (.agg #[.int .u8 a, .int .i64 z]) (.agg #[.int .u8 a', .int .i64 z'])).run Tryz.prog w = .ok (.bool (!decide (((a, z) : Ln) = (a', z')))) w := by
 by_cases h1 : a = a'
 · by_cases h4 : z = z'
   · subst h1 h4
     go_simp
   · subst h1
     go_simp
 · go_simp
theorem lnlists_same {L M : List Ln} {n : Nat} (hL : L.length = n) (hM : M.length = n) (h : ∀ j, j < n → L.getD j l0 = M.getD j l0) : L = M := by
 apply List.ext_getElem (by omega)
 intro i h1 h2
 have := h i (by omega)
 simpa [List.getD, List.getElem?_eq_getElem h1, List.getElem?_eq_getElem h2] using this
set_option maxHeartbeats 1000000 in
theorem equal_ln (p q : Option Addr) (n m c d : Nat) (L M : List Ln) (W : World) (hL : LL W p n c L) (hM : LL W q m d M) (hn : n ≤ 100000) (hm : m ≤ 100000) :
 Calls Tryz.prog 83 #[.slice p n c, .slice q m d] W fun e w' => e = .returned (.bool (decide (L = M))) ∧ Below W.heap.size W w' := by
 have HL := Lib.hid hL
 have HM := Lib.hid hM
 have HLN := Lib.hid hL.len
 have HMN := Lib.hid hM.len
 clear hL hM
 by_cases hnm : n = m
 · subst hnm
   have h0 : ((n : Int) != (n : Int)) = false := by simp
   have hcc := HL.out.cap
   have hcd := HM.out.cap
   go_enter Tryz.func83, Tryz.ntmps83
   go_wp2_with fail
   go_loopw [13] (fun i wr => ∃ j : Nat, j ≤ n ∧ i = .int .i64 j ∧ Hid (Below W.heap.size W wr) ∧ Hid (∀ i, i < j → L.getD i l0 = M.getD i l0)) (fun i _ => n - (Go.RowKit.intOf i).toNat)
   case atStart => exact ⟨0, Nat.zero_le _, rfl, Lib.hid (Below.refl _ _), Lib.hid fun i hi => by omega⟩
   case round =>
    obtain ⟨j, hj, rfl, HB, HE⟩ := hrel
    by_cases hlt : j < n
    · have hlt' : (j : Int) < n := by omega
      obtain ⟨b, off, rfl, _, c0, c1⟩ := line_cells (HL.out.later HB.out) hlt
      obtain ⟨b', off', rfl, _, d0, d1⟩ := line_cells (HM.out.later HB.out) hlt
      generalize hx : L.getD j l0 = x at *
      generalize hy : M.getD j l0 = y at *
      have HX := Lib.hid hx
      have HY := Lib.hid hy
      have hq := fun w => line_neq x.1 x.2 y.1 y.2 w
      have e1 : decide (((x.1, x.2) : Ln) = (y.1, y.2)) = decide (x = y) := rfl
      rw [e1] at hq
      clear e1 hx hy
      by_cases hxy : x = y
      · rw [decide_eq_true hxy] at hq
        have HXY := Lib.hid hxy
        clear hxy
        go_wp2_with fail
        go_quiet (fail)
        go_wp2_with fail
        go_roundw
        case rel =>
         refine ⟨j + 1, by omega, by go_num, Lib.hid (below_drewN HB.out _), Lib.hid fun i hi => ?_⟩
         by_cases e : i = j
         · subst e; rw [HX.out, HY.out, HXY.out]
         · exact HE.out i (by omega)
        case measure => simp [Go.RowKit.intOf]; omega
      · rw [decide_eq_false hxy] at hq
        have HF : Hid (decide (L = M) = false) := Lib.hid (decide_eq_false fun e => hxy (by rw [← HX.out, ← HY.out, e]))
        clear hxy
        go_wp2_with fail
        go_quiet (fail)
        go_wp2_with fail
        go_ret
        exact ⟨by rw [HF.out]; rfl, below_drewN HB.out _⟩
    · obtain rfl : j = n := by omega
      have HF : Hid (decide (L = M) = true) := Lib.hid (decide_eq_true (lnlists_same HLN.out HMN.out HE.out))
      go_wp2_with fail
      go_ret
      exact ⟨by rw [HF.out]; rfl, HB.out⟩
 · have h0 : ((n : Int) != (m : Int)) = true := by simp; omega
   have HF : Hid (decide (L = M) = false) := Lib.hid (decide_eq_false fun e => hnm (by rw [← HLN.out, ← HMN.out, e]))
   go_enter Tryz.func83, Tryz.ntmps83
   go_wp2_with fail
   go_ret
   exact ⟨by rw [HF.out]; rfl, Below.refl _ _⟩
theorem take_neq (o a w z o' a' w' z' : Int) (W : World) : (binOp .neq 117 (.agg #[.int .u32 o, .int .u8 a, .int .u8 w, .int .i64 z]) (.agg #[.int .u32 o', .int .u8 a', .int .u8 w', .int .i64 z'])).run Tryz.prog W = .ok (.bool (!decide (((o, a, w, z) : Tk) = (o', a', w', z')))) W := by
 by_cases h1 : o = o'
 · by_cases h2 : a = a'
   · by_cases h3 : w = w'
     · by_cases h4 : z = z'
       · subst h1 h2 h3 h4
         go_simp
       · subst h1 h2 h3
         go_simp
     · subst h1 h2
       go_simp
   · subst h1
     go_simp
 · go_simp
theorem tklists_same {L M : List Tk} {n : Nat} (hL : L.length = n) (hM : M.length = n) (h : ∀ j, j < n → L.getD j tk0 = M.getD j tk0) : L = M := by
 apply List.ext_getElem (by omega)
 intro i h1 h2
 have := h i (by omega)
 simpa [List.getD, List.getElem?_eq_getElem h1, List.getElem?_eq_getElem h2] using this
theorem two_progs (W : World) (a b : Array Value) : ∃ W2, (W.alloc (.cells a 38)).alloc (.cells b 38) = W2 ∧ W2.heap[W.heap.size]? = some (.cells a 38 (0, 0)) ∧ W2.heap[W.heap.size + 1]? = some (.cells b 38 (0, 0)) ∧ Below W.heap.size W W2 := by
 refine ⟨_, rfl, ?_, ?_, ((Below.refl _ _).alloc (Nat.le_refl _) _).alloc (by simp) _⟩
 · exact (Below.heap_alloc _ _ _ (by simp)).trans (alloc_block W _)
 · have := alloc_block (W.alloc (.cells a 38)) (.cells b 38)
   rwa [World.size_alloc] at this
theorem prog_cases (k od po : Int) (L : List Ln) (T : List Tk) (M : List Ln) (sk fr to q : Int) (k' od' po' : Int) (L' : List Ln) (T' : List Tk) (M' : List Ln) (sk' fr' to' q' : Int) :
 ((decide ((⟨k, od, po, L, T, M, sk, fr, to, q⟩ : Pg) = ⟨k', od', po', L', T', M', sk', fr', to', q'⟩) : Bool) = ((k == k') && (od == od') && (po == po') && decide (L = L') && decide (T = T') && decide (M = M') && (sk == sk') && (fr == fr') && (to == to') && (q == q'))) := by
 rw [Bool.eq_iff_iff]
 simp [and_assoc]
theorem cells_two (k od po : Int) (lp : Option Addr) (ln lcp : Nat) (tp : Option Addr) (tn tcp : Nat) (wp : Option Addr) (wn wcp : Nat) (sk fr to q : Int) (k' od' po' : Int) (lp' : Option Addr) (ln' lcp' : Nat) (tp' : Option Addr) (tn' tcp' : Nat) (wp' : Option Addr) (wn' wcp' : Nat) (sk' fr' to' q' : Int) {w : World} {X Y : Nat} (hx : w.heap[X]? = some (.cells #[.int .u8 k, .int .u32 od, .int .u8 po, .slice lp ln lcp, .slice tp tn tcp, .slice wp wn wcp, .int .u8 sk, .int .u8 fr, .int .u8 to, .int .i64 q] 38 (0, 0))) (hy : w.heap[Y]? = some (.cells #[.int .u8 k', .int .u32 od', .int .u8 po', .slice lp' ln' lcp', .slice tp' tn' tcp', .slice wp' wn' wcp', .int .u8 sk', .int .u8 fr', .int .u8 to', .int .i64 q'] 38 (0, 0))) :
 w.cell? ⟨X, 0, none⟩ = some (.int .u8 k) ∧ w.cell? ⟨X, 1, none⟩ = some (.int .u32 od) ∧ w.cell? ⟨X, 2, none⟩ = some (.int .u8 po) ∧ w.cell? ⟨X, 3, none⟩ = some (.slice lp ln lcp) ∧ w.cell? ⟨X, 4, none⟩ = some (.slice tp tn tcp) ∧ w.cell? ⟨X, 5, none⟩ = some (.slice wp wn wcp) ∧ w.cell? ⟨X, 6, none⟩ = some (.int .u8 sk) ∧ w.cell? ⟨X, 7, none⟩ = some (.int .u8 fr) ∧ w.cell? ⟨X, 8, none⟩ = some (.int .u8 to) ∧ w.cell? ⟨X, 9, none⟩ = some (.int .i64 q) ∧ w.cell? ⟨Y, 0, none⟩ = some (.int .u8 k') ∧ w.cell? ⟨Y, 1, none⟩ = some (.int .u32 od') ∧ w.cell? ⟨Y, 2, none⟩ = some (.int .u8 po') ∧ w.cell? ⟨Y, 3, none⟩ = some (.slice lp' ln' lcp') ∧ w.cell? ⟨Y, 4, none⟩ = some (.slice tp' tn' tcp') ∧ w.cell? ⟨Y, 5, none⟩ = some (.slice wp' wn' wcp') ∧ w.cell? ⟨Y, 6, none⟩ = some (.int .u8 sk') ∧ w.cell? ⟨Y, 7, none⟩ = some (.int .u8 fr') ∧ w.cell? ⟨Y, 8, none⟩ = some (.int .u8 to') ∧ w.cell? ⟨Y, 9, none⟩ = some (.int .i64 q') := ⟨block_cell hx rfl, block_cell hx rfl, block_cell hx rfl, block_cell hx rfl, block_cell hx rfl, block_cell hx rfl, block_cell hx rfl, block_cell hx rfl, block_cell hx rfl, block_cell hx rfl, block_cell hy rfl, block_cell hy rfl, block_cell hy rfl, block_cell hy rfl, block_cell hy rfl, block_cell hy rfl, block_cell hy rfl, block_cell hy rfl, block_cell hy rfl, block_cell hy rfl⟩
set_option maxHeartbeats 1000000 in
theorem equal_tk (p q : Option Addr) (n m c d : Nat) (L M : List Tk) (W : World) (hL : TKL W p n c L) (hM : TKL W q m d M) (hn : n ≤ 100000) (hm : m ≤ 100000) :
 Calls Tryz.prog 84 #[.slice p n c, .slice q m d] W fun e w' => e = .returned (.bool (decide (L = M))) ∧ Below W.heap.size W w' := by
 have HL := Lib.hid hL
 have HM := Lib.hid hM
 have HLN := Lib.hid hL.len
 have HMN := Lib.hid hM.len
 clear hL hM
 by_cases hnm : n = m
 · subst hnm
   have h0 : ((n : Int) != (n : Int)) = false := by simp
   have hcc := HL.out.cap
   have hcd := HM.out.cap
   go_enter Tryz.func84, Tryz.ntmps84
   go_wp2_with fail
   go_loopw [13] (fun i wr => ∃ j : Nat, j ≤ n ∧ i = .int .i64 j ∧ Hid (Below W.heap.size W wr) ∧ Hid (∀ i, i < j → L.getD i tk0 = M.getD i tk0)) (fun i _ => n - (Go.RowKit.intOf i).toNat)
   case atStart => exact ⟨0, Nat.zero_le _, rfl, Lib.hid (Below.refl _ _), Lib.hid fun i hi => by omega⟩
   case round =>
    obtain ⟨j, hj, rfl, HB, HE⟩ := hrel
    by_cases hlt : j < n
    · have hlt' : (j : Int) < n := by omega
      obtain ⟨b, off, rfl, _, c0, c1, c2, c3⟩ := take_cells (HL.out.later HB.out) hlt
      obtain ⟨b', off', rfl, _, d0, d1, d2, d3⟩ := take_cells (HM.out.later HB.out) hlt
      generalize hx : L.getD j tk0 = x at *
      generalize hy : M.getD j tk0 = y at *
      have HX := Lib.hid hx
      have HY := Lib.hid hy
      have hq := fun w => take_neq x.1 x.2.1 x.2.2.1 x.2.2.2 y.1 y.2.1 y.2.2.1 y.2.2.2 w
      have e1 : decide (((x.1, x.2.1, x.2.2.1, x.2.2.2) : Tk) = (y.1, y.2.1, y.2.2.1, y.2.2.2)) = decide (x = y) := rfl
      rw [e1] at hq
      clear e1 hx hy
      by_cases hxy : x = y
      · rw [decide_eq_true hxy] at hq
        have HXY := Lib.hid hxy
        clear hxy
        go_wp2_with fail
        go_quiet (fail)
        go_wp2_with fail
        go_roundw
        case rel =>
         refine ⟨j + 1, by omega, by go_num, Lib.hid (below_drewN HB.out _), Lib.hid fun i hi => ?_⟩
         by_cases e : i = j
         · subst e; rw [HX.out, HY.out, HXY.out]
         · exact HE.out i (by omega)
        case measure => simp [Go.RowKit.intOf]; omega
      · rw [decide_eq_false hxy] at hq
        have HF : Hid (decide (L = M) = false) := Lib.hid (decide_eq_false fun e => hxy (by rw [← HX.out, ← HY.out, e]))
        clear hxy
        go_wp2_with fail
        go_quiet (fail)
        go_wp2_with fail
        go_ret
        exact ⟨by rw [HF.out]; rfl, below_drewN HB.out _⟩
    · obtain rfl : j = n := by omega
      have HF : Hid (decide (L = M) = true) := Lib.hid (decide_eq_true (tklists_same HLN.out HMN.out HE.out))
      go_wp2_with fail
      go_ret
      exact ⟨by rw [HF.out]; rfl, HB.out⟩
 · have h0 : ((n : Int) != (m : Int)) = true := by simp; omega
   have HF : Hid (decide (L = M) = false) := Lib.hid (decide_eq_false fun e => hnm (by rw [← HLN.out, ← HMN.out, e]))
   go_enter Tryz.func84, Tryz.ntmps84
   go_wp2_with fail
   go_ret
   exact ⟨by rw [HF.out]; rfl, Below.refl _ _⟩
theorem prog_order (k od po sk fr to q k' od' po' sk' fr' to' q' : Int) (L : List Ln) (T : List Tk) (M : List Ln) (L' : List Ln) (T' : List Tk) (M' : List Ln) : ((k == k') && (od == od') && (po == po') && decide (L = L') && decide (T = T') && decide (M = M') && (sk == sk') && (fr == fr') && (to == to') && (q == q')) = ((k == k') && (od == od') && (po == po') && (sk == sk') && (fr == fr') && (to == to') && (q == q') && decide (L = L') && decide (T = T') && decide (M = M')) := by
 generalize (k == k') = x0
 generalize (od == od') = x1
 generalize (po == po') = x2
 generalize decide (L = L') = x3
 generalize decide (T = T') = x4
 generalize decide (M = M') = x5
 generalize (sk == sk') = x6
 generalize (fr == fr') = x7
 generalize (to == to') = x8
 generalize (q == q') = x9
 cases x0 <;> cases x1 <;> cases x2 <;> cases x3 <;> cases x4 <;> cases x5 <;> cases x6 <;> cases x7 <;> cases x8 <;> cases x9 <;> rfl
set_option maxHeartbeats 8000000 in
theorem same_p (k od po : Int) (lp : Option Addr) (ln lcp : Nat) (tp : Option Addr) (tn tcp : Nat) (wp : Option Addr) (wn wcp : Nat) (sk fr to q : Int) (k' od' po' : Int) (lp' : Option Addr) (ln' lcp' : Nat) (tp' : Option Addr) (tn' tcp' : Nat) (wp' : Option Addr) (wn' wcp' : Nat) (sk' fr' to' q' : Int) (L : List Ln) (T : List Tk) (M : List Ln) (L' : List Ln) (T' : List Tk) (M' : List Ln) (W : World) (hP : PgM W lp ln lcp L tp tn tcp T wp wn wcp M) (hP' : PgM W lp' ln' lcp' L' tp' tn' tcp' T' wp' wn' wcp' M') (h1 : ln ≤ 1000 ∧ tn ≤ 1000 ∧ wn ≤ 1000) (h2 : ln' ≤ 1000 ∧ tn' ≤ 1000 ∧ wn' ≤ 1000) :
 Calls Tryz.prog 68 #[.agg #[.int .u8 k, .int .u32 od, .int .u8 po, .slice lp ln lcp, .slice tp tn tcp, .slice wp wn wcp, .int .u8 sk, .int .u8 fr, .int .u8 to, .int .i64 q], .agg #[.int .u8 k', .int .u32 od', .int .u8 po', .slice lp' ln' lcp', .slice tp' tn' tcp', .slice wp' wn' wcp', .int .u8 sk', .int .u8 fr', .int .u8 to', .int .i64 q']] W fun e w' => e = .returned (.bool (decide ((⟨k, od, po, L, T, M, sk, fr, to, q⟩ : Pg) = ⟨k', od', po', L', T', M', sk', fr', to', q'⟩))) ∧ Below W.heap.size W w' := by
 rw [prog_cases, prog_order]
 obtain ⟨W2, hW2, b0, b1, hb⟩ := two_progs W #[.int .u8 k, .int .u32 od, .int .u8 po, .slice lp ln lcp, .slice tp tn tcp, .slice wp wn wcp, .int .u8 sk, .int .u8 fr, .int .u8 to, .int .i64 q] #[.int .u8 k', .int .u32 od', .int .u8 po', .slice lp' ln' lcp', .slice tp' tn' tcp', .slice wp' wn' wcp', .int .u8 sk', .int .u8 fr', .int .u8 to', .int .i64 q']
 have HW := Lib.hid hW2
 have HB := Lib.hid hb
 have HX := Lib.hid b0
 have HY := Lib.hid b1
 have HL := Lib.hid fun w (h : Below W2.heap.size W2 w) => equal_ln lp lp' ln ln' lcp lcp' L L' w ((hP.later hb).l.later h) ((hP'.later hb).l.later h) (by omega) (by omega)
 have HT := Lib.hid fun w (h : Below W2.heap.size W2 w) => equal_tk tp tp' tn tn' tcp tcp' T T' w ((hP.later hb).t.later h) ((hP'.later hb).t.later h) (by omega) (by omega)
 have HM := Lib.hid fun w (h : Below W2.heap.size W2 w) => equal_ln wp wp' wn wn' wcp wcp' M M' w ((hP.later hb).o.later h) ((hP'.later hb).o.later h) (by omega) (by omega)
 have HC := Lib.hid fun w (h : Below W2.heap.size W2 w) => cells_two k od po lp ln lcp tp tn tcp wp wn wcp sk fr to q k' od' po' lp' ln' lcp' tp' tn' tcp' wp' wn' wcp' sk' fr' to' q' (block_later HX.out h) (block_later HY.out h)
 clear hP hP' h1 h2 hb b0 b1 hW2
 cases h0 : (k == k') with
 | false =>
  have HF : Hid (((k == k') && (od == od') && (po == po') && (sk == sk') && (fr == fr') && (to == to') && (q == q') && decide (L = L') && decide (T = T') && decide (M = M')) = false) := Lib.hid (by rw [h0]; simp)
  obtain ⟨a0, a1, a2, a3, a4, a5, a6, a7, a8, a9, b0, b1, b2, b3, b4, b5, b6, b7, b8, b9⟩ := HC.out W2 (Below.refl _ _)
  go_enter Tryz.func68, Tryz.ntmps68
  go_wp2_with fail
  go_ret
  rw [HW.out]
  exact ⟨by first | (rw [HF.out]; rfl) | simp, HB.out⟩
 | true =>
  cases h1 : (od == od') with
  | false =>
   have HF : Hid (((k == k') && (od == od') && (po == po') && (sk == sk') && (fr == fr') && (to == to') && (q == q') && decide (L = L') && decide (T = T') && decide (M = M')) = false) := Lib.hid (by rw [h0, h1]; simp)
   obtain ⟨a0, a1, a2, a3, a4, a5, a6, a7, a8, a9, b0, b1, b2, b3, b4, b5, b6, b7, b8, b9⟩ := HC.out W2 (Below.refl _ _)
   go_enter Tryz.func68, Tryz.ntmps68
   go_wp2_with fail
   go_ret
   rw [HW.out]
   exact ⟨by first | (rw [HF.out]; rfl) | simp, HB.out⟩
  | true =>
   cases h2 : (po == po') with
   | false =>
    have HF : Hid (((k == k') && (od == od') && (po == po') && (sk == sk') && (fr == fr') && (to == to') && (q == q') && decide (L = L') && decide (T = T') && decide (M = M')) = false) := Lib.hid (by rw [h0, h1, h2]; simp)
    obtain ⟨a0, a1, a2, a3, a4, a5, a6, a7, a8, a9, b0, b1, b2, b3, b4, b5, b6, b7, b8, b9⟩ := HC.out W2 (Below.refl _ _)
    go_enter Tryz.func68, Tryz.ntmps68
    go_wp2_with fail
    go_ret
    rw [HW.out]
    exact ⟨by first | (rw [HF.out]; rfl) | simp, HB.out⟩
   | true =>
    cases h3 : (sk == sk') with
    | false =>
     have HF : Hid (((k == k') && (od == od') && (po == po') && (sk == sk') && (fr == fr') && (to == to') && (q == q') && decide (L = L') && decide (T = T') && decide (M = M')) = false) := Lib.hid (by rw [h0, h1, h2, h3]; simp)
     obtain ⟨a0, a1, a2, a3, a4, a5, a6, a7, a8, a9, b0, b1, b2, b3, b4, b5, b6, b7, b8, b9⟩ := HC.out W2 (Below.refl _ _)
     go_enter Tryz.func68, Tryz.ntmps68
     go_wp2_with fail
     go_ret
     rw [HW.out]
     exact ⟨by first | (rw [HF.out]; rfl) | simp, HB.out⟩
    | true =>
     cases h4 : (fr == fr') with
     | false =>
      have HF : Hid (((k == k') && (od == od') && (po == po') && (sk == sk') && (fr == fr') && (to == to') && (q == q') && decide (L = L') && decide (T = T') && decide (M = M')) = false) := Lib.hid (by rw [h0, h1, h2, h3, h4]; simp)
      obtain ⟨a0, a1, a2, a3, a4, a5, a6, a7, a8, a9, b0, b1, b2, b3, b4, b5, b6, b7, b8, b9⟩ := HC.out W2 (Below.refl _ _)
      go_enter Tryz.func68, Tryz.ntmps68
      go_wp2_with fail
      go_ret
      rw [HW.out]
      exact ⟨by first | (rw [HF.out]; rfl) | simp, HB.out⟩
     | true =>
      cases h5 : (to == to') with
      | false =>
       have HF : Hid (((k == k') && (od == od') && (po == po') && (sk == sk') && (fr == fr') && (to == to') && (q == q') && decide (L = L') && decide (T = T') && decide (M = M')) = false) := Lib.hid (by rw [h0, h1, h2, h3, h4, h5]; simp)
       obtain ⟨a0, a1, a2, a3, a4, a5, a6, a7, a8, a9, b0, b1, b2, b3, b4, b5, b6, b7, b8, b9⟩ := HC.out W2 (Below.refl _ _)
       go_enter Tryz.func68, Tryz.ntmps68
       go_wp2_with fail
       go_ret
       rw [HW.out]
       exact ⟨by first | (rw [HF.out]; rfl) | simp, HB.out⟩
      | true =>
       cases h6 : (q == q') with
       | false =>
        have HF : Hid (((k == k') && (od == od') && (po == po') && (sk == sk') && (fr == fr') && (to == to') && (q == q') && decide (L = L') && decide (T = T') && decide (M = M')) = false) := Lib.hid (by rw [h0, h1, h2, h3, h4, h5, h6]; simp)
        obtain ⟨a0, a1, a2, a3, a4, a5, a6, a7, a8, a9, b0, b1, b2, b3, b4, b5, b6, b7, b8, b9⟩ := HC.out W2 (Below.refl _ _)
        go_enter Tryz.func68, Tryz.ntmps68
        go_wp2_with fail
        go_ret
        rw [HW.out]
        exact ⟨by first | (rw [HF.out]; rfl) | simp, HB.out⟩
       | true =>
        cases h7 : decide (L = L') with
        | false =>
         have HF : Hid (((k == k') && (od == od') && (po == po') && (sk == sk') && (fr == fr') && (to == to') && (q == q') && decide (L = L') && decide (T = T') && decide (M = M')) = false) := Lib.hid (by rw [h0, h1, h2, h3, h4, h5, h6, h7]; simp)
         obtain ⟨a0, a1, a2, a3, a4, a5, a6, a7, a8, a9, b0, b1, b2, b3, b4, b5, b6, b7, b8, b9⟩ := HC.out W2 (Below.refl _ _)
         go_enter Tryz.func68, Tryz.ntmps68
         go_wp2_with fail
         rw [HW.out]
         have hc0 := HL.out W2 (Below.refl _ _)
         rw [h7] at hc0
         refine hc0.mono ?_
         rintro e w0 ⟨rfl, hb0⟩
         have HB0 : Hid (Below W2.heap.size W2 w0) := Lib.hid (hb0)
         clear hc0 hb0 a0 a1 a2 a3 a4 a5 a6 a7 a8 a9 b0 b1 b2 b3 b4 b5 b6 b7 b8 b9
         obtain ⟨a0, a1, a2, a3, a4, a5, a6, a7, a8, a9, b0, b1, b2, b3, b4, b5, b6, b7, b8, b9⟩ := HC.out w0 HB0.out
         go_wp2_with fail
         go_ret
         exact ⟨by first | (rw [HF.out]; rfl) | simp, HB.out.trans (HB0.out.mono HB.out.size)⟩
        | true =>
         cases h8 : decide (T = T') with
         | false =>
          have HF : Hid (((k == k') && (od == od') && (po == po') && (sk == sk') && (fr == fr') && (to == to') && (q == q') && decide (L = L') && decide (T = T') && decide (M = M')) = false) := Lib.hid (by rw [h0, h1, h2, h3, h4, h5, h6, h7, h8]; simp)
          obtain ⟨a0, a1, a2, a3, a4, a5, a6, a7, a8, a9, b0, b1, b2, b3, b4, b5, b6, b7, b8, b9⟩ := HC.out W2 (Below.refl _ _)
          go_enter Tryz.func68, Tryz.ntmps68
          go_wp2_with fail
          rw [HW.out]
          have hc0 := HL.out W2 (Below.refl _ _)
          rw [h7] at hc0
          refine hc0.mono ?_
          rintro e w0 ⟨rfl, hb0⟩
          have HB0 : Hid (Below W2.heap.size W2 w0) := Lib.hid (hb0)
          clear hc0 hb0 a0 a1 a2 a3 a4 a5 a6 a7 a8 a9 b0 b1 b2 b3 b4 b5 b6 b7 b8 b9
          obtain ⟨a0, a1, a2, a3, a4, a5, a6, a7, a8, a9, b0, b1, b2, b3, b4, b5, b6, b7, b8, b9⟩ := HC.out w0 HB0.out
          go_wp2_with fail
          have hc1 := HT.out w0 HB0.out
          rw [h8] at hc1
          refine hc1.mono ?_
          rintro e w1 ⟨rfl, hb1⟩
          have HB1 : Hid (Below W2.heap.size W2 w1) := Lib.hid (HB0.out.trans (hb1.mono HB0.out.size))
          clear hc1 hb1 a0 a1 a2 a3 a4 a5 a6 a7 a8 a9 b0 b1 b2 b3 b4 b5 b6 b7 b8 b9
          obtain ⟨a0, a1, a2, a3, a4, a5, a6, a7, a8, a9, b0, b1, b2, b3, b4, b5, b6, b7, b8, b9⟩ := HC.out w1 HB1.out
          go_wp2_with fail
          go_ret
          exact ⟨by first | (rw [HF.out]; rfl) | simp, HB.out.trans (HB1.out.mono HB.out.size)⟩
         | true =>
          cases h9 : decide (M = M') with
          | false =>
           have HF : Hid (((k == k') && (od == od') && (po == po') && (sk == sk') && (fr == fr') && (to == to') && (q == q') && decide (L = L') && decide (T = T') && decide (M = M')) = false) := Lib.hid (by rw [h0, h1, h2, h3, h4, h5, h6, h7, h8, h9]; simp)
           obtain ⟨a0, a1, a2, a3, a4, a5, a6, a7, a8, a9, b0, b1, b2, b3, b4, b5, b6, b7, b8, b9⟩ := HC.out W2 (Below.refl _ _)
           go_enter Tryz.func68, Tryz.ntmps68
           go_wp2_with fail
           rw [HW.out]
           have hc0 := HL.out W2 (Below.refl _ _)
           rw [h7] at hc0
           refine hc0.mono ?_
           rintro e w0 ⟨rfl, hb0⟩
           have HB0 : Hid (Below W2.heap.size W2 w0) := Lib.hid (hb0)
           clear hc0 hb0 a0 a1 a2 a3 a4 a5 a6 a7 a8 a9 b0 b1 b2 b3 b4 b5 b6 b7 b8 b9
           obtain ⟨a0, a1, a2, a3, a4, a5, a6, a7, a8, a9, b0, b1, b2, b3, b4, b5, b6, b7, b8, b9⟩ := HC.out w0 HB0.out
           go_wp2_with fail
           have hc1 := HT.out w0 HB0.out
           rw [h8] at hc1
           refine hc1.mono ?_
           rintro e w1 ⟨rfl, hb1⟩
           have HB1 : Hid (Below W2.heap.size W2 w1) := Lib.hid (HB0.out.trans (hb1.mono HB0.out.size))
           clear hc1 hb1 a0 a1 a2 a3 a4 a5 a6 a7 a8 a9 b0 b1 b2 b3 b4 b5 b6 b7 b8 b9
           obtain ⟨a0, a1, a2, a3, a4, a5, a6, a7, a8, a9, b0, b1, b2, b3, b4, b5, b6, b7, b8, b9⟩ := HC.out w1 HB1.out
           go_wp2_with fail
           have hc2 := HM.out w1 HB1.out
           rw [h9] at hc2
           refine hc2.mono ?_
           rintro e w2 ⟨rfl, hb2⟩
           have HB2 : Hid (Below W2.heap.size W2 w2) := Lib.hid (HB1.out.trans (hb2.mono HB1.out.size))
           clear hc2 hb2 a0 a1 a2 a3 a4 a5 a6 a7 a8 a9 b0 b1 b2 b3 b4 b5 b6 b7 b8 b9
           obtain ⟨a0, a1, a2, a3, a4, a5, a6, a7, a8, a9, b0, b1, b2, b3, b4, b5, b6, b7, b8, b9⟩ := HC.out w2 HB2.out
           go_wp2_with fail
           go_ret
           exact ⟨by first | (rw [HF.out]; rfl) | simp, HB.out.trans (HB2.out.mono HB.out.size)⟩
          | true =>
           have HF : Hid (((k == k') && (od == od') && (po == po') && (sk == sk') && (fr == fr') && (to == to') && (q == q') && decide (L = L') && decide (T = T') && decide (M = M')) = true) := Lib.hid (by rw [h0, h1, h2, h3, h4, h5, h6, h7, h8, h9]; rfl)
           obtain ⟨a0, a1, a2, a3, a4, a5, a6, a7, a8, a9, b0, b1, b2, b3, b4, b5, b6, b7, b8, b9⟩ := HC.out W2 (Below.refl _ _)
           go_enter Tryz.func68, Tryz.ntmps68
           go_wp2_with fail
           rw [HW.out]
           have hc0 := HL.out W2 (Below.refl _ _)
           rw [h7] at hc0
           refine hc0.mono ?_
           rintro e w0 ⟨rfl, hb0⟩
           have HB0 : Hid (Below W2.heap.size W2 w0) := Lib.hid (hb0)
           clear hc0 hb0 a0 a1 a2 a3 a4 a5 a6 a7 a8 a9 b0 b1 b2 b3 b4 b5 b6 b7 b8 b9
           obtain ⟨a0, a1, a2, a3, a4, a5, a6, a7, a8, a9, b0, b1, b2, b3, b4, b5, b6, b7, b8, b9⟩ := HC.out w0 HB0.out
           go_wp2_with fail
           have hc1 := HT.out w0 HB0.out
           rw [h8] at hc1
           refine hc1.mono ?_
           rintro e w1 ⟨rfl, hb1⟩
           have HB1 : Hid (Below W2.heap.size W2 w1) := Lib.hid (HB0.out.trans (hb1.mono HB0.out.size))
           clear hc1 hb1 a0 a1 a2 a3 a4 a5 a6 a7 a8 a9 b0 b1 b2 b3 b4 b5 b6 b7 b8 b9
           obtain ⟨a0, a1, a2, a3, a4, a5, a6, a7, a8, a9, b0, b1, b2, b3, b4, b5, b6, b7, b8, b9⟩ := HC.out w1 HB1.out
           go_wp2_with fail
           have hc2 := HM.out w1 HB1.out
           rw [h9] at hc2
           refine hc2.mono ?_
           rintro e w2 ⟨rfl, hb2⟩
           have HB2 : Hid (Below W2.heap.size W2 w2) := Lib.hid (HB1.out.trans (hb2.mono HB1.out.size))
           clear hc2 hb2 a0 a1 a2 a3 a4 a5 a6 a7 a8 a9 b0 b1 b2 b3 b4 b5 b6 b7 b8 b9
           obtain ⟨a0, a1, a2, a3, a4, a5, a6, a7, a8, a9, b0, b1, b2, b3, b4, b5, b6, b7, b8, b9⟩ := HC.out w2 HB2.out
           go_wp2_with fail
           go_ret
           exact ⟨by first | (rw [HF.out]; rfl) | simp, HB.out.trans (HB2.out.mono HB.out.size)⟩
end Go.Proofs.YtccgjdmbongbaaaGreatDoor
