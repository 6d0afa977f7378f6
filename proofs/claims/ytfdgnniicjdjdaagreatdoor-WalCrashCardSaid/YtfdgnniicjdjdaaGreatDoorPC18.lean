import Derived.Test.YtfdgnniicjdjdaaGreatDoorPC11
import Derived.Test.YtfdgnniicjdjdaaGreatDoorPC17
import Derived.Test.YtfdgnniicjdjdaaGreatDoorPC19
namespace Go.Proofs.YtfdgnniicjdjdaaGreatDoor
open Go.RowKit Go.ChangeShapes Go.WideShapes
set_option linter.unusedVariables false
set_option maxRecDepth 10000
set_option linter.unusedSimpArgs false
def paint (col : Nat → Nat) (n c : Nat) : Nat → Nat := fun k => if k < n then col k else c
theorem paint_old {col : Nat → Nat} {n c k : Nat} (h : k < n) : paint col n c k = col k := if_pos h
theorem paint_new {col : Nat → Nat} {n c k : Nat} (h : n ≤ k) : paint col n c k = c := if_neg (by omega)
def Ext (w : World) (col col' : Nat → Nat) : Prop := ∀ k, k < w.heap.size → col' k = col k
theorem Ext.refl (w : World) (col : Nat → Nat) : Ext w col col := fun _ _ => rfl
theorem Ext.trans {w w' : World} {a b c : Nat → Nat} (h : Ext w a b) (g : Ext w' b c) (hs : w.heap.size ≤ w'.heap.size) : Ext w a c := fun k hk => (g k (Nat.lt_of_lt_of_le hk hs)).trans (h k hk)
theorem Ext.paint (w : World) (col : Nat → Nat) (c : Nat) : Ext w col (paint col w.heap.size c) := fun _ hk => paint_old hk
theorem bl_col {w : World} {p : Option Addr} {n c x : Nat} {L : List Int} {col col' : Nat → Nat} (h : BL w p n c L) (he : Ext w col col') (hc : 0 < n → ∀ a, p = some a → col a.block = x) : 0 < n → ∀ a, p = some a → col' a.block = x := fun h0 a ha => by
 obtain ⟨b, off, hp, hlt, _⟩ := h.at h0
 rw [hp] at ha
 cases ha
 rw [he b hlt]
 exact hc h0 _ hp
structure Pa (w : World) (col : Nat → Nat) (c Bv T s : Nat) (V : List (List Int)) (a : Int) (z : Nat) (t : TS) : Prop where
 vo : ∃ G, Vo w Bv G s V ∧ col G = c
 cv : col Bv = c
 tp : ∃ mb, Tp w T mb (fun k => col k = c + 1) a z t
theorem Pa.keep {w w' : World} {col : Nat → Nat} {c Bv T s z : Nat} {V : List (List Int)} {a : Int} {t : TS} {S : Nat → Prop} (h : Pa w col c Bv T s V a z t) (hc : Chg S w w') (hs : ∀ k, col k = c ∨ col k = c + 1 → ¬ S k) : Pa w' col c Bv T s V a z t := by
 obtain ⟨⟨G, h1, h2⟩, h3, mb, h4⟩ := h
 exact ⟨⟨G, h1.keep hc (hs _ (.inl h3)) (hs _ (.inl h2)), h2⟩, h3, mb, h4.keep hc fun k hk => hs k (.inr hk)⟩
theorem Pa.later {w w' : World} {col : Nat → Nat} {c Bv T s z : Nat} {V : List (List Int)} {a : Int} {t : TS} (h : Pa w col c Bv T s V a z t) (hb : Below w.heap.size w w') : Pa w' col c Bv T s V a z t := h.keep (Chg.of_below (S := fun _ => False) hb) fun _ _ h => h
theorem Pa.recol {w : World} {col col' : Nat → Nat} {c Bv T s z : Nat} {V : List (List Int)} {a : Int} {t : TS} (h : Pa w col c Bv T s V a z t) (he : Ext w col col') : Pa w col' c Bv T s V a z t := by
 obtain ⟨⟨G, h1, h2⟩, h3, mb, h4⟩ := h
 exact ⟨⟨G, h1, (he G (block_lt h1.row)).trans h2⟩, (he Bv (block_lt h1.blk)).trans h3, mb, h4.mono fun k hk hl => (he k hl).trans hk⟩
theorem Pa.z_in {w : World} {col : Nat → Nat} {c Bv T s z : Nat} {V : List (List Int)} {a : Int} {t : TS} (h : Pa w col c Bv T s V a z t) : 64 ≤ z ∧ z ≤ 4096 := by
 obtain ⟨mb, h4⟩ := h.tp
 exact h4.s_in
def Dw.bytes : Dw → List Int
 | .put _ b => b
 | .grow b => b
 | _ => []
structure Pw where
 x : Dw
 p : Option Addr
 c : Nat
def Dw.np : Dw → Prop
 | .put _ _ => False
 | _ => True
def Pw.val : Pw → Value
 | ⟨.put i b, p, c⟩ => .iface 175 (.agg #[.int .i64 i])
 | ⟨.grow b, p, c⟩ => .iface 130 (.agg #[.slice p b.length c])
 | ⟨.drop x, _, _⟩ => .iface 132 (.agg #[.int .i64 x])
 | ⟨.cut x, _, _⟩ => .iface 175 (.agg #[.int .i64 x])
theorem Pw.val_iface (y : Pw) : ∃ t v, y.val = .iface t v := by
 obtain ⟨x, p, c⟩ := y
 cases x <;> exact ⟨_, _, rfl⟩
def ew (y : Pw) : List Value := [y.val]
theorem ew_len (y : Pw) : (ew y).length = 1 := rfl
theorem ew_one (y : Pw) : ∀ u ∈ ew y, u.oneCell' = true := by
 intro u hu
 simp only [ew, List.mem_cons, List.not_mem_nil, or_false] at hu
 subst hu
 obtain ⟨t, v, h⟩ := y.val_iface
 rw [h]
 rfl
abbrev yd : Pw := ⟨.drop 0, none, 0⟩
structure Pw.ok (w : World) (col : Nat → Nat) (y : Pw) : Prop where
 bl : BL w y.p y.x.bytes.length y.c y.x.bytes
 c0 : 0 < y.x.bytes.length → ∀ a, y.p = some a → col a.block = 0
 np : y.x.np
theorem Pw.ok.keep {w w' : World} {col : Nat → Nat} {y : Pw} {S : Nat → Prop} (h : y.ok w col) (hc : Chg S w w') (hs : ∀ k, col k = 0 → ¬ S k) : y.ok w' col := ⟨BL.keep h.bl hc fun h0 a ha => hs _ (h.c0 h0 a ha), h.c0, h.np⟩
theorem Pw.ok.recol {w : World} {col col' : Nat → Nat} {y : Pw} (h : y.ok w col) (he : Ext w col col') : y.ok w col' := ⟨h.bl, bl_col h.bl he h.c0, h.np⟩
structure Pe (w : World) (col : Nat → Nat) (c : Nat) (pv : Value) (L : List Dw) : Prop where
 row : ∃ PL : List Pw, PL.map (·.x) = L ∧ w.ownsRow 0 134 1 pv PL.length (flatG ew PL) ∧ ∀ y ∈ PL, y.ok w col
 at_ : ∀ k, pv.ownBlock = some k → col k = c
theorem own_keep {w w' : World} {T : TypeId} {v : Value} {n : Nat} {cs : List Value} {S : Nat → Prop} (h : w.ownsRow 0 T 1 v n cs) (hc : Chg S w w') (hs : ∀ k, v.ownBlock = some k → ¬ S k) : w'.ownsRow 0 T 1 v n cs := by
 refine ⟨h.1, ?_⟩
 rcases h.2 with hn | ⟨g, cap, cur, rfl, h1, h2, h3⟩
 · exact .inl hn
 · exact .inr ⟨g, cap, cur, rfl, h1, by rw [hc.block g (block_lt h2) (hs g rfl)]; exact h2, h3⟩
theorem Pe.keep {w w' : World} {col : Nat → Nat} {c : Nat} {pv : Value} {L : List Dw} {S : Nat → Prop} (h : Pe w col c pv L) (hc : Chg S w w') (hs : ∀ k, col k = 0 ∨ col k = c → ¬ S k) : Pe w' col c pv L := by
 obtain ⟨⟨PL, h1, h2, h3⟩, h4⟩ := h
 exact ⟨⟨PL, h1, own_keep h2 hc fun k hk => hs k (.inr (h4 k hk)), fun y hy => (h3 y hy).keep hc fun k hk => hs k (.inl hk)⟩, h4⟩
theorem Pe.later {w w' : World} {col : Nat → Nat} {c : Nat} {pv : Value} {L : List Dw} (h : Pe w col c pv L) (hb : Below w.heap.size w w') : Pe w' col c pv L := h.keep (Chg.of_below (S := fun _ => False) hb) fun _ _ h => h
theorem Pe.recol {w : World} {col col' : Nat → Nat} {c : Nat} {pv : Value} {L : List Dw} (h : Pe w col c pv L) (he : Ext w col col') : Pe w col' c pv L := by
 obtain ⟨⟨PL, h1, h2, h3⟩, h4⟩ := h
 exact ⟨⟨PL, h1, h2, fun y hy => (h3 y hy).recol he⟩, fun k hk => (he k (h2.lt k hk).2).trans (h4 k hk)⟩
theorem Pe.nil (w : World) (col : Nat → Nat) (c : Nat) : Pe w col c (.slice none 0 0) [] := ⟨⟨[], rfl, World.ownsRow_nil _ _ _ _, fun y hy => by cases hy⟩, fun k hk => by cases hk⟩
theorem Pe.sl {w : World} {col : Nat → Nat} {c : Nat} {pv : Value} {L : List Dw} (h : Pe w col c pv L) : ∃ p cp PL, pv = .slice p L.length cp ∧ PL.map (·.x) = L ∧ SlG ew 1 yd w p L.length cp PL ∧ (∀ y ∈ PL, y.ok w col) ∧ (0 < L.length → ∀ a, p = some a → col a.block = c) := by
 obtain ⟨⟨PL, h1, h2, h3⟩, h4⟩ := h
 have hl : PL.length = L.length := by rw [← h1, List.length_map]
 rw [hl] at h2
 obtain ⟨p, cp, rfl, hs, _⟩ := SlG.of_own (d := yd) ew_len (by decide) h2
 refine ⟨p, cp, PL, rfl, h1, hs, h3, fun h0 a ha => ?_⟩
 obtain ⟨b, off, hp, _, _⟩ := hs.cell h0
 rw [hp] at ha
 cases ha
 exact h4 b (by rw [hp]; rfl)
structure Ad where
 Bv : Nat
 T : Nat
 Bv' : Nat
 T' : Nat
 pv : Value
abbrev dcells (M : Nat) (A : Ad) : Array Value := #[.int .i64 (M : Nat), .pointer (some ⟨A.Bv, 0, none⟩), .pointer (some ⟨A.T, 0, none⟩), .pointer (some ⟨A.Bv', 0, none⟩), .pointer (some ⟨A.T', 0, none⟩), A.pv]
structure Dka (w : World) (col : Nat → Nat) (c B : Nat) (A : Ad) (d : DS) : Prop where
 c0 : 1 ≤ c
 blk : w.heap[B]? = some (.cells (dcells d.M A) 114 (0, 0))
 cB : col B = c
 pe : Pe w col (c + 1) A.pv d.L
 seen : Pa w col (c + 2) A.Bv A.T d.s d.sV d.a d.z d.sT
 sure : Pa w col (c + 4) A.Bv' A.T' d.s d.V d.a d.z d.t
 most : d.M ≤ 1048576
def Dk (w : World) (col : Nat → Nat) (c B : Nat) (d : DS) : Prop := ∃ A, Dka w col c B A d
def own (col : Nat → Nat) (c : Nat) (k : Nat) : Prop := c ≤ col k ∧ col k < c + 6
theorem Dka.keep {w w' : World} {col : Nat → Nat} {c B : Nat} {A : Ad} {d : DS} {S : Nat → Prop} (h : Dka w col c B A d) (hc : Chg S w w') (hs : ∀ k, col k = 0 ∨ own col c k → ¬ S k) : Dka w' col c B A d := by
 have hB : own col c B := by have := h.cB; unfold own; omega
 refine ⟨h.c0, (hc.block B (block_lt h.blk) (hs B (.inr hB))).trans h.blk, h.cB, h.pe.keep hc fun k hk => hs k ?_, h.seen.keep hc fun k hk => hs k (.inr (by unfold own; omega)), h.sure.keep hc fun k hk => hs k (.inr (by unfold own; omega)), h.most⟩
 rcases hk with hk | hk
 · exact .inl hk
 · exact .inr (by unfold own; omega)
theorem Dka.later {w w' : World} {col : Nat → Nat} {c B : Nat} {A : Ad} {d : DS} (h : Dka w col c B A d) (hb : Below w.heap.size w w') : Dka w' col c B A d := h.keep (Chg.of_below (S := fun _ => False) hb) fun _ _ h => h
theorem Dka.recol {w : World} {col col' : Nat → Nat} {c B : Nat} {A : Ad} {d : DS} (h : Dka w col c B A d) (he : Ext w col col') : Dka w col' c B A d :=
 ⟨h.c0, h.blk, (he B (block_lt h.blk)).trans h.cB, h.pe.recol he, h.seen.recol he, h.sure.recol he, h.most⟩
theorem Dk.keep {w w' : World} {col : Nat → Nat} {c B : Nat} {d : DS} {S : Nat → Prop} (h : Dk w col c B d) (hc : Chg S w w') (hs : ∀ k, col k = 0 ∨ own col c k → ¬ S k) : Dk w' col c B d := by
 obtain ⟨A, h⟩ := h
 exact ⟨A, h.keep hc hs⟩
theorem Dk.later {w w' : World} {col : Nat → Nat} {c B : Nat} {d : DS} (h : Dk w col c B d) (hb : Below w.heap.size w w') : Dk w' col c B d := h.keep (Chg.of_below (S := fun _ => False) hb) fun _ _ h => h
theorem Dk.recol {w : World} {col col' : Nat → Nat} {c B : Nat} {d : DS} (h : Dk w col c B d) (he : Ext w col col') : Dk w col' c B d := by
 obtain ⟨A, h⟩ := h
 exact ⟨A, h.recol he⟩
theorem Dk.z_in {w : World} {col : Nat → Nat} {c B : Nat} {d : DS} (h : Dk w col c B d) : 64 ≤ d.z ∧ d.z ≤ 4096 := by
 obtain ⟨A, h⟩ := h
 exact h.seen.z_in
theorem Dka.cells {w : World} {col : Nat → Nat} {c B : Nat} {A : Ad} {d : DS} (h : Dka w col c B A d) : w.cell? ⟨B, 0, none⟩ = some (.int .i64 (d.M : Nat)) ∧ w.cell? ⟨B, 1, none⟩ = some (.pointer (some ⟨A.Bv, 0, none⟩)) ∧ w.cell? ⟨B, 2, none⟩ = some (.pointer (some ⟨A.T, 0, none⟩)) ∧
 w.cell? ⟨B, 3, none⟩ = some (.pointer (some ⟨A.Bv', 0, none⟩)) ∧ w.cell? ⟨B, 4, none⟩ = some (.pointer (some ⟨A.T', 0, none⟩)) ∧ w.cell? ⟨B, 5, none⟩ = some A.pv :=
 ⟨block_cell h.blk rfl, block_cell h.blk rfl, block_cell h.blk rfl, block_cell h.blk rfl, block_cell h.blk rfl, block_cell h.blk rfl⟩
def Turned (w : World) (col : Nat → Nat) (c B : Nat) (d : DS) (w' : World) : Prop := ∃ col', Ext w col col' ∧ Dk w' col' c B d ∧ Chg (own col c) w w'
theorem infoWrite : (Tryz.prog.info? 134).map (fun i => (i.zero, i.size, i.bytes)) = some (some .nilIface, 1, 16) := by kernel_rfl
theorem flatW_len (L : List Pw) : (flatG ew L).length = L.length := by rw [flatG_len (k := 1) ew_len, Nat.mul_one]
theorem flatW_at (L : List Pw) {j : Nat} (hj : j < L.length) : (flatG ew L)[j]? = (ew (L.getD j yd))[0]? := by
 have := flatG_at (k := 1) (d := yd) ew_len L j 0 hj (by omega)
 rwa [Nat.mul_one, Nat.add_zero] at this
theorem SlW_at {w : World} {p : Option Addr} {m c : Nat} {M : List Pw} (h : SlG ew 1 yd w p m c M) {j : Nat} (hj : j < m) : ∃ b off, p = some ⟨b, off, none⟩ ∧ b < w.heap.size ∧ w.cell? ⟨b, off + j, none⟩ = some (M.getD j yd).val := by
 obtain ⟨b, off, hp, hlt, hc⟩ := h.cell (by omega)
 have := hc j hj 0 _ rfl
 rw [Nat.mul_one, Nat.add_zero] at this
 exact ⟨b, off, hp, hlt, this⟩
theorem run_append_w {w : World} {v : Value} {n : Nat} {L : List Pw} (hr : w.ownsRow 0 134 1 v n (flatG ew L)) {p : Option Addr} {m c : Nat} {M : List Pw} (hM : SlG ew 1 yd w p m c M) (hbig : n + m ≤ 1000000) (ty : TypeId) :
 ∃ p' c' w', (Builtin.append_ #[112, 112] ty #[v, .slice p m c]).run Tryz.prog w = .ok (.slice p' (n + m) c') w' ∧ w'.ownsRow 0 134 1 (.slice p' (n + m) c') (n + m) (flatG ew (L ++ M)) ∧ Chg (fun k => v.ownBlock = some k) w w' ∧
  (∀ k, (Value.slice p' (n + m) c').ownBlock = some k → v.ownBlock = some k ∨ w.heap.size ≤ k) := by
 obtain ⟨i, hi, hz0, hz1, hz2⟩ := info_parts infoWrite
 cases p with
 | none =>
  obtain rfl := hM.nil rfl
  obtain rfl : m = 0 := Nat.le_zero.1 hM.cap
  obtain rfl : M = [] := List.eq_nil_of_length_eq_zero hM.len
  have hrun := run_append_owned_none (P := Tryz.prog) (w := w) 0 112 ty 134 i 1 Tryz.underlying112 hi v n (flatG ew L) hr
  rcases hr.2 with ⟨rfl, rfl⟩ | ⟨g, cap, cur, rfl, h1, h2, h3⟩
  · exact ⟨none, 0, w, hrun, by simpa using hr, Chg.refl _ _, fun k hk => .inl hk⟩
  · exact ⟨_, cap, w, hrun, by simpa using hr, Chg.refl _ _, fun k hk => .inl hk⟩
 | some ad =>
  have hnews : ∀ j u, (flatG ew M)[j]? = some u → w.cell? (ad.add j) = some u := by
   intro j u hu
   have hj : j < m := by
    rcases Nat.lt_or_ge j m with h | h
    · exact h
    · rw [List.getElem?_eq_none (by rw [flatW_len, hM.len]; exact h)] at hu; cases hu
   obtain ⟨b, off, hp, _, hc⟩ := SlW_at hM hj
   cases hp
   rw [flatW_at M (by rw [hM.len]; exact hj)] at hu
   rw [Go.WideShapes.add_plain, hc]
   exact hu
  obtain ⟨v', w', hrun, h1, h2, h3, h4⟩ := run_append_own_at (P := Tryz.prog) w 0 112 ty 134 i .nilIface 1 16 Tryz.underlying112 hi hz0 hz1 hz2 rfl (by decide) v n (flatG ew L) hr ad m c (flatG ew M) (by rw [flatW_len, hM.len, Nat.mul_one]) hnews (flatG_all ew_one M) (by unfold maxLen; omega) (by omega) (Nat.zero_le _)
  rw [← flatG_append] at h1
  have hv : ∃ p' c', v' = .slice p' (n + m) c' := by
   rcases h1.2 with ⟨h5, h6⟩ | ⟨g, cap, cur, h5, _⟩
   · exact ⟨none, 0, by rw [h5, h6]⟩
   · exact ⟨_, _, h5⟩
  obtain ⟨p', c', rfl⟩ := hv
  refine ⟨p', c', w', hrun, h1, Chg.mono (Chg.of_grown h2) (fun k _ h => h), fun k hk => ?_⟩
  rcases h4 with h4 | h4
  · exact .inl (h4 ▸ hk)
  · rw [h4] at hk
    cases hk
    exact .inr (Nat.le_refl _)
theorem wpList_append_w {w : World} {ops : Array Oper} {rest : List Oper} {o : Oper} {a : Act} {Q : Exit → Act → World → Prop} (hgd : o.guard = none) (s x : Operand)
 (ho : o.op = .call { callee := .builtin .append, args := #[s, x], argTypes := #[112, 112] })
 (v : Value) (n : Nat) (L : List Pw) (hs : a.eval s = v) (hr : w.ownsRow 0 134 1 v n (flatG ew L)) (p : Option Addr) (m c : Nat) (M : List Pw) (hx : a.eval x = .slice p m c) (hM : SlG ew 1 yd w p m c M) (hbig : n + m ≤ 1000000)
 (h : ∀ p' c' w', w'.ownsRow 0 134 1 (.slice p' (n + m) c') (n + m) (flatG ew (L ++ M)) → Chg (fun k => v.ownBlock = some k) w w' → (∀ k, (Value.slice p' (n + m) c').ownBlock = some k → v.ownBlock = some k ∨ w.heap.size ≤ k) → wpList Tryz.prog ops Q rest (a.put o.dst (.slice p' (n + m) c')) w') :
 wpList Tryz.prog ops Q (o :: rest) a w := by
 refine wpList_plain hgd fun K hK => ?_
 obtain ⟨p', c', w', hrun, h1, h2, h3⟩ := run_append_w hr hM hbig o.type
 unfold Oper.wp execOp
 simp only [ho, resolve, invoke, builtin, Sem.run_bind, Sem.run_pure, Result.andThen_ok, List.map_toArray, List.map_cons, List.map_nil, hs, hx, hrun]
 exact hK _ _ (h p' c' w' h1 h2 h3)
theorem disk_kept (x hi : Int) (w : World) (h0 : 0 ≤ hi) : Calls Tryz.prog 54 #[.int .i64 x, .int .i64 hi] w fun e w' => e = .returned (.int .i64 (kp x hi : Nat)) ∧ w' = w := by
 have hk : (if hi < (if x < 0 then 0 else x) then hi else (if x < 0 then 0 else x)) = ((kp x hi : Nat) : Int) := by unfold kp; split <;> split <;> omega
 have hk2 : min (max x 0) hi = ((kp x hi : Nat) : Int) := by unfold kp; omega
 have hk3 : min hi (max x 0) = ((kp x hi : Nat) : Int) := by unfold kp; omega
 generalize kp x hi = y at *
 go_enter Tryz.func54, Tryz.ntmps54
 go_wp2_with fail
 all_goals (go_ret; exact ⟨rfl, rfl⟩)
theorem parts_tape (x y : Option Addr) (w : World) : (Instr.field 109 (.agg #[.pointer x, .pointer y]) 1).run Tryz.prog w = .ok (.pointer y) w := by kernel_rfl
theorem look_any {w : World} {col : Nat → Nat} {c B : Nat} {A : Ad} {d : DS} (h : Dka w col c B A d) : Calls Tryz.prog 76 #[.pointer (some ⟨B, 0, none⟩)] w fun e w' => e = .returned (.agg #[.pointer (some ⟨A.Bv, 0, none⟩), .pointer (some ⟨A.T, 0, none⟩)]) ∧ Below w.heap.size w w' := by
 obtain ⟨_, c1, c2, _, _, _⟩ := h.cells
 have HA := Lib.hid (alloc_block w (.cells #[.pointer (some ⟨A.Bv, 0, none⟩), .pointer (some ⟨A.T, 0, none⟩)] 109))
 have HB : Hid (Below w.heap.size w (w.alloc (.cells #[.pointer (some ⟨A.Bv, 0, none⟩), .pointer (some ⟨A.T, 0, none⟩)] 109))) := Lib.hid ((Below.refl _ _).alloc (Nat.le_refl _) _)
 have hlt := block_lt h.blk
 clear h
 go_enter Tryz.func76, Tryz.ntmps76
 go_wp2_with fail
 refine bodyPost_ret (v := .agg #[.pointer (some ⟨A.Bv, 0, none⟩), .pointer (some ⟨A.T, 0, none⟩)]) ?_ rfl ⟨rfl, HB.out⟩
 exact results_cell_row rfl _ _ w.heap.size 109 _ (0, 0) _ rfl HA.out Tryz.underlying109 rfl (by kernel_rfl)
section
variable {w : World} {col : Nat → Nat} {c B : Nat} {d : DS}
theorem disk_first (h : Dk w col c B d) : Calls Tryz.prog 57 #[.pointer (some ⟨B, 0, none⟩)] w fun e w' => e = .returned (.int .i64 (d.sT.f * d.z : Nat)) ∧ Below w.heap.size w w' := by
 obtain ⟨A, h⟩ := h
 have hl := look_any h
 have HS := Lib.hid h.seen
 obtain ⟨x0, hx0⟩ : ∃ x0, d.sT.f * d.z = x0 := ⟨_, rfl⟩
 rw [hx0]
 have HX := Lib.hid hx0
 clear h hx0
 have hpv := parts_tape
 go_enter Tryz.func57, Tryz.ntmps57
 go_wp2_with fail
 refine hl.mono ?_
 rintro e w1 ⟨rfl, hb⟩
 have HB := Lib.hid hb
 obtain ⟨_, _, mb, ht⟩ := HS.out.later hb
 have hc := tape_first ht
 clear ht
 rw [HX.out] at hc
 clear hl hb
 go_wp2_with fail
 refine hc.mono ?_
 rintro e w2 ⟨rfl, rfl⟩
 go_wp2_with fail
 go_ret
 exact ⟨rfl, HB.out⟩
theorem disk_end (h : Dk w col c B d) : Calls Tryz.prog 39 #[.pointer (some ⟨B, 0, none⟩)] w fun e w' => e = .returned (.int .i64 (d.sT.f * d.z + d.sT.B.length : Nat)) ∧ Below w.heap.size w w' := by
 obtain ⟨A, h⟩ := h
 have hl := look_any h
 have HS := Lib.hid h.seen
 obtain ⟨x0, hx0⟩ : ∃ x0, d.sT.f * d.z + d.sT.B.length = x0 := ⟨_, rfl⟩
 rw [hx0]
 have HX := Lib.hid hx0
 clear h hx0
 have hpv := parts_tape
 go_enter Tryz.func39, Tryz.ntmps39
 go_wp2_with fail
 refine hl.mono ?_
 rintro e w1 ⟨rfl, hb⟩
 have HB := Lib.hid hb
 obtain ⟨_, _, mb, ht⟩ := HS.out.later hb
 have hc := tape_end ht
 clear ht
 rw [HX.out] at hc
 clear hl hb
 go_wp2_with fail
 refine hc.mono ?_
 rintro e w2 ⟨rfl, rfl⟩
 go_wp2_with fail
 go_ret
 exact ⟨rfl, HB.out⟩
theorem disk_bytes (h : Dk w col c B d) (hbig : d.sT.len d.z ≤ 1000000) (x : Int) : Calls Tryz.prog 34 #[.pointer (some ⟨B, 0, none⟩), .int .i64 x] w (GivesBD w (bytesT d.z d.sT x)) := by
 obtain ⟨A, h⟩ := h
 have hl := look_any h
 have HS := Lib.hid h.seen
 clear h
 have hpv := parts_tape
 go_enter Tryz.func34, Tryz.ntmps34
 go_wp2_with fail
 refine hl.mono ?_
 rintro e w1 ⟨rfl, hb⟩
 have HB := Lib.hid hb
 obtain ⟨_, _, mb, ht⟩ := HS.out.later hb
 have hc := tape_bytes ht hbig x
 clear hl hb ht
 go_wp2_with fail
 refine hc.mono ?_
 rintro e w2 ⟨p, cp, rfl, h1, h2, h3⟩
 have HX : Hid (GivesBD w (bytesT d.z d.sT x) (.returned (.slice p (bytesT d.z d.sT x).length cp)) w2) := Lib.hid ⟨p, cp, rfl, h1, HB.out.trans (h2.mono HB.out.size), fun a ha => Nat.le_trans HB.out.size (h3 a ha)⟩
 clear h1 h2 h3 hc
 generalize bytesT d.z d.sT x = L0 at *
 generalize hn : L0.length = n0 at *
 go_wp2_with fail
 go_ret
 exact HX.out
end
def WroteD (w : World) (col : Nat → Nat) (c Bv T s : Nat) (V : List (List Int)) (a : Int) (z : Nat) (t : TS) (e : Ending) (w' : World) : Prop :=
 e = .returned (.tuple #[]) ∧ (∃ col', Ext w col col' ∧ Pa w' col' c Bv T s V a z t) ∧ Chg (fun k => col k = c ∨ col k = c + 1) w w'
abbrev pcells (Bv T : Nat) : Array Value := #[.pointer (some ⟨Bv, 0, none⟩), .pointer (some ⟨T, 0, none⟩)]
theorem two_boxes (w : World) (x y : Array Value) (S T : TypeId) : ((w.alloc (.cells x S)).alloc (.cells y T)).heap[w.heap.size]? = some (.cells x S (0, 0)) ∧ ((w.alloc (.cells x S)).alloc (.cells y T)).heap[w.heap.size + 1]? = some (.cells y T (0, 0)) ∧
 Below w.heap.size w ((w.alloc (.cells x S)).alloc (.cells y T)) := by
 have hs : (w.alloc (.cells x S)).heap.size = w.heap.size + 1 := by simp
 have h2 := alloc_block (w.alloc (.cells x S)) (.cells y T)
 rw [hs] at h2
 exact ⟨block_later (alloc_block w _) ((Below.refl _ _).alloc (Nat.le_refl _) _), h2, ((Below.refl _ _).alloc (Nat.le_refl _) _).alloc (by omega) _⟩
theorem Chg.undrew1 {S : Nat → Prop} {a w : World} (h : Chg S a.drew w) : Chg S a w := ⟨h.os, h.tape, h.output, h.size, h.block⟩
section
variable {w : World} {col : Nat → Nat} {c Bv T s z : Nat} {V : List (List Int)} {a : Int} {t : TS}
theorem Pa.tape {w1 w2 : World} {mb' : Option Nat} {t' : TS} (h : Pa w col c Bv T s V a z t) (hb : Below w.heap.size w w1) (ht : Tp w2 T mb' (fun k => col k = c + 1 ∨ w1.heap.size ≤ k) a z t') (hc : Chg (fun k => col k = c + 1) w1 w2) : (∃ col', Ext w col col' ∧ Pa w2 col' c Bv T s V a z t') ∧ Chg (fun k => col k = c ∨ col k = c + 1) w w2 := by
 refine ⟨⟨paint col w.heap.size (c + 1), Ext.paint w col (c + 1), ?_⟩, (Chg.of_below hb).trans hc fun k _ e => .inr e⟩
 have h1 := h.recol (Ext.paint w col (c + 1))
 have h2 := h1.vo
 obtain ⟨G, hv, hG⟩ := h2
 have hBlt := block_lt hv.blk
 have hGlt := block_lt hv.row
 have hs := hb.size
 rw [paint_old hGlt] at hG
 have hcv := h1.cv
 rw [paint_old hBlt] at hcv
 refine ⟨⟨G, (hv.later hb).keep hc (by omega) (by omega), by rw [paint_old hGlt]; exact hG⟩, by rw [paint_old hBlt]; exact hcv, mb', ht.mono fun k hk hl => ?_⟩
 rcases hk with hk | hk
 · by_cases h3 : k < w.heap.size
   · rw [paint_old h3]; exact hk
   · rw [paint_new (by omega)]
 · rw [paint_new (by omega)]
theorem dgrow_whole (h : Pa w col c Bv T s V a z t) (p : Option Addr) (m cp : Nat) (b : List Int) (hb : BL w p m cp b) (h0 : 0 < m → ∀ a, p = some a → col a.block = 0) (hbig : t.len z + m ≤ 1000000) :
 Calls Tryz.prog 219 #[.agg #[.slice p m cp], .agg #[.pointer (some ⟨Bv, 0, none⟩), .pointer (some ⟨T, 0, none⟩)]] w (WroteD w col c Bv T s V a z (appT t b)) := by
 obtain ⟨g0, g1, hbw⟩ := two_boxes w #[.slice p m cp] (pcells Bv T) 130 109
 obtain ⟨mb, ht⟩ := h.tp
 have hadd := tape_add (ht.later hbw) p m cp b (SlG.later hb hbw) (fun hm a ha e => by have := h0 hm a ha; rw [this] at e; omega) hbig
 have H := Lib.hid h
 have HB := Lib.hid hbw
 clear g0 g1 hb h0 hbw h ht
 go_enter Tryz.func219, Tryz.ntmps219
 go_wp2_with fail
 refine hadd.mono ?_
 rintro e w2 ⟨rfl, ⟨mb', ht2⟩, hc2⟩
 have HX := Lib.hid (H.out.tape HB.out ht2 hc2)
 clear ht2 hc2 hadd
 go_wp2_with fail
 go_end0
 exact ⟨rfl, HX.out.1, HX.out.2⟩
set_option maxHeartbeats 1000000 in
theorem dgrow_torn (h : Pa w col c Bv T s V a z t) (p : Option Addr) (m cp : Nat) (b : List Int) (hb : BL w p m cp b) (h0 : 0 < m → ∀ a, p = some a → col a.block = 0) (hbig : t.len z + m ≤ 1000000) (n : Int) :
 Calls Tryz.prog 218 #[.agg #[.slice p m cp], .agg #[.pointer (some ⟨Bv, 0, none⟩), .pointer (some ⟨T, 0, none⟩)], .int .i64 n] w (WroteD w col c Bv T s V a z (appT t (b.take (kp n m)))) := by
 obtain ⟨g0, g1, hbw⟩ := two_boxes w #[.slice p m cp] (pcells Bv T) 130 109
 obtain ⟨mb, ht⟩ := h.tp
 have hkm : kp n m ≤ m := by have := kp_le n m (by omega); omega
 have HK := Lib.hid fun w => disk_kept n (m : Nat) w (by omega)
 have hcap := hb.cap
 have hadd := fun k => tape_add ((ht.later hbw).drewN k) p (kp n m) cp (b.take (kp n m)) (SlG.take (SlG.later hb (below_drewN hbw k)) _ hkm) (fun hm a ha e => by have := h0 (by omega) a ha; rw [this] at e; omega) (by have : t.f * z + t.B.length = t.len z := rfl; omega)
 have HADD := Lib.hid hadd
 have H := Lib.hid h
 have HB := Lib.hid hbw
 have a0 : ((w.alloc (.cells #[.slice p m cp] 130)).alloc (.cells (pcells Bv T) 109)).cell? ⟨w.heap.size, 0, none⟩ = some (.slice p m cp) := block_cell g0 rfl
 have a1 : ((w.alloc (.cells #[.slice p m cp] 130)).alloc (.cells (pcells Bv T) 109)).cell? ⟨w.heap.size + 1, 1, none⟩ = some (.pointer (some ⟨T, 0, none⟩)) := block_cell g1 rfl
 clear g0 g1 hb h0 hbw h ht hadd
 generalize appT t (b.take (kp n m)) = t' at *
 generalize kp n m = k at *
 have hk1 : (k : Int) ≤ m := by omega
 have hk2 : (k : Int) ≤ cp := by omega
 go_enter Tryz.func218, Tryz.ntmps218
 go_wp2_with fail
 generalize (w.alloc (.cells #[.slice p m cp] 130)).alloc (.cells (pcells Bv T) 109) = W at *
 go_still_tail 10, (by kernel_rfl)
 repeat still_step
 still_call (HK.out _)
 repeat still_step
 refine wpStill_nil ?_
 change wpList _ _ _ _ _ W.drew
 go_wp2_with fail
 have hadd := HADD.out 1
 rw [show W.drewN 1 = W.drew from rfl] at hadd
 refine hadd.mono ?_
 rintro e w2 ⟨rfl, ⟨mb', ht2⟩, hc2⟩
 have HX := Lib.hid (H.out.tape HB.out ht2 hc2.undrew1)
 clear ht2 hc2 hadd
 go_wp2_with fail
 go_end0
 exact ⟨rfl, HX.out.1, HX.out.2⟩
theorem ddrop_whole (h : Pa w col c Bv T s V a z t) (x : Int) (hbig : t.len z ≤ 1000000) :
 Calls Tryz.prog 221 #[.agg #[.int .i64 x], .agg #[.pointer (some ⟨Bv, 0, none⟩), .pointer (some ⟨T, 0, none⟩)]] w (WroteD w col c Bv T s V a z (dropT z t x)) := by
 obtain ⟨g0, g1, hbw⟩ := two_boxes w #[.int .i64 x] (pcells Bv T) 132 109
 obtain ⟨mb, ht⟩ := h.tp
 have hdo := tape_drop (ht.later hbw) x hbig
 have H := Lib.hid h
 have HB := Lib.hid hbw
 clear g0 g1 hbw h ht
 go_enter Tryz.func221, Tryz.ntmps221
 go_wp2_with fail
 refine hdo.mono ?_
 rintro e w2 ⟨rfl, ht2, hc2⟩
 have HX := Lib.hid (H.out.tape HB.out (ht2.mono fun k hk _ => .inl hk) hc2)
 clear ht2 hc2 hdo
 go_wp2_with fail
 go_end0
 exact ⟨rfl, HX.out.1, HX.out.2⟩
theorem ddrop_torn (h : Pa w col c Bv T s V a z t) (x n : Int) :
 Calls Tryz.prog 220 #[.agg #[.int .i64 x], .agg #[.pointer (some ⟨Bv, 0, none⟩), .pointer (some ⟨T, 0, none⟩)], .int .i64 n] w (WroteD w col c Bv T s V a z t) := by
 obtain ⟨g0, g1, hbw⟩ := two_boxes w #[.int .i64 x] (pcells Bv T) 132 109
 have HX : Hid ((∃ col', Ext w col col' ∧ Pa _ col' c Bv T s V a z t) ∧ Chg (fun k => col k = c ∨ col k = c + 1) w _) := Lib.hid ⟨⟨col, Ext.refl _ _, h.later hbw⟩, Chg.of_below hbw⟩
 clear g0 g1 hbw h
 go_enter Tryz.func220, Tryz.ntmps220
 go_wp2_with fail
 go_end0
 exact ⟨rfl, HX.out.1, HX.out.2⟩
theorem dcut_whole (h : Pa w col c Bv T s V a z t) (x : Int) (hbig : t.len z ≤ 1000000) :
 Calls Tryz.prog 223 #[.agg #[.int .i64 x], .agg #[.pointer (some ⟨Bv, 0, none⟩), .pointer (some ⟨T, 0, none⟩)]] w (WroteD w col c Bv T s V a z (cutT z t x)) := by
 obtain ⟨g0, g1, hbw⟩ := two_boxes w #[.int .i64 x] (pcells Bv T) 175 109
 obtain ⟨mb, ht⟩ := h.tp
 have hdo := tape_cut (ht.later hbw) x hbig
 have H := Lib.hid h
 have HB := Lib.hid hbw
 clear g0 g1 hbw h ht
 go_enter Tryz.func223, Tryz.ntmps223
 go_wp2_with fail
 refine hdo.mono ?_
 rintro e w2 ⟨rfl, ht2, hc2⟩
 have HX := Lib.hid (H.out.tape HB.out (ht2.mono fun k hk _ => .inl hk) hc2)
 clear ht2 hc2 hdo
 go_wp2_with fail
 go_end0
 exact ⟨rfl, HX.out.1, HX.out.2⟩
theorem dcut_torn (h : Pa w col c Bv T s V a z t) (x n : Int) :
 Calls Tryz.prog 222 #[.agg #[.int .i64 x], .agg #[.pointer (some ⟨Bv, 0, none⟩), .pointer (some ⟨T, 0, none⟩)], .int .i64 n] w (WroteD w col c Bv T s V a z t) := by
 obtain ⟨g0, g1, hbw⟩ := two_boxes w #[.int .i64 x] (pcells Bv T) 175 109
 have HX : Hid ((∃ col', Ext w col col' ∧ Pa _ col' c Bv T s V a z t) ∧ Chg (fun k => col k = c ∨ col k = c + 1) w _) := Lib.hid ⟨⟨col, Ext.refl _ _, h.later hbw⟩, Chg.of_below hbw⟩
 clear g0 g1 hbw h
 go_enter Tryz.func222, Tryz.ntmps222
 go_wp2_with fail
 go_end0
 exact ⟨rfl, HX.out.1, HX.out.2⟩
def wty : Dw → TypeId
 | .put _ _ => 175
 | .grow _ => 130
 | .drop _ => 132
 | .cut _ => 175
def wval : Pw → Value
 | ⟨.put i b, p, c⟩ => .agg #[.int .i64 i]
 | ⟨.grow b, p, c⟩ => .agg #[.slice p b.length c]
 | ⟨.drop x, _, _⟩ => .agg #[.int .i64 x]
 | ⟨.cut x, _, _⟩ => .agg #[.int .i64 x]
theorem Pw.val_eq (y : Pw) : y.val = .iface (wty y.x) (wval y) := by
 obtain ⟨x, p, c⟩ := y
 cases x <;> rfl
def wholeF : Dw → FuncId
 | .put _ _ => 223
 | .grow _ => 219
 | .drop _ => 221
 | .cut _ => 223
def tornF : Dw → FuncId
 | .put _ _ => 222
 | .grow _ => 218
 | .drop _ => 220
 | .cut _ => 222
theorem whole_meth (y : Pw) (n : Nat) (w : World) : (method (n + 1) (wty y.x) (wval y) "pledge/disk.whole").run Tryz.prog w = .ok (wholeF y.x, wval y) w := by
 obtain ⟨x, p, c⟩ := y
 cases x <;> kernel_rfl
theorem torn_meth (y : Pw) (n : Nat) (w : World) : (method (n + 1) (wty y.x) (wval y) "pledge/disk.torn").run Tryz.prog w = .ok (tornF y.x, wval y) w := by
 obtain ⟨x, p, c⟩ := y
 cases x <;> kernel_rfl
theorem whole_ahead (y : Pw) (n : Nat) (w : World) : (nilAhead (n + 1) (wty y.x) (wval y) "pledge/disk.whole").run Tryz.prog w = .ok (some false) w := by
 obtain ⟨x, p, c⟩ := y
 cases x <;> kernel_rfl
theorem whole_enter (x : Dw) (args : Array Value) (w : World) : (callFunc (wholeF x) args).run Tryz.prog w = .ok (.enter (wholeF x) args) w := by
 cases x <;> kernel_rfl
theorem torn_enter (x : Dw) (args : Array Value) (w : World) : (callFunc (tornF x) args).run Tryz.prog w = .ok (.enter (tornF x) args) w := by
 cases x <;> kernel_rfl
theorem whole_any (h : Pa w col c Bv T s V a z t) (hc : 1 ≤ c) (y : Pw) (hy : y.ok w col) (hbig : t.len z + y.x.wt ≤ 1000000) :
 Calls Tryz.prog (wholeF y.x) #[wval y, .agg #[.pointer (some ⟨Bv, 0, none⟩), .pointer (some ⟨T, 0, none⟩)]] w (WroteD w col c Bv T s (dwV s V y.x) a z (dwT z t y.x)) := by
 obtain ⟨x, p, cp⟩ := y
 cases x with
 | put i b => exact hy.np.elim
 | grow b => exact dgrow_whole h p _ cp b hy.bl hy.c0 hbig
 | drop x => exact ddrop_whole h x (by simp only [Dw.wt] at hbig; omega)
 | cut x => exact dcut_whole h x (by simp only [Dw.wt] at hbig; omega)
theorem torn_any (h : Pa w col c Bv T s V a z t) (hc : 1 ≤ c) (y : Pw) (hy : y.ok w col) (hbig : t.len z + y.x.wt ≤ 1000000) (n : Int) :
 Calls Tryz.prog (tornF y.x) #[wval y, .agg #[.pointer (some ⟨Bv, 0, none⟩), .pointer (some ⟨T, 0, none⟩)], .int .i64 n] w (WroteD w col c Bv T s (dwVn s n V y.x) a z (dwTn n t y.x)) := by
 obtain ⟨x, p, cp⟩ := y
 cases x with
 | put i b => exact hy.np.elim
 | grow b => exact dgrow_torn h p _ cp b hy.bl hy.c0 hbig n
 | drop x => exact ddrop_torn h x n
 | cut x => exact dcut_torn h x n
end
structure Dkh (w : World) (col : Nat → Nat) (c B : Nat) (A : Ad) (d : DS) (V : List (List Int)) (t : TS) : Prop where
 c0 : 1 ≤ c
 blk : w.heap[B]? = some (.cells (dcells d.M A) 114 (0, 0))
 cB : col B = c
 pe : Pe w col (c + 1) A.pv d.L
 seen : Pa w col (c + 2) A.Bv A.T d.s V d.a d.z t
 sure : Pa w col (c + 4) A.Bv' A.T' d.s d.V d.a d.z d.t
 most : d.M ≤ 1048576
theorem Dka.half {w : World} {col : Nat → Nat} {c B : Nat} {A : Ad} {d : DS} (h : Dka w col c B A d) : Dkh w col c B A d d.sV d.sT := ⟨h.c0, h.blk, h.cB, h.pe, h.seen, h.sure, h.most⟩
theorem Dkh.whole {w : World} {col : Nat → Nat} {c B : Nat} {A : Ad} {d : DS} (h : Dkh w col c B A d d.sV d.sT) : Dka w col c B A d := ⟨h.c0, h.blk, h.cB, h.pe, h.seen, h.sure, h.most⟩
section
variable {w w' : World} {col col' : Nat → Nat} {c B : Nat} {A : Ad} {d : DS} {V V' : List (List Int)} {t t' : TS}
theorem Dkh.keep {S : Nat → Prop} (h : Dkh w col c B A d V t) (hc : Chg S w w') (hs : ∀ k, col k = 0 ∨ own col c k → ¬ S k) : Dkh w' col c B A d V t := by
 have hB : own col c B := by have := h.cB; unfold own; omega
 refine ⟨h.c0, (hc.block B (block_lt h.blk) (hs B (.inr hB))).trans h.blk, h.cB, h.pe.keep hc fun k hk => hs k ?_, h.seen.keep hc fun k hk => hs k (.inr (by unfold own; omega)), h.sure.keep hc fun k hk => hs k (.inr (by unfold own; omega)), h.most⟩
 rcases hk with hk | hk
 · exact .inl hk
 · exact .inr (by unfold own; omega)
theorem Dkh.later (h : Dkh w col c B A d V t) (hb : Below w.heap.size w w') : Dkh w' col c B A d V t := h.keep (Chg.of_below (S := fun _ => False) hb) fun _ _ h => h
theorem Dkh.recol (h : Dkh w col c B A d V t) (he : Ext w col col') : Dkh w col' c B A d V t := ⟨h.c0, h.blk, (he B (block_lt h.blk)).trans h.cB, h.pe.recol he, h.seen.recol he, h.sure.recol he, h.most⟩
theorem own_of {k : Nat} (h : col k = c + 2 ∨ col k = c + 2 + 1) : own col c k := by unfold own; omega
theorem Dkh.set_seen (h : Dkh w col c B A d V t) (hw : (∃ col', Ext w col col' ∧ Pa w' col' (c + 2) A.Bv A.T d.s V' d.a d.z t') ∧ Chg (fun k => col k = c + 2 ∨ col k = c + 2 + 1) w w') : (∃ col', Ext w col col' ∧ Dkh w' col' c B A d V' t') ∧ Chg (own col c) w w' := by
 obtain ⟨⟨col', he, hp⟩, hc⟩ := hw
 have h0 := h.c0
 have g := h.recol he
 have hc' : Chg (fun k => col' k = c + 2 ∨ col' k = c + 2 + 1) w w' := hc.mono fun k hk h => by rw [he k hk]; exact h
 refine ⟨⟨col', he, g.c0, (hc'.block B (block_lt g.blk) (by have := g.cB; omega)).trans g.blk, g.cB, g.pe.keep hc' fun k hk => by omega, hp, g.sure.keep hc' fun k hk => by omega, g.most⟩, hc.mono fun k _ h => own_of h⟩
end
theorem clone_b (p : Option Addr) (n c : Nat) (L : List Int) (w : World) (hL : BL w p n c L) (hn : n ≤ 1000000) :
 Calls Tryz.prog 70 #[.slice p n c] w fun e w' => ∃ p' c', e = .returned (.slice p' n c') ∧ BL w' p' n c' L ∧ (0 < n → ∀ a, p' = some a → w.heap.size ≤ a.block) ∧ Below w.heap.size w w' := by
 by_cases h0 : 0 < n
 · refine (clone_bytes p n c L w hL h0 hn).mono ?_
   rintro e w' ⟨g, c', rfl, hr, hg, hb⟩
   exact ⟨_, _, rfl, hr.bl, fun _ a ha => by cases ha; exact hg, hb⟩
 · obtain rfl : n = 0 := by omega
   obtain rfl : L = [] := List.eq_nil_of_length_eq_zero hL.len
   have hq := fun w => sl_nil p 0 c w
   cases p with
   | none =>
    go_enter Tryz.func70, Tryz.ntmps70
    go_wp2_with fail
    go_ret
    exact ⟨_, _, rfl, SlG.empty _, fun h => by omega, Below.refl _ _⟩
   | some ad =>
    have hb1 : Below w.heap.size w (w.alloc (.cells #[] 5)) := (Below.refl _ _).alloc (Nat.le_refl _) _
    have HB1 := Lib.hid hb1
    have HR1 : Hid (RowB (w.alloc (.cells #[] 5)) (.slice (some ⟨w.heap.size, 0, none⟩) 0 0) 0 []) := Lib.hid (RowB.fresh (alloc_block w _) rfl (Nat.zero_le _))
    have HL1 := Lib.hid (SlG.later hL hb1)
    clear hL hb1
    go_enter Tryz.func70, Tryz.ntmps70
    go_wp2_with (first | (at_builtin; refine wpList_append_rb rfl _ _ rfl _ _ _ rfl HR1.out _ 0 c [] rfl HL1.out (by omega) ?_; intro p' c' w3 hr3 hc3 hl3 hn3) | fail)
    go_ret
    have HBL := hc3.below HB1.out HB1.out.size fun k hk => by cases hk; exact Nat.le_refl _
    first | exact ⟨_, _, rfl, hr3.bl, (fun h => by omega), HBL⟩ | exact ⟨_, _, rfl, hr3.bl, HBL⟩
set_option maxHeartbeats 1000000 in
/-- One more write waits. -/
theorem wait_any {w : World} {col : Nat → Nat} {c B : Nat} {A : Ad} {d : DS} {V : List (List Int)} {t : TS} (h : Dkh w col c B A d V t) (y : Pw) (hy : y.ok w col) (T : TypeId) (v : Value) (hu : y.val = .iface T v) (hL : d.L.length < 1000000) :
 Calls Tryz.prog 69 #[.pointer (some ⟨B, 0, none⟩), .iface T v] w fun e w' => e = .returned (.tuple #[]) ∧ (∃ A' col', Ext w col col' ∧ Dkh w' col' c B A' (d.add y.x) V t) ∧ Chg (own col c) w w' := by
 obtain ⟨Bv, T1, Bv', T', pv⟩ := A
 obtain ⟨p, cp, PL, hp, hPL, hsl, hok, _⟩ := h.pe.sl
 simp only at hp
 subst hp
 have hlen : PL.length = d.L.length := by rw [← hPL, List.length_map]
 obtain ⟨⟨PL2, q1, q2, q3⟩, q4⟩ := h.pe
 have hl2 : PL2.length = d.L.length := by rw [← q1, List.length_map]
 rw [hl2] at q2
 have hb1 : Below w.heap.size w (w.alloc (.cells #[.iface T v] 134)) := (Below.refl _ _).alloc (Nat.le_refl _) _
 have hrow : (w.alloc (.cells #[.iface T v] 134)).ownsRow 0 134 1 (.slice p d.L.length cp) d.L.length (flatG ew PL2) := own_keep q2 (Chg.of_below (S := fun _ => False) hb1) fun _ _ h => h
 have hone : SlG ew 1 yd (w.alloc (.cells #[.iface T v] 134)) (some ⟨w.heap.size, 0, none⟩) 1 1 [y] := by
  refine ⟨rfl, Nat.le_refl _, by unfold maxLen; omega, (fun e => by cases e), fun _ => ⟨w.heap.size, 0, rfl, by simp, fun j hj i u hu' => ?_⟩⟩
  obtain rfl : j = 0 := by omega
  match i, hu' with
  | 0, hu' =>
   simp only [List.getD_cons_zero, ew, List.getElem?_cons_zero, Option.some.injEq] at hu'
   subst hu'
   rw [hu]
   exact block_cell (alloc_block w _) rfl
 have HROW := Lib.hid hrow
 have HONE := Lib.hid hone
 have HB1 := Lib.hid hb1
 have c5 : w.cell? ⟨B, 5, none⟩ = some (.slice p d.L.length cp) := block_cell h.blk rfl
 have hBlt := block_lt h.blk
 have HH := Lib.hid h
 have hne : ∀ k, (Value.slice p d.L.length cp).ownBlock = some k → ¬ k = B := fun k hk e => by
  have h1 := q4 k hk
  have h2 := h.cB
  subst e
  omega
 have HNE := Lib.hid hne
 have HQ4 := Lib.hid q4
 have HC3 : Hid (∀ w3, Chg (fun k => (Value.slice p d.L.length cp).ownBlock = some k) (w.alloc (.cells #[.iface T v] 134)) w3 → w3.cell? ⟨B, 5, none⟩ = some (.slice p d.L.length cp) ∧ w3.frozen? ⟨B, 5, none⟩ = false) := Lib.hid fun w3 g2 => by
  have h3 : w3.heap[B]? = some (.cells (dcells d.M ⟨Bv, T1, Bv', T', .slice p d.L.length cp⟩) 114 (0, 0)) := (((Chg.of_below hb1).trans (g2.mono (T := fun k => col k = c + 1) fun k _ hk => q4 k hk) fun k _ h => h).block B hBlt (by have := h.cB; omega)).trans h.blk
  exact ⟨block_cell h3 rfl, block_free 5 h3⟩
 have HFIN : Hid (∀ w3 w4 p' c', w3.ownsRow 0 134 1 (.slice p' (d.L.length + 1) c') (d.L.length + 1) (flatG ew (PL2 ++ [y])) → Chg (fun k => (Value.slice p d.L.length cp).ownBlock = some k) (w.alloc (.cells #[.iface T v] 134)) w3 →
  (∀ k, (Value.slice p' (d.L.length + 1) c').ownBlock = some k → (Value.slice p d.L.length cp).ownBlock = some k ∨ (w.alloc (.cells #[.iface T v] 134)).heap.size ≤ k) → w4 = w3.setCell ⟨B, 5, none⟩ (.slice p' (d.L.length + 1) c') →
  (∃ A' col', Ext w col col' ∧ Dkh w4 col' c B A' (d.add y.x) V t) ∧ Chg (own col c) w w4) := Lib.hid fun w3 w4 p' c' g1 g2 g3 g4 => by
  have hc3 : Chg (fun k => col k = c + 1) w w3 := (Chg.of_below hb1).trans (g2.mono (T := fun k => col k = c + 1) fun k _ hk => q4 k hk) fun k _ h => h
  have hc4 : Chg (fun k => k = B) w3 w4 := by rw [g4]; exact (Chg.refl _ _).setCell _ _ fun _ => rfl
  have hc : Chg (fun k => col k = c ∨ col k = c + 1) w w4 := (hc3.mono (T := fun k => col k = c ∨ col k = c + 1) fun k _ h => .inr h).trans hc4 fun k _ e => by subst e; exact .inl h.cB
  have hE := Ext.paint w col (c + 1)
  have h3 : w3.heap[B]? = some (.cells (dcells d.M ⟨Bv, T1, Bv', T', .slice p d.L.length cp⟩) 114 (0, 0)) := (hc3.block B hBlt (by have := h.cB; omega)).trans h.blk
  have g := h.recol hE
  have hcp : Chg (fun k => paint col w.heap.size (c + 1) k = c ∨ paint col w.heap.size (c + 1) k = c + 1) w w4 := hc.mono fun k hk h => by rw [paint_old hk]; exact h
  have h0 := h.c0
  refine ⟨⟨⟨Bv, T1, Bv', T', .slice p' (d.L.length + 1) c'⟩, paint col w.heap.size (c + 1), hE, h0, ?_, g.cB, ⟨⟨PL2 ++ [y], ?_, ?_, ?_⟩, fun k hk => ?_⟩, g.seen.keep hcp fun k hk => by omega, g.sure.keep hcp fun k hk => by omega, h.most⟩, hc.mono fun k _ h => by unfold own; omega⟩
  · rw [g4]
    exact block_put 5 _ h3
  · rw [List.map_append, q1]
    rfl
  · rw [List.length_append, hl2, List.length_singleton]
    refine own_keep g1 hc4 fun k hk e => ?_
    rcases g3 k hk with h5 | h5
    · exact hne k h5 e
    · have := hb1.size
      omega
  · intro z hz
    rcases List.mem_append.1 hz with hz | hz
    · exact ((q3 z hz).recol hE).keep hcp fun k hk => by omega
    · rw [List.mem_singleton] at hz
      subst hz
      exact (hy.recol hE).keep hcp fun k hk => by omega
  · rcases g3 k hk with h5 | h5
    · have hlt := (q2.lt k h5).2
      rw [paint_old hlt]
      exact q4 k h5
    · have := hb1.size
      exact paint_new (by omega)
 clear hrow hone hb1 q1 q2 q3 q4 hok hsl hPL hne h hlen hl2 hu hy
 generalize hn : d.L.length = n0 at *
 go_enter Tryz.func69, Tryz.ntmps69
 go_wp2_with (first | (at_builtin; refine wpList_append_w rfl _ _ rfl _ n0 PL2 rfl HROW.out _ 1 1 [y] rfl HONE.out (by omega) ?_; intro p' c' w3 hr3 hc3 hl3; obtain ⟨x5, g5⟩ := HC3.out w3 hc3) | fail)
 have HX := Lib.hid (HFIN.out w3 _ p' c' hr3 hc3 hl3 rfl)
 clear hr3 hc3 hl3
 go_end0
 exact ⟨rfl, HX.out.1, HX.out.2⟩
def DS.part (d : DS) (j : Nat) : DS := { d with V := foldV d.s d.V (d.L.take j), t := foldT d.z d.t (d.L.take j) }
structure Sy (w wr : World) (col col' : Nat → Nat) (c B : Nat) (A : Ad) (d : DS) (V : List (List Int)) (t : TS) (p : Option Addr) (n cp : Nat) (PL : List Pw) (j : Nat) : Prop where
 ext : Ext w col col'
 dk : Dkh wr col' c B A (d.part j) V t
 sl : SlG ew 1 yd wr p n cp PL
 at_ : 0 < n → ∀ a, p = some a → col' a.block = c + 1
 ok : ∀ y ∈ PL, y.ok wr col'
 len : PL.map (·.x) = d.L
 chg : Chg (fun k => col k = c + 4 ∨ col k = c + 5) w wr
theorem Sy.start {w : World} {col : Nat → Nat} {c B : Nat} {A : Ad} {d : DS} {V : List (List Int)} {t : TS} {p : Option Addr} {cp : Nat} {PL : List Pw} (h : Dkh w col c B A d V t) (hsl : SlG ew 1 yd w p d.L.length cp PL) (hat : 0 < d.L.length → ∀ a, p = some a → col a.block = c + 1) (hok : ∀ y ∈ PL, y.ok w col) (hl : PL.map (·.x) = d.L) : Sy w w col col c B A d V t p d.L.length cp PL 0 :=
 ⟨Ext.refl _ _, h, hsl, hat, hok, hl, Chg.refl _ _⟩
theorem Sy.drewN {w wr : World} {col col' : Nat → Nat} {c B : Nat} {A : Ad} {d : DS} {V : List (List Int)} {t : TS} {p : Option Addr} {n cp : Nat} {PL : List Pw} {j : Nat} (h : Sy w wr col col' c B A d V t p n cp PL j) (q : Nat) : Sy w (wr.drewN q) col col' c B A d V t p n cp PL j :=
 have hb := below_drewN (Below.refl wr.heap.size wr) q
 ⟨h.ext, h.dk.later hb, SlG.later h.sl hb, h.at_, fun y hy => (h.ok y hy).keep (Chg.of_below (S := fun _ => False) hb) fun _ _ h => h, h.len, h.chg.drewN q⟩
theorem Sy.next {w wr : World} {col col' : Nat → Nat} {c B : Nat} {A : Ad} {d : DS} {V : List (List Int)} {t : TS} {p : Option Addr} {n cp : Nat} {PL : List Pw} {j : Nat} (h : Sy w wr col col' c B A d V t p n cp PL j) (hj : j < n) (hbig : d.tot ≤ 1000000) :
 ∃ y b off, p = some ⟨b, off, none⟩ ∧ wr.cell? ⟨b, off + j, none⟩ = some (.iface (wty y.x) (wval y)) ∧
  (∀ q, Calls Tryz.prog (wholeF y.x) #[wval y, .agg #[.pointer (some ⟨A.Bv', 0, none⟩), .pointer (some ⟨A.T', 0, none⟩)]] (wr.drewN q) fun e w' => e = .returned (.tuple #[]) ∧ ∃ col'', Sy w w' col col'' c B A d V t p n cp PL (j + 1)) := by
 obtain ⟨b, off, hp, hlt, hc⟩ := SlW_at h.sl hj
 have hl : PL.length = n := h.sl.len
 have hmem : PL.getD j yd ∈ PL := by
  rw [List.getD, List.getElem?_eq_getElem (by omega)]
  exact List.getElem_mem _
 have htake : d.L.take (j + 1) = d.L.take j ++ [(PL.getD j yd).x] := by
  have e : d.L[j]? = some (PL.getD j yd).x := by
   rw [← h.len, List.getElem?_map, List.getD, List.getElem?_eq_getElem (by omega)]
   rfl
  rw [List.take_add_one, e]
  rfl
 have hz := h.dk.seen.z_in
 have hz' : 64 ≤ d.z := hz.1
 have hw1 : (foldT d.z d.t (d.L.take j)).len d.z ≤ d.t.len d.z + wts (d.L.take j) := foldT_len (by omega) _ _
 have hw2 := wts_take_drop d.L (j + 1)
 rw [htake, wts_snoc] at hw2
 refine ⟨PL.getD j yd, b, off, hp, by rw [← Pw.val_eq]; exact hc, fun q => ?_⟩
 replace h := h.drewN q
 generalize wr.drewN q = wr at *
 have hsure : Pa wr col' (c + 4) A.Bv' A.T' d.s (foldV d.s d.V (d.L.take j)) d.a d.z (foldT d.z d.t (d.L.take j)) := h.dk.sure
 have h0 := h.dk.c0
 refine (whole_any hsure (by omega) _ (h.ok _ hmem) (by unfold DS.tot at hbig; omega)).mono ?_
 rintro e w' ⟨rfl, ⟨col'', he, hp'⟩, hch⟩
 have hch' : Chg (fun k => col'' k = c + 4 ∨ col'' k = c + 4 + 1) wr w' := hch.mono fun k hk h => by rw [he k hk]; exact h
 have g := h.dk.recol he
 refine ⟨rfl, col'', h.ext.trans he h.chg.size, ⟨g.c0, (hch'.block B (block_lt g.blk) (by have := g.cB; omega)).trans g.blk, g.cB, g.pe.keep hch' fun k hk => by omega, g.seen.keep hch' fun k hk => by omega, ?_, g.most⟩, ?_, ?_, ?_, h.len, ?_⟩
 · show Pa w' col'' (c + 4) A.Bv' A.T' d.s (foldV d.s d.V (d.L.take (j + 1))) d.a d.z (foldT d.z d.t (d.L.take (j + 1)))
   rw [htake, foldV_snoc, foldT_snoc]
   exact hp'
 · refine SlG.turn h.sl hch.size fun hn a ha hl => hch.block _ hl ?_
   have := h.at_ hn a ha
   omega
 · intro hn a ha
   obtain ⟨b2, off2, hp2, hlt2, _⟩ := h.sl.cell hn
   rw [hp2] at ha
   cases ha
   rw [he b2 hlt2]
   exact h.at_ hn _ hp2
 · exact fun y hy => ((h.ok y hy).recol he).keep hch' fun k hk => by omega
 · refine h.chg.trans hch fun k hk h2 => ?_
   have e1 := h.ext k hk
   rw [e1] at h2
   omega
theorem Sy.done {w wr : World} {col col' : Nat → Nat} {c B : Nat} {A : Ad} {d : DS} {p : Option Addr} {n cp : Nat} {PL : List Pw} (h : Sy w wr col col' c B A d d.sV d.sT p n cp PL d.L.length) : Turned w col c B d.sync (wr.setCell ⟨B, 5, none⟩ (.slice none 0 0)) := by
 have hc : Chg (fun k => k = B) wr (wr.setCell ⟨B, 5, none⟩ (.slice none 0 0)) := (Chg.refl _ _).setCell _ _ fun _ => rfl
 have g := h.dk
 have hB := g.cB
 have h0 := g.c0
 refine ⟨col', h.ext, ⟨{ A with pv := .slice none 0 0 }, g.c0, block_put 5 _ g.blk, hB, Pe.nil _ _ _, ?_, ?_, g.most⟩, (h.chg.mono (T := own col c) fun k _ h => by unfold own; omega).trans hc fun k hk e => ?_⟩
 · exact g.seen.keep hc fun k hk e => by subst e; omega
 · have hsure : Pa wr col' (c + 4) A.Bv' A.T' d.s (foldV d.s d.V (d.L.take d.L.length)) d.a d.z (foldT d.z d.t (d.L.take d.L.length)) := g.sure
   rw [List.take_length] at hsure
   exact hsure.keep hc fun k hk e => by subst e; omega
 · subst e
   have := h.ext k hk
   unfold own
   omega
set_option maxHeartbeats 1000000 in
theorem disk_sync_h {w : World} {col : Nat → Nat} {c B : Nat} {A : Ad} {d : DS} {V : List (List Int)} {t : TS} (h : Dkh w col c B A d V t) (hbig : d.tot ≤ 1000000) (hL : d.L.length ≤ 1000000) :
 Calls Tryz.prog 27 #[.pointer (some ⟨B, 0, none⟩)] w fun e w' => e = .returned (.tuple #[]) ∧ ∃ col' wr p n cp PL, Sy w wr col col' c B A d V t p n cp PL d.L.length ∧ w' = wr.setCell ⟨B, 5, none⟩ (.slice none 0 0) := by
 obtain ⟨Bv, T, Bv', T', pv⟩ := A
 obtain ⟨p, cp, PL, hp, hPL, hsl, hok, hat⟩ := h.pe.sl
 simp only at hp
 subst hp
 have c5 : w.cell? ⟨B, 5, none⟩ = some (.slice p d.L.length cp) := block_cell h.blk rfl
 have HS := Lib.hid (Sy.start h hsl hat hok hPL)
 have hcap := hsl.cap
 have hmax := hsl.max
 clear hsl hok hat hPL h
 generalize hn : d.L.length = n at *
 have HN := Lib.hid hn
 clear hn
 go_enter Tryz.func27, Tryz.ntmps27
 go_wp2_with fail
 go_loopw [3, 11] (fun x i wr => ∃ (j : Nat) (col' : Nat → Nat) (x0 : Value), j ≤ n ∧ x = x0 ∧ i = .int .i64 (j : Nat) ∧ Hid (Sy w wr col col' c B ⟨Bv, T, Bv', T', .slice p n cp⟩ d V t p n cp PL j)) (fun _ i _ => n - (intOf i).toNat)
 case atStart => exact ⟨0, col, _, Nat.zero_le _, rfl, rfl, HS⟩
 case round =>
  obtain ⟨j, col', x0, hj, rfl, rfl, HF⟩ := hrel
  have b3 : wr.cell? ⟨B, 3, none⟩ = some (.pointer (some ⟨Bv', 0, none⟩)) := block_cell HF.out.dk.blk rfl
  have b4 : wr.cell? ⟨B, 4, none⟩ = some (.pointer (some ⟨T', 0, none⟩)) := block_cell HF.out.dk.blk rfl
  have b5 : wr.cell? ⟨B, 5, none⟩ = some (.slice p n cp) := block_cell HF.out.dk.blk rfl
  have g5 := block_free 5 HF.out.dk.blk
  by_cases hlt : j < n
  · have hlt' : (j : Int) < n := by omega
    obtain ⟨y, b, off, hpe, hcell, hcall⟩ := HF.out.next hlt hbig
    subst hpe
    have HCALL := Lib.hid hcall
    clear hcall
    have hah := whole_ahead y
    have hme := whole_meth y
    have hen := whole_enter y.x
    go_wp2_with fail
    go_region_law (first | (go_simp; refine (HCALL.out _).mono ?_; rintro e w2 ⟨rfl, col2, hsy⟩))
    all_goals
     have HSY := Lib.hid hsy
     clear hsy
     go_wp2_with fail
     go_roundw
     case rel => exact ⟨j + 1, col2, _, by omega, rfl, by go_num, HSY⟩
     case measure => simp [intOf]; omega
  · obtain rfl : n = j := by omega
    have hnn := HN.out
    go_wp2_with fail
    go_end0
    exact ⟨rfl, col', wr, p, n, cp, PL, HF.out, rfl⟩
theorem disk_sync {w : World} {col : Nat → Nat} {c B : Nat} {d : DS} (h : Dk w col c B d) (hbig : d.tot ≤ 1000000) (hL : d.L.length ≤ 1000000) :
 Calls Tryz.prog 27 #[.pointer (some ⟨B, 0, none⟩)] w fun e w' => e = .returned (.tuple #[]) ∧ Turned w col c B d.sync w' := by
 obtain ⟨A, h⟩ := h
 refine (disk_sync_h h.half hbig hL).mono ?_
 rintro e w' ⟨rfl, col', wr, p, n, cp, PL, hs, rfl⟩
 exact ⟨rfl, hs.done⟩
theorem parts_two (w : World) (x y : Value) : ((w.alloc (.cells #[x, y] 109)).alloc (.cells #[.pointer none, .pointer none] 109)).heap[w.heap.size]? = some (.cells #[x, y] 109 (0, 0)) ∧
 ((w.alloc (.cells #[x, y] 109)).alloc (.cells #[.pointer none, .pointer none] 109)).heap[w.heap.size + 1]? = some (.cells #[.pointer none, .pointer none] 109 (0, 0)) ∧
 Below w.heap.size w ((w.alloc (.cells #[x, y] 109)).alloc (.cells #[.pointer none, .pointer none] 109)) := by
 have hs : (w.alloc (.cells #[x, y] 109)).heap.size = w.heap.size + 1 := by simp
 have h2 := alloc_block (w.alloc (.cells #[x, y] 109)) (.cells #[.pointer none, .pointer none] 109)
 rw [hs] at h2
 exact ⟨block_later (alloc_block w _) ((Below.refl _ _).alloc (Nat.le_refl _) _), h2, ((Below.refl _ _).alloc (Nat.le_refl _) _).alloc (by omega) _⟩
def Fresh (w w' : World) (Bv T s : Nat) (V : List (List Int)) (a : Int) (z : Nat) (t : TS) : Prop := ∀ col c, ∃ col', Ext w col col' ∧ Pa w' col' c Bv T s V a z t
theorem Fresh.of {w w' : World} {Bv G T s m : Nat} {mb : Option Nat} {V : List (List Int)} {a : Int} {z : Nat} {t : TS} (hv : Vo w' Bv G s V) (hB : w.heap.size ≤ Bv ∧ Bv < m) (hG : w.heap.size ≤ G ∧ G < m) (ht : Tp w' T mb (fun k => m ≤ k) a z t) : Fresh w w' Bv T s V a z t := by
 intro col c
 refine ⟨paint (paint col w.heap.size c) m (c + 1), fun k hk => ?_, ⟨G, hv, ?_⟩, ?_, mb, ht.mono fun k hk hl => paint_new hk⟩
 · rw [paint_old (by omega), paint_old hk]
 · rw [paint_old hG.2, paint_new hG.1]
 · rw [paint_old hB.2, paint_new hB.1]
theorem both_any {w : World} {col : Nat → Nat} {c Bv T s z : Nat} {V : List (List Int)} {a : Int} {t : TS} (h : Pa w col c Bv T s V a z t) (hbig : t.len z ≤ 1000000) :
 Calls Tryz.prog 55 #[.agg #[.pointer (some ⟨Bv, 0, none⟩), .pointer (some ⟨T, 0, none⟩)]] w fun e w' => ∃ Bv' T', e = .returned (.agg #[.pointer (some ⟨Bv', 0, none⟩), .pointer (some ⟨T', 0, none⟩)]) ∧ Fresh w w' Bv' T' s V a z t ∧ Below w.heap.size w w' := by
 obtain ⟨h0, h1, hb⟩ := parts_two w (.pointer (some ⟨Bv, 0, none⟩)) (.pointer (some ⟨T, 0, none⟩))
 have H0 := Lib.hid h0
 have H1 := Lib.hid h1
 have HB := Lib.hid hb
 have H := Lib.hid h
 clear h h0 h1 hb
 go_enter Tryz.func55, Tryz.ntmps55
 go_wp2_with fail
 generalize hW : (w.alloc (.cells #[.pointer (some ⟨Bv, 0, none⟩), .pointer (some ⟨T, 0, none⟩)] 109)).alloc (.cells #[.pointer none, .pointer none] 109) = W at *
 clear hW
 have a0 := block_cell (j := 0) H0.out (v := .pointer (some ⟨Bv, 0, none⟩)) rfl
 have a1 := block_cell (j := 1) H0.out (v := .pointer (some ⟨T, 0, none⟩)) rfl
 have HV : Hid (∀ k, Calls Tryz.prog 100 #[.pointer (some ⟨Bv, 0, none⟩)] (W.drewN k) fun e w' => ∃ G, e = .returned (.pointer (some ⟨W.heap.size, 0, none⟩)) ∧ Vo w' W.heap.size G s V ∧ W.heap.size ≤ G ∧ Below W.heap.size W w') := Lib.hid fun k => by
  obtain ⟨⟨G, hv, _⟩, _, _⟩ := H.out.later HB.out
  refine (copy_any Bv G s V (W.drewN k) (hv.keep ((Chg.refl (fun _ => False) _).drewN k) (fun h => h) (fun h => h))).mono ?_
  rintro e w' ⟨rfl, h1, h2⟩
  exact ⟨_, rfl, h1, Nat.le_succ _, below_undrew h2⟩
 have HT : Hid (∀ w', Below W.heap.size W w' → Calls Tryz.prog 101 #[.pointer (some ⟨T, 0, none⟩)] w' fun e w'' => e = .returned (.pointer (some ⟨w'.heap.size, 0, none⟩)) ∧ (∃ mb', Tp w'' w'.heap.size mb' (fun k => w'.heap.size ≤ k) a z t) ∧ Below w'.heap.size w' w'') := Lib.hid fun w' hb' => by
  obtain ⟨_, _, mb, ht⟩ := (H.out.later HB.out).later hb'
  exact tape_copy ht hbig
 clear H
 go_region_law (first
  | (go_simp; go_at_call 100; refine (HV.out _).mono ?_; rintro e w5 ⟨G, rfl, hv5, hG, hb5⟩; have b1 := block_cell (j := 1) (block_later H0.out hb5) (v := .pointer (some ⟨T, 0, none⟩)) rfl)
  | (go_simp; go_at_call 101; refine (HT.out _ hb5).mono ?_; rintro e w6 ⟨rfl, ⟨mb6, ht6⟩, hb6⟩; have hb56 := hb5.trans (hb6.mono hb5.size); have hA := block_later H1.out hb56; have x0 := block_cell (j := 0) hA (v := .pointer none) rfl; have x1 := block_cell (j := 1) hA (v := .pointer none) rfl; have g0 := block_free 0 hA; have g1 := block_free 1 hA))
 all_goals
  have hc : Chg (fun k => k = w.heap.size + 1) w6 ((w6.setCell ⟨w.heap.size + 1, 0, none⟩ (.pointer (some ⟨W.heap.size, 0, none⟩))).setCell ⟨w.heap.size + 1, 1, none⟩ (.pointer (some ⟨w5.heap.size, 0, none⟩))) := ((Chg.refl (fun k => k = w.heap.size + 1) w6).setCell ⟨w.heap.size + 1, 0, none⟩ _ fun _ => rfl).setCell ⟨w.heap.size + 1, 1, none⟩ _ fun _ => rfl
  have HR : Hid (((w6.setCell ⟨w.heap.size + 1, 0, none⟩ (.pointer (some ⟨W.heap.size, 0, none⟩))).setCell ⟨w.heap.size + 1, 1, none⟩ (.pointer (some ⟨w5.heap.size, 0, none⟩))).heap[w.heap.size + 1]? = some (.cells #[.pointer (some ⟨W.heap.size, 0, none⟩), .pointer (some ⟨w5.heap.size, 0, none⟩)] 109 (0, 0))) := Lib.hid (block_put 1 _ (block_put 0 _ hA))
  have hRW : w.heap.size + 1 < W.heap.size := block_lt H1.out
  have h5s := hb5.size
  have hv8 := (hv5.later hb6).keep hc (by omega) (by omega)
  have ht8 := ht6.keep hc (by intro k hk; omega)
  have hbl := hc.below (HB.out.trans (hb56.mono HB.out.size)) (Nat.le_trans HB.out.size hb56.size) fun k hk => by omega
  have HBL := Lib.hid hbl
  have HF : Hid (Fresh w _ W.heap.size w5.heap.size s V a z t) := Lib.hid (Fresh.of hv8 ⟨HB.out.size, block_lt hv5.blk⟩ ⟨by have := HB.out.size; omega, block_lt hv5.row⟩ ht8)
  clear hc hA hv8 ht8 hbl hv5 ht6 x0 x1 g0 g1 b1
  go_wp2_with fail
  refine bodyPost_ret (v := .agg #[.pointer (some ⟨W.heap.size, 0, none⟩), .pointer (some ⟨w5.heap.size, 0, none⟩)]) ?_ rfl ⟨_, _, rfl, HF.out, HBL.out⟩
  exact results_cell_row rfl _ _ (w.heap.size + 1) 109 _ (0, 0) _ rfl HR.out Tryz.underlying109 rfl (by kernel_rfl)
theorem Dka.made {w w5 w6 w7 w8 : World} {col : Nat → Nat} {c B : Nat} {A : Ad} {d : DS} (hc : 1 ≤ c) (hM : d.M ≤ 1048576) (b5 : Below w.heap.size w w5) (h5 : Fresh w w5 A.Bv A.T d.s d.sV d.a d.z d.sT) (b6 : Below w5.heap.size w5 w6) (h6 : Fresh w5 w6 A.Bv' A.T' d.s d.V d.a d.z d.t)
 (b7 : Below w6.heap.size w6 w7) (h7 : ∀ col', Ext w col col' → Pe w7 (paint col' w6.heap.size (c + 1)) (c + 1) A.pv d.L) (b8 : Below w7.heap.size w7 w8) (hB : w7.heap.size ≤ B) (hblk : w8.heap[B]? = some (.cells (dcells d.M A) 114 (0, 0))) : ∃ col', Ext w col col' ∧ Dka w8 col' c B A d := by
 obtain ⟨k1, e1, p1⟩ := h5 col (c + 2)
 obtain ⟨k2, e2, p2⟩ := h6 k1 (c + 4)
 have e12 := e1.trans e2 b5.size
 have e3 := Ext.paint w6 k2 (c + 1)
 have s6 := Nat.le_trans b5.size b6.size
 have e13 := e12.trans e3 s6
 have p3 := h7 k2 e12
 have e4 := Ext.paint w7 (paint k2 w6.heap.size (c + 1)) c
 have b68 := b7.trans (b8.mono b7.size)
 refine ⟨paint (paint k2 w6.heap.size (c + 1)) w7.heap.size c, e13.trans e4 (Nat.le_trans s6 b7.size), hc, hblk, paint_new hB, (p3.recol e4).later b8, ?_, ?_, hM⟩
 · refine Pa.later (w := w7) ?_ b8
   refine Pa.recol ?_ e4
   exact Pa.later (((p1.recol e2).later b6).recol e3) b7
 · refine Pa.later (w := w7) ?_ b8
   refine Pa.recol ?_ e4
   exact Pa.later (p2.recol e3) b7
def DS.new (blocks block seg most : Int) : DS := ⟨kp most 1048576, seg, cl seg 64 4096, kp block 4096, zeroV (kp blocks 1024) (kp block 4096), ⟨0, []⟩, []⟩
def Born (w w' : World) (B : Nat) (d : DS) : Prop := ∀ col c, 1 ≤ c → ∃ col', Ext w col col' ∧ Dk w' col' c B d
set_option maxHeartbeats 1000000 in
theorem disk_new (x y g m : Int) (w : World) : Calls Tryz.prog 12 #[.int .i64 x, .int .i64 y, .int .i64 g, .int .i64 m] w fun e w' => ∃ B, e = .returned (.pointer (some ⟨B, 0, none⟩)) ∧ Born w w' B (DS.new x y g m) ∧ w.heap.size ≤ B ∧ Below w.heap.size w w' := by
 have hn := new_anyD x y w
 have HT := Lib.hid fun w => tape_new g w
 have HK := Lib.hid fun w => disk_kept m 1048576 w (by omega)
 have HM : Hid (kp m 1048576 ≤ 1048576) := Lib.hid (by have := kp_le m 1048576 (by omega); omega)
 have HD : Hid (DS.new x y g m = ⟨kp m 1048576, g, cl g 64 4096, kp y 4096, zeroV (kp x 1024) (kp y 4096), ⟨0, []⟩, []⟩) := Lib.hid rfl
 generalize DS.new x y g m = D at *
 generalize kp m 1048576 = M at *
 generalize kp y 4096 = s at *
 generalize zeroV (kp x 1024) s = V at *
 go_enter Tryz.func12, Tryz.ntmps12
 go_wp2_with fail
 refine hn.mono ?_
 rintro e w1 ⟨rfl, hv, hb⟩
 have HB1 := Lib.hid hb
 have HV1 := Lib.hid hv
 have ht := HT.out w1
 clear hn hv hb HT
 go_wp2_with fail
 refine ht.mono ?_
 rintro e w2 ⟨rfl, hw2⟩
 have HT2 : Hid (Tp w2 w1.heap.size none (fun k => w1.heap.size ≤ k) g (cl g 64 4096) ⟨0, []⟩) := Lib.hid (hw2 ▸ new_tape w1 g)
 have HB2 : Hid (Below w1.heap.size w1 w2) := Lib.hid (hw2 ▸ (Below.refl _ _).alloc (Nat.le_refl _) _)
 clear ht hw2
 have hb3 : Below w2.heap.size w2 (w2.alloc (.cells #[.pointer (some ⟨w.heap.size, 0, none⟩), .pointer (some ⟨w1.heap.size, 0, none⟩)] 109)) := (Below.refl _ _).alloc (Nat.le_refl _) _
 have HA3 := Lib.hid (alloc_block w2 (.cells #[.pointer (some ⟨w.heap.size, 0, none⟩), .pointer (some ⟨w1.heap.size, 0, none⟩)] 109))
 have HB3 := Lib.hid hb3
 clear hb3
 go_wp2_with fail
 generalize w2.alloc (.cells #[.pointer (some ⟨w.heap.size, 0, none⟩), .pointer (some ⟨w1.heap.size, 0, none⟩)] 109) = W at *
 have HB13 := Lib.hid (HB2.out.trans (HB3.out.mono HB2.out.size))
 have HB03 := Lib.hid (HB1.out.trans (HB13.out.mono HB1.out.size))
 have HS : Hid (Fresh w W w.heap.size w1.heap.size s V g (cl g 64 4096) ⟨0, []⟩) := Lib.hid (Fresh.of (HV1.out.later HB13.out) ⟨Nat.le_refl _, block_lt HV1.out.blk⟩ ⟨Nat.le_succ _, block_lt HV1.out.row⟩ (HT2.out.later HB3.out))
 have HBO : Hid (∀ w', Below W.heap.size W w' → Calls Tryz.prog 55 #[.agg #[.pointer (some ⟨w.heap.size, 0, none⟩), .pointer (some ⟨w1.heap.size, 0, none⟩)]] w' fun e w'' => ∃ Bv' T', e = .returned (.agg #[.pointer (some ⟨Bv', 0, none⟩), .pointer (some ⟨T', 0, none⟩)]) ∧ Fresh w' w'' Bv' T' s V g (cl g 64 4096) ⟨0, []⟩ ∧ Below w'.heap.size w' w'') := Lib.hid fun w' hb' => by
  obtain ⟨k1, _, p1⟩ := HS.out (fun _ => 0) 1
  exact both_any (p1.later hb') (by simp [TS.len])
 have a0 := block_cell (j := 0) HA3.out (v := .pointer (some ⟨w.heap.size, 0, none⟩)) rfl
 have a1 := block_cell (j := 1) HA3.out (v := .pointer (some ⟨w1.heap.size, 0, none⟩)) rfl
 generalize w2.heap.size = X at *
 go_region_law (first
  | (go_simp; go_at_call 54; refine (HK.out _).mono ?_; rintro e w5 ⟨rfl, rfl⟩)
  | (go_simp; go_at_call 55; refine (HBO.out _ (by first | exact below_drewN (Below.refl _ _) _ | exact Below.refl _ _)).mono ?_; rintro e w6 ⟨Bv', T', rfl, hf6, hb6⟩; have hb6' : Below W.heap.size W w6 := (by first | exact below_undrew hb6 | exact hb6); have b0 := block_cell (j := 0) (block_later HA3.out hb6') (v := .pointer (some ⟨w.heap.size, 0, none⟩)) rfl; have b1 := block_cell (j := 1) (block_later HA3.out hb6') (v := .pointer (some ⟨w1.heap.size, 0, none⟩)) rfl))
 all_goals
  have hb7 : Below w6.heap.size w6 (w6.alloc (.cells (dcells M ⟨w.heap.size, w1.heap.size, Bv', T', .slice none 0 0⟩) 114)) := (Below.refl _ _).alloc (Nat.le_refl _) _
  have HX : Hid (Born w (w6.alloc (.cells (dcells M ⟨w.heap.size, w1.heap.size, Bv', T', .slice none 0 0⟩) 114)) w6.heap.size D ∧ w.heap.size ≤ w6.heap.size ∧ Below w.heap.size w (w6.alloc (.cells (dcells M ⟨w.heap.size, w1.heap.size, Bv', T', .slice none 0 0⟩) 114))) := Lib.hid (by
   have hD := HD.out
   subst hD
   have hb06 := HB03.out.trans (hb6'.mono HB03.out.size)
   refine ⟨fun col c hc => ?_, hb06.size, hb06.trans (hb7.mono hb06.size)⟩
   obtain ⟨col', h1, h2⟩ := Dka.made (col := col) (A := ⟨w.heap.size, w1.heap.size, Bv', T', .slice none 0 0⟩) (d := ⟨M, g, cl g 64 4096, s, V, ⟨0, []⟩, []⟩) hc HM.out HB03.out HS.out hb6' hf6 (Below.refl _ _) (fun col' _ => Pe.nil _ _ _) hb7 (Nat.le_refl _) (alloc_block _ _)
   exact ⟨col', h1, _, h2⟩)
  clear hf6 hb6 hb6' hb7 b0 b1
  go_wp2_with fail
  go_ret
  exact ⟨_, rfl, HX.out⟩
theorem own_take_w {w : World} {p : Option Addr} {n cp k : Nat} {PL : List Pw} (h : w.ownsRow 0 134 1 (.slice p n cp) n (flatG ew PL)) (hk : k ≤ n) : w.ownsRow 0 134 1 (.slice p k cp) k (flatG ew (PL.take k)) := by
 have hl : PL.length = n := by
  have := h.1
  rwa [flatW_len, Nat.mul_one] at this
 have ht : ∀ L : List Pw, ∀ k, flatG ew (L.take k) = (flatG ew L).take k := by
  intro L
  induction L with
  | nil => intro k; simp [flatG]
  | cons x L ih =>
   intro k
   cases k with
   | zero => simp [flatG]
   | succ k =>
    have := ih k
    unfold flatG at *
    rw [List.take_succ_cons, List.flatMap_cons, List.flatMap_cons, this]
    rfl
 refine ⟨by rw [flatW_len, List.length_take]; omega, ?_⟩
 rcases h.2 with ⟨h1, h2⟩ | ⟨g, cap, cur, h1, h2, h3, h4, h5, h6, h7⟩
 · cases h1
   obtain rfl : k = 0 := by omega
   exact .inl ⟨rfl, rfl⟩
 · cases h1
   refine .inr ⟨g, cp, cur, rfl, h2, h3, by omega, h5, h6, ?_⟩
   rw [ht, ← h7, List.take_take]
   congr 1
   omega
section
variable {w : World} {col : Nat → Nat} {c B : Nat} {d : DS} {A : Ad} {V : List (List Int)} {t : TS}
def DS.cutL (d : DS) (k : Nat) : DS := { d with L := d.L.take k }
theorem Dkh.cut_pending {Bv T Bv' T' : Nat} {p : Option Addr} {cp : Nat} (h : Dkh w col c B ⟨Bv, T, Bv', T', .slice p d.L.length cp⟩ d V t) (k : Nat) (hk : k ≤ d.L.length) :
 Dkh (w.setCell ⟨B, 5, none⟩ (.slice p k cp)) col c B ⟨Bv, T, Bv', T', .slice p k cp⟩ (d.cutL k) V t ∧ Chg (fun x => x = B) w (w.setCell ⟨B, 5, none⟩ (.slice p k cp)) := by
 have hc : Chg (fun x => x = B) w (w.setCell ⟨B, 5, none⟩ (.slice p k cp)) := (Chg.refl _ _).setCell _ _ fun _ => rfl
 obtain ⟨⟨PL, q1, q2, q3⟩, q4⟩ := h.pe
 have hl : PL.length = d.L.length := by rw [← q1, List.length_map]
 have hB := h.cB
 have h0 := h.c0
 rw [hl] at q2
 refine ⟨⟨h.c0, block_put 5 _ h.blk, h.cB, ⟨⟨PL.take k, ?_, ?_, fun y hy => (q3 y (List.mem_of_mem_take hy)).keep hc fun x hx e => by subst e; omega⟩, fun x hx => ?_⟩, h.seen.keep hc fun x hx e => by subst e; omega, h.sure.keep hc fun x hx e => by subst e; omega, h.most⟩, hc⟩
 · show (PL.take k).map (·.x) = d.L.take k
   rw [← q1, List.map_take]
 · rw [List.length_take, Nat.min_eq_left (by omega)]
   refine own_keep (own_take_w q2 hk) hc fun x hx e => ?_
   subst e
   have : (Value.slice p d.L.length cp).ownBlock = some x := by cases p <;> exact hx
   have := q4 x this
   omega
 · have : (Value.slice p d.L.length cp).ownBlock = some x := by cases p <;> exact hx
   exact q4 x this
theorem Sy.end_ {w wr : World} {col col' : Nat → Nat} {c B : Nat} {A : Ad} {d : DS} {p : Option Addr} {n cp k : Nat} {PL : List Pw} (h : Sy w wr col col' c B A d V t p n cp PL k) (hk : k = d.L.length) :
 Dkh (wr.setCell ⟨B, 5, none⟩ (.slice none 0 0)) col' c B { A with pv := .slice none 0 0 } ⟨d.M, d.a, d.z, d.s, foldV d.s d.V d.L, foldT d.z d.t d.L, []⟩ V t ∧ Chg (fun k => col k = c ∨ col k = c + 4 ∨ col k = c + 5) w (wr.setCell ⟨B, 5, none⟩ (.slice none 0 0)) := by
 subst hk
 have hc : Chg (fun k => k = B) wr (wr.setCell ⟨B, 5, none⟩ (.slice none 0 0)) := (Chg.refl _ _).setCell _ _ fun _ => rfl
 have g := h.dk
 have hB := g.cB
 have h0 := g.c0
 have hsure : Pa wr col' (c + 4) A.Bv' A.T' d.s (foldV d.s d.V (d.L.take d.L.length)) d.a d.z (foldT d.z d.t (d.L.take d.L.length)) := g.sure
 rw [List.take_length] at hsure
 refine ⟨⟨g.c0, block_put 5 _ g.blk, hB, Pe.nil _ _ _, g.seen.keep hc fun k hk e => by subst e; omega, hsure.keep hc fun k hk e => by subst e; omega, g.most⟩, (h.chg.mono (T := fun k => col k = c ∨ col k = c + 4 ∨ col k = c + 5) fun k _ h => .inr h).trans hc fun k hk e => ?_⟩
 subst e
 have := h.ext k hk
 omega
theorem Dkh.set_sure {w' : World} {V' : List (List Int)} {t' : TS} (h : Dkh w col c B A d V t) (hw : (∃ col', Ext w col col' ∧ Pa w' col' (c + 4) A.Bv' A.T' d.s V' d.a d.z t') ∧ Chg (fun k => col k = c + 4 ∨ col k = c + 4 + 1) w w') :
 (∃ col', Ext w col col' ∧ Dkh w' col' c B A { d with V := V', t := t' } V t) ∧ Chg (own col c) w w' := by
 obtain ⟨⟨col', he, hp⟩, hc⟩ := hw
 have h0 := h.c0
 have g := h.recol he
 have hc' : Chg (fun k => col' k = c + 4 ∨ col' k = c + 4 + 1) w w' := hc.mono fun k hk h => by rw [he k hk]; exact h
 refine ⟨⟨col', he, g.c0, (hc'.block B (block_lt g.blk) (by have := g.cB; omega)).trans g.blk, g.cB, g.pe.keep hc' fun k hk => by omega, g.seen.keep hc' fun k hk => by omega, hp, g.most⟩, hc.mono fun k _ h => by unfold own; omega⟩
theorem Dkh.renew {w5 : World} {b2 t2 : Nat} (h : Dkh w col c B A d V t) (hL : d.L = []) (hb : Below w.heap.size w w5) (hf : Fresh w w5 b2 t2 d.s d.V d.a d.z d.t) :
 ∃ col', Ext w col col' ∧ Dk ((w5.setCell ⟨B, 1, none⟩ (.pointer (some ⟨b2, 0, none⟩))).setCell ⟨B, 2, none⟩ (.pointer (some ⟨t2, 0, none⟩))) col' c B d ∧ Chg (own col c) w ((w5.setCell ⟨B, 1, none⟩ (.pointer (some ⟨b2, 0, none⟩))).setCell ⟨B, 2, none⟩ (.pointer (some ⟨t2, 0, none⟩))) := by
 have hc : Chg (fun k => k = B) w5 ((w5.setCell ⟨B, 1, none⟩ (.pointer (some ⟨b2, 0, none⟩))).setCell ⟨B, 2, none⟩ (.pointer (some ⟨t2, 0, none⟩))) := ((Chg.refl (fun k => k = B) w5).setCell ⟨B, 1, none⟩ _ fun _ => rfl).setCell ⟨B, 2, none⟩ _ fun _ => rfl
 obtain ⟨col', he, hp⟩ := hf col (c + 2)
 have g := (h.recol he).later hb
 have hB := g.cB
 have h0 := g.c0
 obtain ⟨Bv, T, Bv', T', pv⟩ := A
 refine ⟨col', he, ⟨⟨b2, t2, Bv', T', pv⟩, g.c0, block_put 2 _ (block_put 1 _ g.blk), hB, g.pe.keep hc fun k hk e => by subst e; omega, ?_, g.sure.keep hc fun k hk e => by subst e; omega, g.most⟩, (Chg.of_below hb).trans hc fun k hk e => ?_⟩
 · have e1 : d.sV = d.V := by unfold DS.sV; rw [hL]; rfl
   have e2 : d.sT = d.t := by unfold DS.sT; rw [hL]; rfl
   rw [e1, e2]
   exact hp.keep hc fun k hk e => by subst e; omega
 · subst e
   have := he k hk
   unfold own
   omega
end
set_option maxHeartbeats 2000000 in
/-- All that is pending is kept. -/
theorem disk_crash_all {w : World} {col : Nat → Nat} {c B : Nat} {d : DS} (h : Dk w col c B d) (hbig : d.tot ≤ 1000000) (hL : d.L.length ≤ 1000000) (keep tear : Int) (hk : kp keep d.L.length = d.L.length) :
 Calls Tryz.prog 38 #[.pointer (some ⟨B, 0, none⟩), .int .i64 keep, .int .i64 tear] w fun e w' => e = .returned (.tuple #[]) ∧ Turned w col c B (d.crash keep tear) w' := by
 obtain ⟨⟨Bv, T, Bv', T', pv⟩, h⟩ := h
 obtain ⟨p, cp, PL, hp, hPL, hsl, hok, hat⟩ := h.pe.sl
 simp only at hp
 subst hp
 have hcap := hsl.cap
 have hd : d.crash keep tear = ⟨d.M, d.a, d.z, d.s, foldV d.s d.V d.L, foldT d.z d.t d.L, []⟩ := by
  unfold DS.crash crV crT
  rw [hk, List.drop_length, List.take_length]
 have HD := Lib.hid hd
 generalize d.crash keep tear = D at *
 have c5 : w.cell? ⟨B, 5, none⟩ = some (.slice p d.L.length cp) := block_cell h.blk rfl
 have g5 := block_free 5 h.blk
 have HK := Lib.hid fun w => disk_kept keep (d.L.length : Nat) w (by omega)
 rw [hk] at HK
 obtain ⟨hcut, hcc⟩ := h.half.cut_pending d.L.length (Nat.le_refl _)
 have hcl : d.cutL d.L.length = d := by unfold DS.cutL; rw [List.take_length]
 rw [hcl] at hcut
 have hsy := disk_sync_h hcut hbig hL
 have HC := Lib.hid hcc
 have HH := Lib.hid h
 clear hd hk hPL hsl hok hat h hcut hcc hcl
 generalize hn : d.L.length = n at *
 have HN := Lib.hid hn
 clear hn
 by_cases hcn : cp = n
 · subst hcn
   go_enter Tryz.func38, Tryz.ntmps38
   go_wp2_with fail
   refine (HK.out _).mono ?_
   rintro e w1 ⟨rfl, rfl⟩
   go_wp2_with fail
   refine hsy.mono ?_
   rintro e w2 ⟨rfl, col', wr, p1, n1, cp1, PL1, hs, hw2⟩
   obtain ⟨hd3, hc3⟩ := hs.end_ HN.out.symm
   have HE := Lib.hid hs.ext
   rw [← hw2] at hd3 hc3
   have hz := hd3.seen.z_in
   have hbo := both_any hd3.sure (by have h1 := foldT_len (z := d.z) (by have : 64 ≤ d.z := hz.1; omega) d.L d.t; unfold DS.tot at hbig; exact Nat.le_trans h1 hbig)
   have b3 : w2.cell? ⟨B, 3, none⟩ = some (.pointer (some ⟨Bv', 0, none⟩)) := block_cell hd3.blk rfl
   have b4 : w2.cell? ⟨B, 4, none⟩ = some (.pointer (some ⟨T', 0, none⟩)) := block_cell hd3.blk rfl
   have HD3 := Lib.hid hd3
   have HC3 := Lib.hid hc3
   clear hd3 hc3 hs hw2 hsy hz
   go_wp2_with fail
   refine hbo.mono ?_
   rintro e w5 ⟨b2, t2, rfl, hf5, hb5⟩
   obtain ⟨col6, he6, hd6, hc6⟩ := HD3.out.renew rfl hb5 hf5
   have hblk5 := block_later HD3.out.blk hb5
   have x1 := block_cell (j := 1) hblk5 (v := .pointer (some ⟨Bv, 0, none⟩)) rfl
   have x2 := block_cell (j := 2) hblk5 (v := .pointer (some ⟨T, 0, none⟩)) rfl
   have y1 := block_free 1 hblk5
   have y2 := block_free 2 hblk5
   have HX : Hid (Turned w1 col c B D ((w5.setCell ⟨B, 1, none⟩ (.pointer (some ⟨b2, 0, none⟩))).setCell ⟨B, 2, none⟩ (.pointer (some ⟨t2, 0, none⟩)))) := Lib.hid (by
    have s1 := HC.out.size
    have s3 := HC3.out.size
    have e1 : Ext w1 col col' := fun k hk => HE.out k (Nat.lt_of_lt_of_le hk s1)
    rw [HD.out]
    have h0 := HH.out.c0
    have hB := HH.out.cB
    refine ⟨col6, e1.trans he6 (Nat.le_trans s1 s3), hd6, ((HC.out.mono (T := own col c) fun k _ e => ?_).trans HC3.out fun k _ h => ?_).trans hc6 fun k hk h => ?_⟩
    · subst e; unfold own; omega
    · unfold own; omega
    · unfold own at *
      rwa [e1 k hk] at h)
   clear hf5 hb5 he6 hd6 hc6 hblk5 hbo
   go_wp2_with fail
   go_end0
   exact ⟨rfl, HX.out⟩
 · go_enter Tryz.func38, Tryz.ntmps38
   go_wp2_with fail
   refine (HK.out _).mono ?_
   rintro e w1 ⟨rfl, rfl⟩
   go_wp2_with fail
   refine hsy.mono ?_
   rintro e w2 ⟨rfl, col', wr, p1, n1, cp1, PL1, hs, hw2⟩
   obtain ⟨hd3, hc3⟩ := hs.end_ HN.out.symm
   have HE := Lib.hid hs.ext
   rw [← hw2] at hd3 hc3
   have hz := hd3.seen.z_in
   have hbo := both_any hd3.sure (by have h1 := foldT_len (z := d.z) (by have : 64 ≤ d.z := hz.1; omega) d.L d.t; unfold DS.tot at hbig; exact Nat.le_trans h1 hbig)
   have b3 : w2.cell? ⟨B, 3, none⟩ = some (.pointer (some ⟨Bv', 0, none⟩)) := block_cell hd3.blk rfl
   have b4 : w2.cell? ⟨B, 4, none⟩ = some (.pointer (some ⟨T', 0, none⟩)) := block_cell hd3.blk rfl
   have HD3 := Lib.hid hd3
   have HC3 := Lib.hid hc3
   clear hd3 hc3 hs hw2 hsy hz
   go_wp2_with fail
   refine hbo.mono ?_
   rintro e w5 ⟨b2, t2, rfl, hf5, hb5⟩
   obtain ⟨col6, he6, hd6, hc6⟩ := HD3.out.renew rfl hb5 hf5
   have hblk5 := block_later HD3.out.blk hb5
   have x1 := block_cell (j := 1) hblk5 (v := .pointer (some ⟨Bv, 0, none⟩)) rfl
   have x2 := block_cell (j := 2) hblk5 (v := .pointer (some ⟨T, 0, none⟩)) rfl
   have y1 := block_free 1 hblk5
   have y2 := block_free 2 hblk5
   have HX : Hid (Turned w1 col c B D ((w5.setCell ⟨B, 1, none⟩ (.pointer (some ⟨b2, 0, none⟩))).setCell ⟨B, 2, none⟩ (.pointer (some ⟨t2, 0, none⟩)))) := Lib.hid (by
    have s1 := HC.out.size
    have s3 := HC3.out.size
    have e1 : Ext w1 col col' := fun k hk => HE.out k (Nat.lt_of_lt_of_le hk s1)
    rw [HD.out]
    have h0 := HH.out.c0
    have hB := HH.out.cB
    refine ⟨col6, e1.trans he6 (Nat.le_trans s1 s3), hd6, ((HC.out.mono (T := own col c) fun k _ e => ?_).trans HC3.out fun k _ h => ?_).trans hc6 fun k hk h => ?_⟩
    · subst e; unfold own; omega
    · unfold own; omega
    · unfold own at *
      rwa [e1 k hk] at h)
   clear hf5 hb5 he6 hd6 hc6 hblk5 hbo
   go_wp2_with fail
   go_end0
   exact ⟨rfl, HX.out⟩
theorem cutL_tot (d : DS) (k : Nat) : (d.cutL k).tot ≤ d.tot := by
 have := wts_take_drop d.L k
 show d.t.len d.z + wts (d.L.take k) ≤ d.t.len d.z + wts d.L
 omega
set_option maxHeartbeats 2000000 in
/-- Something is lost. -/
theorem disk_crash_some {w : World} {col : Nat → Nat} {c B : Nat} {d : DS} (h : Dk w col c B d) (hbig : d.tot ≤ 1000000) (hL : d.L.length ≤ 1000000) (keep tear : Int) (k : Nat) (hk : kp keep d.L.length = k) (hkn : k < d.L.length) :
 Calls Tryz.prog 38 #[.pointer (some ⟨B, 0, none⟩), .int .i64 keep, .int .i64 tear] w fun e w' => e = .returned (.tuple #[]) ∧ Turned w col c B (d.crash keep tear) w' := by
 obtain ⟨⟨Bv, T, Bv', T', pv⟩, h⟩ := h
 obtain ⟨p, cp, PL, hp, hPL, hsl, hok, hat⟩ := h.pe.sl
 simp only at hp
 subst hp
 have hcap := hsl.cap
 have hlen : PL.length = d.L.length := hsl.len
 obtain ⟨b, off, hp, hbl, hcell⟩ := SlW_at hsl hkn
 subst hp
 have hbc : col b = c + 1 := hat (by omega) _ rfl
 have hLk : d.L[k]? = some (PL.getD k yd).x := by
  rw [← hPL, List.getElem?_map, List.getD, List.getElem?_eq_getElem (by omega)]
  rfl
 have hmem : PL.getD k yd ∈ PL := by
  rw [List.getD, List.getElem?_eq_getElem (by omega)]
  exact List.getElem_mem _
 have hoky := hok _ hmem
 have hd : d.crash keep tear = ⟨d.M, d.a, d.z, d.s, dwVn d.s tear (foldV d.s d.V (d.L.take k)) (PL.getD k yd).x, dwTn tear (foldT d.z d.t (d.L.take k)) (PL.getD k yd).x, []⟩ := by
  have hdr : d.L.drop k = (PL.getD k yd).x :: d.L.drop (k + 1) := by
   rw [List.drop_eq_getElem_cons hkn]
   congr 1
   rw [List.getElem?_eq_getElem hkn] at hLk
   exact Option.some.inj hLk
  unfold DS.crash crV crT
  rw [hk, hdr]
 have hwt : (foldT d.z d.t (d.L.take k)).len d.z + (PL.getD k yd).x.wt ≤ 1000000 := by
  have hz := h.seen.z_in
  have h1 := foldT_len (z := d.z) (by omega) (d.L.take k) d.t
  have h2 := wts_take_drop d.L (k + 1)
  rw [List.take_add_one, hLk] at h2
  simp only [Option.toList_some] at h2
  rw [wts_snoc] at h2
  unfold DS.tot at hbig
  omega
 generalize PL.getD k yd = y at *
 have HD := Lib.hid hd
 generalize d.crash keep tear = D at *
 have c5 : w.cell? ⟨B, 5, none⟩ = some (.slice (some ⟨b, off, none⟩) d.L.length cp) := block_cell h.blk rfl
 have g5 := block_free 5 h.blk
 have HK := Lib.hid fun w => disk_kept keep (d.L.length : Nat) w (by omega)
 rw [hk] at HK
 obtain ⟨hcut, hcc⟩ := h.half.cut_pending k (by omega)
 have hlk : k = (d.cutL k).L.length := by show k = (d.L.take k).length; rw [List.length_take]; omega
 have hsy := disk_sync_h hcut (Nat.le_trans (cutL_tot d k) hbig) (by rw [← hlk]; omega)
 rw [← hlk] at hsy
 have HC := Lib.hid hcc
 have HH := Lib.hid h
 have HLK := Lib.hid hlk
 have HOK := Lib.hid hoky
 have HCELL := Lib.hid hcell
 have HBL := Lib.hid hbl
 have HBC := Lib.hid hbc
 have HWT := Lib.hid hwt
 have hne : ¬ cp = k := by omega
 have hk1 : (k : Int) ≤ (d.L.length : Int) := by omega
 have hk2 : (k : Int) ≤ (cp : Int) := by omega
 have hk3 : ¬ (d.L.length : Int) ≤ (k : Int) := by omega
 have hk4 : k ≤ d.L.length := by omega
 have hk5 : k ≤ cp := by omega
 obtain ⟨m, hm⟩ : ∃ m, d.L.length - k = m := ⟨_, rfl⟩
 have hm0 : 0 < m := by omega
 have hm1 : (0 : Int) < (m : Int) := by omega
 have hm2 : decide ((0 : Int) < (m : Int)) = true := decide_eq_true hm1
 clear hd hk hPL hsl hok hat h hcut hcc hlk hoky hcell hbl hbc hwt hLk hmem hlen hkn
 generalize hn : d.L.length = n at *
 have HN := Lib.hid hn
 clear hn
 go_enter Tryz.func38, Tryz.ntmps38
 go_wp2_with fail
 refine (HK.out _).mono ?_
 rintro e w1 ⟨rfl, rfl⟩
 go_wp2_with fail
 refine hsy.mono ?_
 rintro e w2 ⟨rfl, col', wr, p1, n1, cp1, PL1, hs, hw2⟩
 obtain ⟨hd3, hc3⟩ := hs.end_ HLK.out
 have hext := hs.ext
 rw [← hw2] at hd3 hc3
 have s1 := HC.out.size
 have hb12 : w2.heap[b]? = w1.heap[b]? := (hc3.block b (Nat.lt_of_lt_of_le HBL.out s1) (by have := HBC.out; omega)).trans (HC.out.block b HBL.out (by have h1 := HBC.out; have h2 := HH.out.cB; rintro rfl; have h3 : col b = c := h2; omega))
 have he1 : Ext w1 col col' := fun x hx => hext x (Nat.lt_of_lt_of_le hx s1)
 have hoky2 : y.ok w2 col' := by
  have hB := HH.out.cB
  have h0 := HH.out.c0
  have g := (HOK.out.keep HC.out fun x hx e => by subst e; omega).keep hc3 fun x hx e => by omega
  refine ⟨g.bl, fun h0 a ha => ?_, g.np⟩
  obtain ⟨b', off', hp', hlt', _⟩ := BL.at HOK.out.bl h0
  rw [hp'] at ha
  cases ha
  rw [he1 b' hlt']
  exact HOK.out.c0 h0 _ hp'
 have hcell2 : w2.cell? ⟨b, off + k, none⟩ = some (.iface (wty y.x) (wval y)) := by
  rw [← Pw.val_eq]
  exact (World.cell?_of_block (a := ⟨b, off + k, none⟩) hb12).trans HCELL.out
 have b3 : w2.cell? ⟨B, 3, none⟩ = some (.pointer (some ⟨Bv', 0, none⟩)) := block_cell hd3.blk rfl
 have b4 : w2.cell? ⟨B, 4, none⟩ = some (.pointer (some ⟨T', 0, none⟩)) := block_cell hd3.blk rfl
 have HT : Hid (∀ q, Calls Tryz.prog (tornF y.x) #[wval y, .agg #[.pointer (some ⟨Bv', 0, none⟩), .pointer (some ⟨T', 0, none⟩)], .int .i64 tear] (w2.drewN q) (WroteD w2 col' (c + 4) Bv' T' d.s (dwVn d.s tear (foldV d.s d.V (d.L.take k)) y.x) d.a d.z (dwTn tear (foldT d.z d.t (d.L.take k)) y.x))) := Lib.hid fun q => by
  have hbq := below_drewN (Below.refl w2.heap.size w2) q
  refine (torn_any (hd3.sure.later hbq) (by have := hd3.c0; omega) y (hoky2.keep (Chg.of_below (S := fun _ => False) hbq) fun _ _ h => h) HWT.out tear).mono ?_
  rintro e w' ⟨h1, h2, h3⟩
  exact ⟨h1, h2, h3.undrew⟩
 have HD3 := Lib.hid hd3
 have HC3 := Lib.hid hc3
 have HE := Lib.hid he1
 clear hd3 hc3 hs hw2 hsy hext he1 hoky2 hb12
 have hme := torn_meth y
 have hen := torn_enter y.x
 go_wp2_with fail
 go_region_law (first | (go_simp; refine (HT.out _).mono ?_; rintro e w4 ⟨rfl, hw4, hc4⟩))
 all_goals
  obtain ⟨⟨col4, he4, hd4⟩, hc4'⟩ := HD3.out.set_sure ⟨hw4, hc4⟩
  have hbo := both_any hd4.sure (Nat.le_trans (dwTn_len _ _ _ _) HWT.out)
  have b3' : w4.cell? ⟨B, 3, none⟩ = some (.pointer (some ⟨Bv', 0, none⟩)) := block_cell hd4.blk rfl
  have b4' : w4.cell? ⟨B, 4, none⟩ = some (.pointer (some ⟨T', 0, none⟩)) := block_cell hd4.blk rfl
  have HD4 := Lib.hid hd4
  have HC4 := Lib.hid hc4'
  have HE4 := Lib.hid he4
  clear hd4 hc4 hc4' hw4 he4
  go_wp2_with fail
  refine hbo.mono ?_
  rintro e w5 ⟨b2, t2, rfl, hf5, hb5⟩
  obtain ⟨col6, he6, hd6, hc6⟩ := HD4.out.renew rfl hb5 hf5
  have hblk5 := block_later HD4.out.blk hb5
  have x1 := block_cell (j := 1) hblk5 (v := .pointer (some ⟨Bv, 0, none⟩)) rfl
  have x2 := block_cell (j := 2) hblk5 (v := .pointer (some ⟨T, 0, none⟩)) rfl
  have y1 := block_free 1 hblk5
  have y2 := block_free 2 hblk5
  have HX : Hid (Turned w1 col c B D ((w5.setCell ⟨B, 1, none⟩ (.pointer (some ⟨b2, 0, none⟩))).setCell ⟨B, 2, none⟩ (.pointer (some ⟨t2, 0, none⟩)))) := Lib.hid (by
   have s3 := HC3.out.size
   have s4 := HC4.out.size
   have e14 : Ext w1 col col4 := HE.out.trans HE4.out (Nat.le_trans s1 s3)
   rw [HD.out]
   have h0 := HH.out.c0
   have hB := HH.out.cB
   refine ⟨col6, e14.trans he6 (Nat.le_trans s1 (Nat.le_trans s3 s4)), hd6, (((HC.out.mono (T := own col c) fun k _ e => ?_).trans HC3.out fun k _ h => ?_).trans HC4.out fun k hk h => ?_).trans hc6 fun k hk h => ?_⟩
   · subst e; unfold own; omega
   · unfold own; omega
   · unfold own at *
     rwa [HE.out k hk] at h
   · unfold own at *
     rwa [e14 k hk] at h)
  clear hf5 hb5 he6 hd6 hc6 hblk5 hbo
  go_wp2_with fail
  go_end0
  exact ⟨rfl, HX.out⟩
theorem disk_crash {w : World} {col : Nat → Nat} {c B : Nat} {d : DS} (h : Dk w col c B d) (hbig : d.tot ≤ 1000000) (hL : d.L.length ≤ 1000000) (keep tear : Int) :
 Calls Tryz.prog 38 #[.pointer (some ⟨B, 0, none⟩), .int .i64 keep, .int .i64 tear] w fun e w' => e = .returned (.tuple #[]) ∧ Turned w col c B (d.crash keep tear) w' := by
 have h1 := kp_le keep (d.L.length : Nat) (by omega)
 rcases Nat.lt_or_ge (kp keep d.L.length) d.L.length with h2 | h2
 · exact disk_crash_some h hbig hL keep tear _ rfl h2
 · exact disk_crash_all h hbig hL keep tear (by omega)
section
variable {w : World} {col : Nat → Nat} {c B : Nat} {d : DS}
theorem cloned_ok {w2 w3 : World} {A : Ad} {V : List (List Int)} {t : TS} {p' : Option Addr} {cp' : Nat} {b : List Int} {x : Dw} (hx : x.bytes = b) (hnp : x.np) (h : Dkh w2 col c B A d V t) (hb : BL w3 p' b.length cp' b) (hn : 0 < b.length → ∀ a, p' = some a → w2.heap.size ≤ a.block) (hw : Below w2.heap.size w2 w3) :
 Ext w2 col (paint col w2.heap.size 0) ∧ Dkh w3 (paint col w2.heap.size 0) c B A d V t ∧ Pw.ok w3 (paint col w2.heap.size 0) ⟨x, p', cp'⟩ := by
 subst hx
 exact ⟨Ext.paint _ _ _, (h.recol (Ext.paint _ _ _)).later hw, hb, fun h0 a ha => paint_new (hn h0 a ha), hnp⟩
set_option maxHeartbeats 2000000 in
theorem disk_append (h : Dk w col c B d) (hbig : d.tot + 65536 ≤ 1000000) (hL : d.L.length < 1000000) (p : Option Addr) (m cp : Nat) (b : List Int) (hb : BL w p m cp b) (h0 : 0 < m → ∀ a, p = some a → ¬ own col c a.block) :
 Calls Tryz.prog 25 #[.pointer (some ⟨B, 0, none⟩), .slice p m cp] w fun e w' => e = .returned (.int .i64 (d.addE b)) ∧ Turned w col c B (d.app b) w' := by
 obtain rfl := hb.len
 by_cases hm : 65536 < b.length
 · have e1 : d.addE b = 7 := if_pos hm
   have e2 : d.app b = d := if_neg (by rw [e1]; omega)
   rw [e1, e2]
   have hm' : (65536 : Int) < (b.length : Int) := by omega
   have HX : Hid (Turned w col c B d w) := Lib.hid ⟨col, Ext.refl _ _, h, Chg.refl _ _⟩
   clear h hb h0
   generalize b.length = n at *
   go_enter Tryz.func25, Tryz.ntmps25
   go_wp2_with fail
   go_ret
   exact ⟨rfl, HX.out⟩
 · have hz := h.z_in
   have hsT := d.sT_len (by omega)
   have hf := fun w' (hb' : Below w.heap.size w w') => disk_first (h.later hb')
   have he := fun w' (hb' : Below w.heap.size w w') => disk_end (h.later hb')
   obtain ⟨A, h⟩ := h
   have H := Lib.hid h
   have HB := Lib.hid hb
   have HN := Lib.hid h0
   have HM : Hid (∀ p : After w, p.w.cell? ⟨B, 0, none⟩ = some (.int .i64 (d.M : Nat))) := Lib.hid fun p => cell_after p (block_cell h.blk rfl)
   have hMM := h.most
   have HE1 : Hid ((d.M : Int) < (d.sT.B.length : Int) + b.length → d.addE b = 4 ∧ d.app b = d) := Lib.hid fun h => by
    have e1 : d.addE b = 4 := by unfold DS.addE; rw [if_neg hm, if_pos h]
    exact ⟨e1, if_neg (by rw [e1]; omega)⟩
   have HE2 : Hid (¬ (d.M : Int) < (d.sT.B.length : Int) + b.length → d.addE b = 0 ∧ d.app b = d.add (.grow b)) := Lib.hid fun h => by
    have e1 : d.addE b = 0 := by unfold DS.addE; rw [if_neg hm, if_neg h]
    exact ⟨e1, if_pos e1⟩
   have HF : Hid (∀ p : After w, Calls Tryz.prog 57 #[.pointer (some ⟨B, 0, none⟩)] p.w fun e w' => e = .returned (.int .i64 (d.sT.f * d.z : Nat)) ∧ Below p.w.heap.size p.w w') := Lib.hid fun p => hf p.w p.h
   have HE : Hid (∀ p : After w, Calls Tryz.prog 39 #[.pointer (some ⟨B, 0, none⟩)] p.w fun e w' => e = .returned (.int .i64 (d.sT.f * d.z + d.sT.B.length : Nat)) ∧ Below p.w.heap.size p.w w') := Lib.hid fun p => he p.w p.h
   have hlen : d.sT.f * d.z + d.sT.B.length ≤ 1000000 := by have : d.sT.len d.z = d.sT.f * d.z + d.sT.B.length := rfl; omega
   have hbig2 : d.sT.len d.z + b.length ≤ 1000000 := by omega
   have HBIG := Lib.hid hbig2
   have hm' : ¬ (65536 : Int) < (b.length : Int) := by omega
   clear h hb h0 hf he hz hbig hbig2
   generalize hD : d.app b = D at *
   generalize hE0 : d.addE b = e0 at *
   obtain ⟨E, hEE⟩ : ∃ E, d.sT.f * d.z + d.sT.B.length = E := ⟨_, rfl⟩
   rw [hEE] at HE hlen
   generalize hF : d.sT.f * d.z = F at *
   generalize hT : d.sT.B.length = n0 at *
   generalize hn : b.length = n at *
   have x1 : (E : Int) - (F : Int) = (n0 : Int) := by omega
   have x2 : IntKind.i64.wrap (n0 : Int) = (n0 : Int) := IntWalk.i64_in _ (by omega)
   have x5 : IntKind.i64.wrap ((n0 : Int) + (n : Int)) = (n0 : Int) + (n : Int) := IntWalk.i64_in _ (by omega)
   have HM2 : ∀ p : After w, p.w.cell? ⟨B, 0, none⟩ = some (.int .i64 (d.M : Nat)) := HM.out
   have HMM : Hid (d.M = d.M) := Lib.hid rfl
   have HEE := Lib.hid hEE
   have HFF := Lib.hid hF
   have HTT := Lib.hid hT
   have HNN := Lib.hid hn
   have HDD := Lib.hid hD
   have HEZ := Lib.hid hE0
   clear hEE hF hT hn hD hE0
   by_cases hc : (d.M : Int) < (n0 : Int) + (n : Int)
   · obtain ⟨q1, q2⟩ := HE1.out hc
     subst q1
     have HX : Hid (∀ w', Below w.heap.size w w' → Turned w col c B D w') := Lib.hid fun w' hb' => by
      rw [q2]
      exact ⟨col, Ext.refl _ _, ⟨A, H.out.later hb'⟩, Chg.of_below hb'⟩
     clear HE1 HE2 q2
     generalize d.M = M at *
     go_enter Tryz.func25, Tryz.ntmps25
     go_wp2_with fail
     refine wp_region_after (by kernel_rfl) (by kernel_rfl) ?_
     repeat (go_big_quiet_step (first | (go_at_call 57; exact calls_after _ (HF.out _)) | (go_at_call 39; exact calls_after _ (HE.out _))))
     refine wpQuiet_nil ?_
     intro w3 hw
     obtain ⟨⟨wq, h6⟩, hw2⟩ := hw
     subst hw2
     have HX3 := Lib.hid (HX.out _ h6)
     clear h6
     go_wp2_with fail
     go_ret
     exact ⟨rfl, HX3.out⟩
   · obtain ⟨q1, q2⟩ := HE2.out hc
     subst q1
     have HD := Lib.hid q2
     clear HE1 HE2 q2
     have HMG : Hid (∃ M, M = d.M) := Lib.hid ⟨_, rfl⟩
     generalize hM : d.M = M at *
     have HMQ := Lib.hid hM
     clear hM
     go_enter Tryz.func25, Tryz.ntmps25
     go_wp2_with fail
     refine wp_region_after (by kernel_rfl) (by kernel_rfl) ?_
     repeat (go_big_quiet_step (first | (go_at_call 57; exact calls_after _ (HF.out _)) | (go_at_call 39; exact calls_after _ (HE.out _))))
     refine wpQuiet_nil ?_
     intro w3 hw
     obtain ⟨⟨wq, h6⟩, hw2⟩ := hw
     subst hw2
     have HB6 := Lib.hid h6
     have h1 := H.out.later h6
     have a2 : w3.cell? ⟨B, 2, none⟩ = some (.pointer (some ⟨A.T, 0, none⟩)) := block_cell h1.blk rfl
     obtain ⟨mb, ht⟩ := h1.seen.tp
     have hadd := tape_add ht p n cp b (SlG.later HB.out h6) (fun hm a ha e => HN.out hm a ha (by unfold own; rw [show col a.block = c + 2 + 1 from e]; omega)) (by have : d.sT.f * d.z + d.sT.B.length = d.sT.len d.z := rfl; have := HBIG.out; omega)
     have H1 := Lib.hid h1
     clear h6 h1 ht
     go_wp2_with fail
     refine hadd.mono ?_
     rintro e w2 ⟨rfl, ⟨mb', ht2⟩, hc2⟩
     have HS := Lib.hid (H1.out.half.set_seen (H1.out.seen.tape (Below.refl _ _) ht2 hc2))
     have HB2 : Hid (BL w2 p n cp b) := Lib.hid (BL.keep (SlG.later HB.out HB6.out) hc2 fun hm a ha e => HN.out hm a ha (by unfold own; rw [show col a.block = c + 2 + 1 from e]; omega))
     clear ht2 hc2 hadd
     have hcl := clone_b p n cp b w2 HB2.out (by omega)
     go_wp2_with fail
     refine hcl.mono ?_
     rintro e w4 ⟨p', c', rfl, hbl3, hn3, hb3⟩
     obtain ⟨⟨col2, he2, hd2⟩, hc2⟩ := HS.out
     have hnn := HNN.out
     subst hnn
     obtain ⟨he3, hd3, hok3⟩ := cloned_ok (x := .grow b) rfl trivial hd2 hbl3 hn3 hb3
     have hwt := wait_any hd3 ⟨.grow b, p', c'⟩ hok3 _ _ rfl hL
     have HC2 := Lib.hid hc2
     have HE2 := Lib.hid he2
     have HE3 := Lib.hid he3
     have HB3 := Lib.hid hb3
     clear hbl3 hn3 hb3 he2 hd2 hc2 he3 hd3 hok3 hcl HS H1 HB2
     go_wp2_with fail
     refine hwt.mono ?_
     rintro e w5 ⟨rfl, ⟨A', col4, he4, hd4⟩, hc4⟩
     have HX : Hid (Turned w col c B D w5) := Lib.hid (by
      have hs6 := HB6.out.size
      have hs2 := HC2.out.size
      have hs3 := HB3.out.size
      have e02 : Ext w col col2 := (Ext.refl w col).trans HE2.out hs6
      have e23 := e02.trans HE3.out (Nat.le_trans hs6 hs2)
      refine ⟨col4, e23.trans he4 (Nat.le_trans hs6 (Nat.le_trans hs2 hs3)), ?_, ?_⟩
      · rw [HD.out]
        have e1 : d.sV = (d.add (.grow b)).sV := (add_sV d (.grow b)).symm
        have e2 : appT d.sT b = (d.add (.grow b)).sT := (add_sT d (.grow b)).symm
        refine ⟨A', Dkh.whole ?_⟩
        rw [← e1, ← e2]
        exact hd4
      · refine (((Chg.of_below HB6.out).trans HC2.out fun k _ h => h).trans (T := fun _ => False) (Chg.of_below HB3.out) fun k _ h => h.elim).trans hc4 fun k hk h => ?_
        unfold own at *
        rwa [e23 k hk] at h)
     clear he4 hd4 hc4 hwt
     go_wp2_with fail
     go_ret
     exact ⟨rfl, HX.out⟩
set_option maxHeartbeats 1000000 in
theorem disk_drop (h : Dk w col c B d) (hbig : d.tot ≤ 1000000) (hL : d.L.length < 1000000) (x : Int) :
 Calls Tryz.prog 26 #[.pointer (some ⟨B, 0, none⟩), .int .i64 x] w fun e w' => e = .returned (.tuple #[]) ∧ Turned w col c B (d.add (.drop x)) w' := by
 have hz := h.z_in
 have hsT := d.sT_len (by omega)
 obtain ⟨A, h⟩ := h
 have a2 : w.cell? ⟨B, 2, none⟩ = some (.pointer (some ⟨A.T, 0, none⟩)) := block_cell h.blk rfl
 obtain ⟨mb, ht⟩ := h.seen.tp
 have hdo := tape_drop ht x (by have : d.sT.f * d.z + d.sT.B.length = d.sT.len d.z := rfl; omega)
 have H := Lib.hid h
 clear h ht
 go_enter Tryz.func26, Tryz.ntmps26
 go_wp2_with fail
 refine hdo.mono ?_
 rintro e w2 ⟨rfl, ht2, hc2⟩
 have HS := Lib.hid (H.out.half.set_seen (H.out.seen.tape (Below.refl _ _) (ht2.mono fun k hk _ => .inl hk) hc2))
 obtain ⟨⟨col2, he2, hd2⟩, hc2'⟩ := HS.out
 have hwt := wait_any hd2 ⟨.drop x, none, 0⟩ ⟨SlG.empty _, fun h => absurd h (by simp [Dw.bytes]), trivial⟩ _ _ rfl hL
 have HC2 := Lib.hid hc2'
 have HE2 := Lib.hid he2
 clear ht2 hc2 hdo he2 hd2 hc2' HS
 go_wp2_with fail
 refine hwt.mono ?_
 rintro e w5 ⟨rfl, ⟨A', col4, he4, hd4⟩, hc4⟩
 have HX : Hid (Turned w col c B (d.add (.drop x)) w5) := Lib.hid (by
  have hs2 := HC2.out.size
  refine ⟨col4, HE2.out.trans he4 hs2, ?_, ?_⟩
  · have e1 : d.sV = (d.add (.drop x)).sV := (add_sV d (.drop x)).symm
    have e2 : dropT d.z d.sT x = (d.add (.drop x)).sT := (add_sT d (.drop x)).symm
    refine ⟨A', Dkh.whole ?_⟩
    rw [← e1, ← e2]
    exact hd4
  · refine HC2.out.trans hc4 fun k hk h => ?_
    unfold own at *
    rwa [HE2.out k hk] at h)
 clear he4 hd4 hc4 hwt
 go_wp2_with fail
 go_end0
 exact ⟨rfl, HX.out⟩
set_option maxHeartbeats 1000000 in
theorem disk_cut (h : Dk w col c B d) (hbig : d.tot ≤ 1000000) (hL : d.L.length < 1000000) (x : Int) :
 Calls Tryz.prog 58 #[.pointer (some ⟨B, 0, none⟩), .int .i64 x] w fun e w' => e = .returned (.tuple #[]) ∧ Turned w col c B (d.add (.cut x)) w' := by
 have hz := h.z_in
 have hsT := d.sT_len (by omega)
 obtain ⟨A, h⟩ := h
 have a2 : w.cell? ⟨B, 2, none⟩ = some (.pointer (some ⟨A.T, 0, none⟩)) := block_cell h.blk rfl
 obtain ⟨mb, ht⟩ := h.seen.tp
 have hdo := tape_cut ht x (by have : d.sT.f * d.z + d.sT.B.length = d.sT.len d.z := rfl; omega)
 have H := Lib.hid h
 clear h ht
 go_enter Tryz.func58, Tryz.ntmps58
 go_wp2_with fail
 refine hdo.mono ?_
 rintro e w2 ⟨rfl, ht2, hc2⟩
 have HS := Lib.hid (H.out.half.set_seen (H.out.seen.tape (Below.refl _ _) (ht2.mono fun k hk _ => .inl hk) hc2))
 obtain ⟨⟨col2, he2, hd2⟩, hc2'⟩ := HS.out
 have hwt := wait_any hd2 ⟨.cut x, none, 0⟩ ⟨SlG.empty _, fun h => absurd h (by simp [Dw.bytes]), trivial⟩ _ _ rfl hL
 have HC2 := Lib.hid hc2'
 have HE2 := Lib.hid he2
 clear ht2 hc2 hdo he2 hd2 hc2' HS
 go_wp2_with fail
 refine hwt.mono ?_
 rintro e w5 ⟨rfl, ⟨A', col4, he4, hd4⟩, hc4⟩
 have HX : Hid (Turned w col c B (d.add (.cut x)) w5) := Lib.hid (by
  have hs2 := HC2.out.size
  refine ⟨col4, HE2.out.trans he4 hs2, ?_, ?_⟩
  · have e1 : d.sV = (d.add (.cut x)).sV := (add_sV d (.cut x)).symm
    have e2 : cutT d.z d.sT x = (d.add (.cut x)).sT := (add_sT d (.cut x)).symm
    refine ⟨A', Dkh.whole ?_⟩
    rw [← e1, ← e2]
    exact hd4
  · refine HC2.out.trans hc4 fun k hk h => ?_
    unfold own at *
    rwa [HE2.out k hk] at h)
 clear he4 hd4 hc4 hwt
 go_wp2_with fail
 go_end0
 exact ⟨rfl, HX.out⟩
end
end Go.Proofs.YtfdgnniicjdjdaaGreatDoor
