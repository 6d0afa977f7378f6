import Derived.Test.YtfdgnniicjdjdaaGreatDoorPn18
import Derived.StillTailTactics
import Derived.WalkSpells
import Derived.IntWalk
import Derived.Deep.RegionLaw
import Derived.LoopTactic
namespace Go.Proofs.YtfdgnniicjdjdaaGreatDoor
open Go.RowKit Go.ChangeShapes Go.WideShapes
set_option linter.unusedVariables false
set_option maxRecDepth 10000
set_option linter.unusedSimpArgs false
def WroteD (w : World) (col : Nat → Nat) (c Bv T s : Nat) (V : List (List Int)) (a : Int) (z : Nat) (t : TS) (e : Ending) (w' : World) : Prop :=
  e = .returned (.tuple #[]) ∧ (∃ col', Ext w col col' ∧ Pa w' col' c Bv T s V a z t) ∧ Chg (fun k => col k = c ∨ col k = c + 1) w w'
abbrev pcells (Bv T : Nat) : Array Value := #[.pointer (some ⟨Bv, 0, none⟩), .pointer (some ⟨T, 0, none⟩)]
theorem two_boxes (w : World) (x y : Array Value) (S T : TypeId) : ((w.alloc (.cells x S)).alloc (.cells y T)).heap[w.heap.size]? = some (.cells x S (0, 0)) ∧ ((w.alloc (.cells x S)).alloc (.cells y T)).heap[w.heap.size + 1]? = some (.cells y T (0, 0)) ∧
    Below w.heap.size w ((w.alloc (.cells x S)).alloc (.cells y T)) := by
  have hs : (w.alloc (.cells x S)).heap.size = w.heap.size + 1 := by simp
  have h2 := alloc_block (w.alloc (.cells x S)) (.cells y T)
  rw [hs] at h2
  exact ⟨block_later (alloc_block w _) ((Below.refl _ _).alloc (Nat.le_refl _) _), h2, ((Below.refl _ _).alloc (Nat.le_refl _) _).alloc (by omega) _⟩
theorem Chg.undrew1 {S : Nat → Prop} {a w : World} (h : Chg S a.drew w) : Chg S a w := ⟨h.os, h.tape, h.output, h.size, h.block⟩
section
variable {w : World} {col : Nat → Nat} {c Bv T s z : Nat} {V : List (List Int)} {a : Int} {t : TS}
theorem Pa.tape {w1 w2 : World} {mb' : Option Nat} {t' : TS} (h : Pa w col c Bv T s V a z t) (hb : Below w.heap.size w w1) (ht : Tp w2 T mb' (fun k => col k = c + 1 ∨ w1.heap.size ≤ k) a z t') (hc : Chg (fun k => col k = c + 1) w1 w2) : (∃ col', Ext w col col' ∧ Pa w2 col' c Bv T s V a z t') ∧ Chg (fun k => col k = c ∨ col k = c + 1) w w2 := by
  refine ⟨⟨paint col w.heap.size (c + 1), Ext.paint w col (c + 1), ?_⟩, (Chg.of_below hb).trans hc fun k _ e => .inr e⟩
  have h1 := h.recol (Ext.paint w col (c + 1))
  have h2 := h1.vo
  obtain ⟨G, hv, hG⟩ := h2
  have hBlt := block_lt hv.blk
  have hGlt := block_lt hv.row
  have hs := hb.size
  rw [paint_old hGlt] at hG
  have hcv := h1.cv
  rw [paint_old hBlt] at hcv
  refine ⟨⟨G, (hv.later hb).keep hc (by omega) (by omega), by rw [paint_old hGlt]; exact hG⟩, by rw [paint_old hBlt]; exact hcv, mb', ht.mono fun k hk hl => ?_⟩
  rcases hk with hk | hk
  · by_cases h3 : k < w.heap.size
    · rw [paint_old h3]; exact hk
    · rw [paint_new (by omega)]
  · rw [paint_new (by omega)]
theorem dgrow_whole (h : Pa w col c Bv T s V a z t) (p : Option Addr) (m cp : Nat) (b : List Int) (hb : BL w p m cp b) (h0 : 0 < m → ∀ a, p = some a → col a.block = 0) (hbig : t.len z + m ≤ 1000000) :
    Calls Tryz.prog 219 #[.agg #[.slice p m cp], .agg #[.pointer (some ⟨Bv, 0, none⟩), .pointer (some ⟨T, 0, none⟩)]] w (WroteD w col c Bv T s V a z (appT t b)) := by
  obtain ⟨g0, g1, hbw⟩ := two_boxes w #[.slice p m cp] (pcells Bv T) 130 109
  obtain ⟨mb, ht⟩ := h.tp
  have hadd := tape_add (ht.later hbw) p m cp b (SlG.later hb hbw) (fun hm a ha e => by have := h0 hm a ha; rw [this] at e; omega) hbig
  have H := Lib.hid h
  have HB := Lib.hid hbw
  clear g0 g1 hb h0 hbw h ht
  go_enter Tryz.func219, Tryz.ntmps219
  go_wp2_with fail
  refine hadd.mono ?_
  rintro e w2 ⟨rfl, ⟨mb', ht2⟩, hc2⟩
  have HX := Lib.hid (H.out.tape HB.out ht2 hc2)
  clear ht2 hc2 hadd
  go_wp2_with fail
  go_end0
  exact ⟨rfl, HX.out.1, HX.out.2⟩
theorem ddrop_whole (h : Pa w col c Bv T s V a z t) (x : Int) (hbig : t.len z ≤ 1000000) :
    Calls Tryz.prog 221 #[.agg #[.int .i64 x], .agg #[.pointer (some ⟨Bv, 0, none⟩), .pointer (some ⟨T, 0, none⟩)]] w (WroteD w col c Bv T s V a z (dropT z t x)) := by
  obtain ⟨g0, g1, hbw⟩ := two_boxes w #[.int .i64 x] (pcells Bv T) 132 109
  obtain ⟨mb, ht⟩ := h.tp
  have hdo := tape_drop (ht.later hbw) x hbig
  have H := Lib.hid h
  have HB := Lib.hid hbw
  clear g0 g1 hbw h ht
  go_enter Tryz.func221, Tryz.ntmps221
  go_wp2_with fail
  refine hdo.mono ?_
  rintro e w2 ⟨rfl, ht2, hc2⟩
  have HX := Lib.hid (H.out.tape HB.out (ht2.mono fun k hk _ => .inl hk) hc2)
  clear ht2 hc2 hdo
  go_wp2_with fail
  go_end0
  exact ⟨rfl, HX.out.1, HX.out.2⟩
theorem dcut_whole (h : Pa w col c Bv T s V a z t) (x : Int) (hbig : t.len z ≤ 1000000) :
    Calls Tryz.prog 223 #[.agg #[.int .i64 x], .agg #[.pointer (some ⟨Bv, 0, none⟩), .pointer (some ⟨T, 0, none⟩)]] w (WroteD w col c Bv T s V a z (cutT z t x)) := by
  obtain ⟨g0, g1, hbw⟩ := two_boxes w #[.int .i64 x] (pcells Bv T) 175 109
  obtain ⟨mb, ht⟩ := h.tp
  have hdo := tape_cut (ht.later hbw) x hbig
  have H := Lib.hid h
  have HB := Lib.hid hbw
  clear g0 g1 hbw h ht
  go_enter Tryz.func223, Tryz.ntmps223
  go_wp2_with fail
  refine hdo.mono ?_
  rintro e w2 ⟨rfl, ht2, hc2⟩
  have HX := Lib.hid (H.out.tape HB.out (ht2.mono fun k hk _ => .inl hk) hc2)
  clear ht2 hc2 hdo
  go_wp2_with fail
  go_end0
  exact ⟨rfl, HX.out.1, HX.out.2⟩
def wty : Dw → TypeId
  | .put _ _ => 175
  | .grow _ => 130
  | .drop _ => 132
  | .cut _ => 175
def wval : Pw → Value
  | ⟨.put i b, p, c⟩ => .agg #[.int .i64 i]
  | ⟨.grow b, p, c⟩ => .agg #[.slice p b.length c]
  | ⟨.drop x, _, _⟩ => .agg #[.int .i64 x]
  | ⟨.cut x, _, _⟩ => .agg #[.int .i64 x]
theorem Pw.val_eq (y : Pw) : y.val = .iface (wty y.x) (wval y) := by
  obtain ⟨x, p, c⟩ := y
  cases x <;> rfl
def wholeF : Dw → FuncId
  | .put _ _ => 223
  | .grow _ => 219
  | .drop _ => 221
  | .cut _ => 223
theorem whole_meth (y : Pw) (n : Nat) (w : World) : (method (n + 1) (wty y.x) (wval y) "pledge/disk.whole").run Tryz.prog w = .ok (wholeF y.x, wval y) w := by
  obtain ⟨x, p, c⟩ := y
  cases x <;> kernel_rfl
theorem whole_ahead (y : Pw) (n : Nat) (w : World) : (nilAhead (n + 1) (wty y.x) (wval y) "pledge/disk.whole").run Tryz.prog w = .ok (some false) w := by
  obtain ⟨x, p, c⟩ := y
  cases x <;> kernel_rfl
theorem whole_enter (x : Dw) (args : Array Value) (w : World) : (callFunc (wholeF x) args).run Tryz.prog w = .ok (.enter (wholeF x) args) w := by
  cases x <;> kernel_rfl
theorem whole_any (h : Pa w col c Bv T s V a z t) (hc : 1 ≤ c) (y : Pw) (hy : y.ok w col) (hbig : t.len z + y.x.wt ≤ 1000000) :
    Calls Tryz.prog (wholeF y.x) #[wval y, .agg #[.pointer (some ⟨Bv, 0, none⟩), .pointer (some ⟨T, 0, none⟩)]] w (WroteD w col c Bv T s (dwV s V y.x) a z (dwT z t y.x)) := by
  obtain ⟨x, p, cp⟩ := y
  cases x with
  | put i b => exact hy.np.elim
  | grow b => exact dgrow_whole h p _ cp b hy.bl hy.c0 hbig
  | drop x => exact ddrop_whole h x (by simp only [Dw.wt] at hbig; omega)
  | cut x => exact dcut_whole h x (by simp only [Dw.wt] at hbig; omega)
end
end Go.Proofs.YtfdgnniicjdjdaaGreatDoor
namespace Go.Proofs.YtfdgnniicjdjdaaGreatDoor
open Go.RowKit Go.ChangeShapes Go.WideShapes
set_option linter.unusedVariables false
set_option maxRecDepth 10000
set_option linter.unusedSimpArgs false
structure Dkh (w : World) (col : Nat → Nat) (c B : Nat) (A : Ad) (d : DS) (V : List (List Int)) (t : TS) : Prop where
  c0 : 1 ≤ c
  blk : w.heap[B]? = some (.cells (dcells d.M A) 114 (0, 0))
  cB : col B = c
  pe : Pe w col (c + 1) A.pv d.L
  seen : Pa w col (c + 2) A.Bv A.T d.s V d.a d.z t
  sure : Pa w col (c + 4) A.Bv' A.T' d.s d.V d.a d.z d.t
  most : d.M ≤ 1048576
theorem Dka.half {w : World} {col : Nat → Nat} {c B : Nat} {A : Ad} {d : DS} (h : Dka w col c B A d) : Dkh w col c B A d d.sV d.sT := ⟨h.c0, h.blk, h.cB, h.pe, h.seen, h.sure, h.most⟩
theorem Dkh.whole {w : World} {col : Nat → Nat} {c B : Nat} {A : Ad} {d : DS} (h : Dkh w col c B A d d.sV d.sT) : Dka w col c B A d := ⟨h.c0, h.blk, h.cB, h.pe, h.seen, h.sure, h.most⟩
section
variable {w w' : World} {col col' : Nat → Nat} {c B : Nat} {A : Ad} {d : DS} {V V' : List (List Int)} {t t' : TS}
theorem Dkh.keep {S : Nat → Prop} (h : Dkh w col c B A d V t) (hc : Chg S w w') (hs : ∀ k, col k = 0 ∨ own col c k → ¬ S k) : Dkh w' col c B A d V t := by
  have hB : own col c B := by have := h.cB; unfold own; omega
  refine ⟨h.c0, (hc.block B (block_lt h.blk) (hs B (.inr hB))).trans h.blk, h.cB, h.pe.keep hc fun k hk => hs k ?_, h.seen.keep hc fun k hk => hs k (.inr (by unfold own; omega)), h.sure.keep hc fun k hk => hs k (.inr (by unfold own; omega)), h.most⟩
  rcases hk with hk | hk
  · exact .inl hk
  · exact .inr (by unfold own; omega)
theorem Dkh.later (h : Dkh w col c B A d V t) (hb : Below w.heap.size w w') : Dkh w' col c B A d V t := h.keep (Chg.of_below (S := fun _ => False) hb) fun _ _ h => h
theorem Dkh.recol (h : Dkh w col c B A d V t) (he : Ext w col col') : Dkh w col' c B A d V t := ⟨h.c0, h.blk, (he B (block_lt h.blk)).trans h.cB, h.pe.recol he, h.seen.recol he, h.sure.recol he, h.most⟩
theorem own_of {k : Nat} (h : col k = c + 2 ∨ col k = c + 2 + 1) : own col c k := by unfold own; omega
theorem Dkh.set_seen (h : Dkh w col c B A d V t) (hw : (∃ col', Ext w col col' ∧ Pa w' col' (c + 2) A.Bv A.T d.s V' d.a d.z t') ∧ Chg (fun k => col k = c + 2 ∨ col k = c + 2 + 1) w w') : (∃ col', Ext w col col' ∧ Dkh w' col' c B A d V' t') ∧ Chg (own col c) w w' := by
  obtain ⟨⟨col', he, hp⟩, hc⟩ := hw
  have h0 := h.c0
  have g := h.recol he
  have hc' : Chg (fun k => col' k = c + 2 ∨ col' k = c + 2 + 1) w w' := hc.mono fun k hk h => by rw [he k hk]; exact h
  refine ⟨⟨col', he, g.c0, (hc'.block B (block_lt g.blk) (by have := g.cB; omega)).trans g.blk, g.cB, g.pe.keep hc' fun k hk => by omega, hp, g.sure.keep hc' fun k hk => by omega, g.most⟩, hc.mono fun k _ h => own_of h⟩
end
theorem clone_b (p : Option Addr) (n c : Nat) (L : List Int) (w : World) (hL : BL w p n c L) (hn : n ≤ 1000000) :
    Calls Tryz.prog 70 #[.slice p n c] w fun e w' => ∃ p' c', e = .returned (.slice p' n c') ∧ BL w' p' n c' L ∧ (0 < n → ∀ a, p' = some a → w.heap.size ≤ a.block) ∧ Below w.heap.size w w' := by
  by_cases h0 : 0 < n
  · refine (clone_bytes p n c L w hL h0 hn).mono ?_
    rintro e w' ⟨g, c', rfl, hr, hg, hb⟩
    exact ⟨_, _, rfl, hr.bl, fun _ a ha => by cases ha; exact hg, hb⟩
  · obtain rfl : n = 0 := by omega
    obtain rfl : L = [] := List.eq_nil_of_length_eq_zero hL.len
    have hq := fun w => sl_nil p 0 c w
    cases p with
    | none =>
      go_enter Tryz.func70, Tryz.ntmps70
      go_wp2_with fail
      go_ret
      exact ⟨_, _, rfl, SlG.empty _, fun h => by omega, Below.refl _ _⟩
    | some ad =>
      have hb1 : Below w.heap.size w (w.alloc (.cells #[] 5)) := (Below.refl _ _).alloc (Nat.le_refl _) _
      have HB1 := Lib.hid hb1
      have HR1 : Hid (RowB (w.alloc (.cells #[] 5)) (.slice (some ⟨w.heap.size, 0, none⟩) 0 0) 0 []) := Lib.hid (RowB.fresh (alloc_block w _) rfl (Nat.zero_le _))
      have HL1 := Lib.hid (SlG.later hL hb1)
      clear hL hb1
      go_enter Tryz.func70, Tryz.ntmps70
      go_wp2_with (first | (at_builtin; refine wpList_append_rb rfl _ _ rfl _ _ _ rfl HR1.out _ 0 c [] rfl HL1.out (by omega) ?_; intro p' c' w3 hr3 hc3 hl3 hn3) | fail)
      go_ret
      have HBL := hc3.below HB1.out HB1.out.size fun k hk => by cases hk; exact Nat.le_refl _
      first | exact ⟨_, _, rfl, hr3.bl, (fun h => by omega), HBL⟩ | exact ⟨_, _, rfl, hr3.bl, HBL⟩
set_option maxHeartbeats 1000000 in
/-- One more write waits. -/
theorem wait_any {w : World} {col : Nat → Nat} {c B : Nat} {A : Ad} {d : DS} {V : List (List Int)} {t : TS} (h : Dkh w col c B A d V t) (y : Pw) (hy : y.ok w col) (T : TypeId) (v : Value) (hu : y.val = .iface T v) (hL : d.L.length < 1000000) :
    Calls Tryz.prog 69 #[.pointer (some ⟨B, 0, none⟩), .iface T v] w fun e w' => e = .returned (.tuple #[]) ∧ (∃ A' col', Ext w col col' ∧ Dkh w' col' c B A' (d.add y.x) V t) ∧ Chg (own col c) w w' := by
  obtain ⟨Bv, T1, Bv', T', pv⟩ := A
  obtain ⟨p, cp, PL, hp, hPL, hsl, hok, _⟩ := h.pe.sl
  simp only at hp
  subst hp
  have hlen : PL.length = d.L.length := by rw [← hPL, List.length_map]
  obtain ⟨⟨PL2, q1, q2, q3⟩, q4⟩ := h.pe
  have hl2 : PL2.length = d.L.length := by rw [← q1, List.length_map]
  rw [hl2] at q2
  have hb1 : Below w.heap.size w (w.alloc (.cells #[.iface T v] 134)) := (Below.refl _ _).alloc (Nat.le_refl _) _
  have hrow : (w.alloc (.cells #[.iface T v] 134)).ownsRow 0 134 1 (.slice p d.L.length cp) d.L.length (flatG ew PL2) := own_keep q2 (Chg.of_below (S := fun _ => False) hb1) fun _ _ h => h
  have hone : SlG ew 1 yd (w.alloc (.cells #[.iface T v] 134)) (some ⟨w.heap.size, 0, none⟩) 1 1 [y] := by
    refine ⟨rfl, Nat.le_refl _, by unfold maxLen; omega, (fun e => by cases e), fun _ => ⟨w.heap.size, 0, rfl, by simp, fun j hj i u hu' => ?_⟩⟩
    obtain rfl : j = 0 := by omega
    match i, hu' with
    | 0, hu' =>
      simp only [List.getD_cons_zero, ew, List.getElem?_cons_zero, Option.some.injEq] at hu'
      subst hu'
      rw [hu]
      exact block_cell (alloc_block w _) rfl
  have HROW := Lib.hid hrow
  have HONE := Lib.hid hone
  have HB1 := Lib.hid hb1
  have c5 : w.cell? ⟨B, 5, none⟩ = some (.slice p d.L.length cp) := block_cell h.blk rfl
  have hBlt := block_lt h.blk
  have HH := Lib.hid h
  have hne : ∀ k, (Value.slice p d.L.length cp).ownBlock = some k → ¬ k = B := fun k hk e => by
    have h1 := q4 k hk
    have h2 := h.cB
    subst e
    omega
  have HNE := Lib.hid hne
  have HQ4 := Lib.hid q4
  have HC3 : Hid (∀ w3, Chg (fun k => (Value.slice p d.L.length cp).ownBlock = some k) (w.alloc (.cells #[.iface T v] 134)) w3 → w3.cell? ⟨B, 5, none⟩ = some (.slice p d.L.length cp) ∧ w3.frozen? ⟨B, 5, none⟩ = false) := Lib.hid fun w3 g2 => by
    have h3 : w3.heap[B]? = some (.cells (dcells d.M ⟨Bv, T1, Bv', T', .slice p d.L.length cp⟩) 114 (0, 0)) := (((Chg.of_below hb1).trans (g2.mono (T := fun k => col k = c + 1) fun k _ hk => q4 k hk) fun k _ h => h).block B hBlt (by have := h.cB; omega)).trans h.blk
    exact ⟨block_cell h3 rfl, block_free 5 h3⟩
  have HFIN : Hid (∀ w3 w4 p' c', w3.ownsRow 0 134 1 (.slice p' (d.L.length + 1) c') (d.L.length + 1) (flatG ew (PL2 ++ [y])) → Chg (fun k => (Value.slice p d.L.length cp).ownBlock = some k) (w.alloc (.cells #[.iface T v] 134)) w3 →
      (∀ k, (Value.slice p' (d.L.length + 1) c').ownBlock = some k → (Value.slice p d.L.length cp).ownBlock = some k ∨ (w.alloc (.cells #[.iface T v] 134)).heap.size ≤ k) → w4 = w3.setCell ⟨B, 5, none⟩ (.slice p' (d.L.length + 1) c') →
      (∃ A' col', Ext w col col' ∧ Dkh w4 col' c B A' (d.add y.x) V t) ∧ Chg (own col c) w w4) := Lib.hid fun w3 w4 p' c' g1 g2 g3 g4 => by
    have hc3 : Chg (fun k => col k = c + 1) w w3 := (Chg.of_below hb1).trans (g2.mono (T := fun k => col k = c + 1) fun k _ hk => q4 k hk) fun k _ h => h
    have hc4 : Chg (fun k => k = B) w3 w4 := by rw [g4]; exact (Chg.refl _ _).setCell _ _ fun _ => rfl
    have hc : Chg (fun k => col k = c ∨ col k = c + 1) w w4 := (hc3.mono (T := fun k => col k = c ∨ col k = c + 1) fun k _ h => .inr h).trans hc4 fun k _ e => by subst e; exact .inl h.cB
    have hE := Ext.paint w col (c + 1)
    have h3 : w3.heap[B]? = some (.cells (dcells d.M ⟨Bv, T1, Bv', T', .slice p d.L.length cp⟩) 114 (0, 0)) := (hc3.block B hBlt (by have := h.cB; omega)).trans h.blk
    have g := h.recol hE
    have hcp : Chg (fun k => paint col w.heap.size (c + 1) k = c ∨ paint col w.heap.size (c + 1) k = c + 1) w w4 := hc.mono fun k hk h => by rw [paint_old hk]; exact h
    have h0 := h.c0
    refine ⟨⟨⟨Bv, T1, Bv', T', .slice p' (d.L.length + 1) c'⟩, paint col w.heap.size (c + 1), hE, h0, ?_, g.cB, ⟨⟨PL2 ++ [y], ?_, ?_, ?_⟩, fun k hk => ?_⟩, g.seen.keep hcp fun k hk => by omega, g.sure.keep hcp fun k hk => by omega, h.most⟩, hc.mono fun k _ h => by unfold own; omega⟩
    · rw [g4]
      exact block_put 5 _ h3
    · rw [List.map_append, q1]
      rfl
    · rw [List.length_append, hl2, List.length_singleton]
      refine own_keep g1 hc4 fun k hk e => ?_
      rcases g3 k hk with h5 | h5
      · exact hne k h5 e
      · have := hb1.size
        omega
    · intro z hz
      rcases List.mem_append.1 hz with hz | hz
      · exact ((q3 z hz).recol hE).keep hcp fun k hk => by omega
      · rw [List.mem_singleton] at hz
        subst hz
        exact (hy.recol hE).keep hcp fun k hk => by omega
    · rcases g3 k hk with h5 | h5
      · have hlt := (q2.lt k h5).2
        rw [paint_old hlt]
        exact q4 k h5
      · have := hb1.size
        exact paint_new (by omega)
  clear hrow hone hb1 q1 q2 q3 q4 hok hsl hPL hne h hlen hl2 hu hy
  generalize hn : d.L.length = n0 at *
  go_enter Tryz.func69, Tryz.ntmps69
  go_wp2_with (first | (at_builtin; refine wpList_append_w rfl _ _ rfl _ n0 PL2 rfl HROW.out _ 1 1 [y] rfl HONE.out (by omega) ?_; intro p' c' w3 hr3 hc3 hl3; obtain ⟨x5, g5⟩ := HC3.out w3 hc3) | fail)
  have HX := Lib.hid (HFIN.out w3 _ p' c' hr3 hc3 hl3 rfl)
  clear hr3 hc3 hl3
  go_end0
  exact ⟨rfl, HX.out.1, HX.out.2⟩
end Go.Proofs.YtfdgnniicjdjdaaGreatDoor
namespace Go.Proofs.YtfdgnniicjdjdaaGreatDoor
open Go.RowKit Go.ChangeShapes Go.WideShapes
set_option linter.unusedVariables false
set_option maxRecDepth 10000
set_option linter.unusedSimpArgs false
section
variable {w : World} {col : Nat → Nat} {c B : Nat} {d : DS}
theorem cloned_ok {w2 w3 : World} {A : Ad} {V : List (List Int)} {t : TS} {p' : Option Addr} {cp' : Nat} {b : List Int} {x : Dw} (hx : x.bytes = b) (hnp : x.np) (h : Dkh w2 col c B A d V t) (hb : BL w3 p' b.length cp' b) (hn : 0 < b.length → ∀ a, p' = some a → w2.heap.size ≤ a.block) (hw : Below w2.heap.size w2 w3) :
    Ext w2 col (paint col w2.heap.size 0) ∧ Dkh w3 (paint col w2.heap.size 0) c B A d V t ∧ Pw.ok w3 (paint col w2.heap.size 0) ⟨x, p', cp'⟩ := by
  subst hx
  exact ⟨Ext.paint _ _ _, (h.recol (Ext.paint _ _ _)).later hw, hb, fun h0 a ha => paint_new (hn h0 a ha), hnp⟩
set_option maxHeartbeats 2000000 in
theorem disk_append (h : Dk w col c B d) (hbig : d.tot + 65536 ≤ 1000000) (hL : d.L.length < 1000000) (p : Option Addr) (m cp : Nat) (b : List Int) (hb : BL w p m cp b) (h0 : 0 < m → ∀ a, p = some a → ¬ own col c a.block) :
    Calls Tryz.prog 25 #[.pointer (some ⟨B, 0, none⟩), .slice p m cp] w fun e w' => e = .returned (.int .i64 (d.addE b)) ∧ Turned w col c B (d.app b) w' := by
  obtain rfl := hb.len
  by_cases hm : 65536 < b.length
  · have e1 : d.addE b = 7 := if_pos hm
    have e2 : d.app b = d := if_neg (by rw [e1]; omega)
    rw [e1, e2]
    have hm' : (65536 : Int) < (b.length : Int) := by omega
    have HX : Hid (Turned w col c B d w) := Lib.hid ⟨col, Ext.refl _ _, h, Chg.refl _ _⟩
    clear h hb h0
    generalize b.length = n at *
    go_enter Tryz.func25, Tryz.ntmps25
    go_wp2_with fail
    go_ret
    exact ⟨rfl, HX.out⟩
  · have hz := h.z_in
    have hsT := d.sT_len (by omega)
    have hf := fun w' (hb' : Below w.heap.size w w') => disk_first (h.later hb')
    have he := fun w' (hb' : Below w.heap.size w w') => disk_end (h.later hb')
    obtain ⟨A, h⟩ := h
    have H := Lib.hid h
    have HB := Lib.hid hb
    have HN := Lib.hid h0
    have HM : Hid (∀ p : After w, p.w.cell? ⟨B, 0, none⟩ = some (.int .i64 (d.M : Nat))) := Lib.hid fun p => cell_after p (block_cell h.blk rfl)
    have hMM := h.most
    have HE1 : Hid ((d.M : Int) < (d.sT.B.length : Int) + b.length → d.addE b = 4 ∧ d.app b = d) := Lib.hid fun h => by
      have e1 : d.addE b = 4 := by unfold DS.addE; rw [if_neg hm, if_pos h]
      exact ⟨e1, if_neg (by rw [e1]; omega)⟩
    have HE2 : Hid (¬ (d.M : Int) < (d.sT.B.length : Int) + b.length → d.addE b = 0 ∧ d.app b = d.add (.grow b)) := Lib.hid fun h => by
      have e1 : d.addE b = 0 := by unfold DS.addE; rw [if_neg hm, if_neg h]
      exact ⟨e1, if_pos e1⟩
    have HF : Hid (∀ p : After w, Calls Tryz.prog 57 #[.pointer (some ⟨B, 0, none⟩)] p.w fun e w' => e = .returned (.int .i64 (d.sT.f * d.z : Nat)) ∧ Below p.w.heap.size p.w w') := Lib.hid fun p => hf p.w p.h
    have HE : Hid (∀ p : After w, Calls Tryz.prog 39 #[.pointer (some ⟨B, 0, none⟩)] p.w fun e w' => e = .returned (.int .i64 (d.sT.f * d.z + d.sT.B.length : Nat)) ∧ Below p.w.heap.size p.w w') := Lib.hid fun p => he p.w p.h
    have hlen : d.sT.f * d.z + d.sT.B.length ≤ 1000000 := by have : d.sT.len d.z = d.sT.f * d.z + d.sT.B.length := rfl; omega
    have hbig2 : d.sT.len d.z + b.length ≤ 1000000 := by omega
    have HBIG := Lib.hid hbig2
    have hm' : ¬ (65536 : Int) < (b.length : Int) := by omega
    clear h hb h0 hf he hz hbig hbig2
    generalize hD : d.app b = D at *
    generalize hE0 : d.addE b = e0 at *
    obtain ⟨E, hEE⟩ : ∃ E, d.sT.f * d.z + d.sT.B.length = E := ⟨_, rfl⟩
    rw [hEE] at HE hlen
    generalize hF : d.sT.f * d.z = F at *
    generalize hT : d.sT.B.length = n0 at *
    generalize hn : b.length = n at *
    have x1 : (E : Int) - (F : Int) = (n0 : Int) := by omega
    have x2 : IntKind.i64.wrap (n0 : Int) = (n0 : Int) := IntWalk.i64_in _ (by omega)
    have x5 : IntKind.i64.wrap ((n0 : Int) + (n : Int)) = (n0 : Int) + (n : Int) := IntWalk.i64_in _ (by omega)
    have HM2 : ∀ p : After w, p.w.cell? ⟨B, 0, none⟩ = some (.int .i64 (d.M : Nat)) := HM.out
    have HMM : Hid (d.M = d.M) := Lib.hid rfl
    have HEE := Lib.hid hEE
    have HFF := Lib.hid hF
    have HTT := Lib.hid hT
    have HNN := Lib.hid hn
    have HDD := Lib.hid hD
    have HEZ := Lib.hid hE0
    clear hEE hF hT hn hD hE0
    by_cases hc : (d.M : Int) < (n0 : Int) + (n : Int)
    · obtain ⟨q1, q2⟩ := HE1.out hc
      subst q1
      have HX : Hid (∀ w', Below w.heap.size w w' → Turned w col c B D w') := Lib.hid fun w' hb' => by
        rw [q2]
        exact ⟨col, Ext.refl _ _, ⟨A, H.out.later hb'⟩, Chg.of_below hb'⟩
      clear HE1 HE2 q2
      generalize d.M = M at *
      go_enter Tryz.func25, Tryz.ntmps25
      go_wp2_with fail
      refine wp_region_after (by kernel_rfl) (by kernel_rfl) ?_
      repeat (go_big_quiet_step (first | (go_at_call 57; exact calls_after _ (HF.out _)) | (go_at_call 39; exact calls_after _ (HE.out _))))
      refine wpQuiet_nil ?_
      intro w3 hw
      obtain ⟨⟨wq, h6⟩, hw2⟩ := hw
      subst hw2
      have HX3 := Lib.hid (HX.out _ h6)
      clear h6
      go_wp2_with fail
      go_ret
      exact ⟨rfl, HX3.out⟩
    · obtain ⟨q1, q2⟩ := HE2.out hc
      subst q1
      have HD := Lib.hid q2
      clear HE1 HE2 q2
      have HMG : Hid (∃ M, M = d.M) := Lib.hid ⟨_, rfl⟩
      generalize hM : d.M = M at *
      have HMQ := Lib.hid hM
      clear hM
      go_enter Tryz.func25, Tryz.ntmps25
      go_wp2_with fail
      refine wp_region_after (by kernel_rfl) (by kernel_rfl) ?_
      repeat (go_big_quiet_step (first | (go_at_call 57; exact calls_after _ (HF.out _)) | (go_at_call 39; exact calls_after _ (HE.out _))))
      refine wpQuiet_nil ?_
      intro w3 hw
      obtain ⟨⟨wq, h6⟩, hw2⟩ := hw
      subst hw2
      have HB6 := Lib.hid h6
      have h1 := H.out.later h6
      have a2 : w3.cell? ⟨B, 2, none⟩ = some (.pointer (some ⟨A.T, 0, none⟩)) := block_cell h1.blk rfl
      obtain ⟨mb, ht⟩ := h1.seen.tp
      have hadd := tape_add ht p n cp b (SlG.later HB.out h6) (fun hm a ha e => HN.out hm a ha (by unfold own; rw [show col a.block = c + 2 + 1 from e]; omega)) (by have : d.sT.f * d.z + d.sT.B.length = d.sT.len d.z := rfl; have := HBIG.out; omega)
      have H1 := Lib.hid h1
      clear h6 h1 ht
      go_wp2_with fail
      refine hadd.mono ?_
      rintro e w2 ⟨rfl, ⟨mb', ht2⟩, hc2⟩
      have HS := Lib.hid (H1.out.half.set_seen (H1.out.seen.tape (Below.refl _ _) ht2 hc2))
      have HB2 : Hid (BL w2 p n cp b) := Lib.hid (BL.keep (SlG.later HB.out HB6.out) hc2 fun hm a ha e => HN.out hm a ha (by unfold own; rw [show col a.block = c + 2 + 1 from e]; omega))
      clear ht2 hc2 hadd
      have hcl := clone_b p n cp b w2 HB2.out (by omega)
      go_wp2_with fail
      refine hcl.mono ?_
      rintro e w4 ⟨p', c', rfl, hbl3, hn3, hb3⟩
      obtain ⟨⟨col2, he2, hd2⟩, hc2⟩ := HS.out
      have hnn := HNN.out
      subst hnn
      obtain ⟨he3, hd3, hok3⟩ := cloned_ok (x := .grow b) rfl trivial hd2 hbl3 hn3 hb3
      have hwt := wait_any hd3 ⟨.grow b, p', c'⟩ hok3 _ _ rfl hL
      have HC2 := Lib.hid hc2
      have HE2 := Lib.hid he2
      have HE3 := Lib.hid he3
      have HB3 := Lib.hid hb3
      clear hbl3 hn3 hb3 he2 hd2 hc2 he3 hd3 hok3 hcl HS H1 HB2
      go_wp2_with fail
      refine hwt.mono ?_
      rintro e w5 ⟨rfl, ⟨A', col4, he4, hd4⟩, hc4⟩
      have HX : Hid (Turned w col c B D w5) := Lib.hid (by
        have hs6 := HB6.out.size
        have hs2 := HC2.out.size
        have hs3 := HB3.out.size
        have e02 : Ext w col col2 := (Ext.refl w col).trans HE2.out hs6
        have e23 := e02.trans HE3.out (Nat.le_trans hs6 hs2)
        refine ⟨col4, e23.trans he4 (Nat.le_trans hs6 (Nat.le_trans hs2 hs3)), ?_, ?_⟩
        · rw [HD.out]
          have e1 : d.sV = (d.add (.grow b)).sV := (add_sV d (.grow b)).symm
          have e2 : appT d.sT b = (d.add (.grow b)).sT := (add_sT d (.grow b)).symm
          refine ⟨A', Dkh.whole ?_⟩
          rw [← e1, ← e2]
          exact hd4
        · refine (((Chg.of_below HB6.out).trans HC2.out fun k _ h => h).trans (T := fun _ => False) (Chg.of_below HB3.out) fun k _ h => h.elim).trans hc4 fun k hk h => ?_
          unfold own at *
          rwa [e23 k hk] at h)
      clear he4 hd4 hc4 hwt
      go_wp2_with fail
      go_ret
      exact ⟨rfl, HX.out⟩
set_option maxHeartbeats 1000000 in
theorem disk_cut (h : Dk w col c B d) (hbig : d.tot ≤ 1000000) (hL : d.L.length < 1000000) (x : Int) :
    Calls Tryz.prog 58 #[.pointer (some ⟨B, 0, none⟩), .int .i64 x] w fun e w' => e = .returned (.tuple #[]) ∧ Turned w col c B (d.add (.cut x)) w' := by
  have hz := h.z_in
  have hsT := d.sT_len (by omega)
  obtain ⟨A, h⟩ := h
  have a2 : w.cell? ⟨B, 2, none⟩ = some (.pointer (some ⟨A.T, 0, none⟩)) := block_cell h.blk rfl
  obtain ⟨mb, ht⟩ := h.seen.tp
  have hdo := tape_cut ht x (by have : d.sT.f * d.z + d.sT.B.length = d.sT.len d.z := rfl; omega)
  have H := Lib.hid h
  clear h ht
  go_enter Tryz.func58, Tryz.ntmps58
  go_wp2_with fail
  refine hdo.mono ?_
  rintro e w2 ⟨rfl, ht2, hc2⟩
  have HS := Lib.hid (H.out.half.set_seen (H.out.seen.tape (Below.refl _ _) (ht2.mono fun k hk _ => .inl hk) hc2))
  obtain ⟨⟨col2, he2, hd2⟩, hc2'⟩ := HS.out
  have hwt := wait_any hd2 ⟨.cut x, none, 0⟩ ⟨SlG.empty _, fun h => absurd h (by simp [Dw.bytes]), trivial⟩ _ _ rfl hL
  have HC2 := Lib.hid hc2'
  have HE2 := Lib.hid he2
  clear ht2 hc2 hdo he2 hd2 hc2' HS
  go_wp2_with fail
  refine hwt.mono ?_
  rintro e w5 ⟨rfl, ⟨A', col4, he4, hd4⟩, hc4⟩
  have HX : Hid (Turned w col c B (d.add (.cut x)) w5) := Lib.hid (by
    have hs2 := HC2.out.size
    refine ⟨col4, HE2.out.trans he4 hs2, ?_, ?_⟩
    · have e1 : d.sV = (d.add (.cut x)).sV := (add_sV d (.cut x)).symm
      have e2 : cutT d.z d.sT x = (d.add (.cut x)).sT := (add_sT d (.cut x)).symm
      refine ⟨A', Dkh.whole ?_⟩
      rw [← e1, ← e2]
      exact hd4
    · refine HC2.out.trans hc4 fun k hk h => ?_
      unfold own at *
      rwa [HE2.out k hk] at h)
  clear he4 hd4 hc4 hwt
  go_wp2_with fail
  go_end0
  exact ⟨rfl, HX.out⟩
end
end Go.Proofs.YtfdgnniicjdjdaaGreatDoor
namespace Go.Proofs.YtfdgnniicjdjdaaGreatDoor
open Go.RowKit Go.ChangeShapes Go.WideShapes
set_option linter.unusedVariables false
set_option maxRecDepth 10000
set_option linter.unusedSimpArgs false
theorem parts_two (w : World) (x y : Value) : ((w.alloc (.cells #[x, y] 109)).alloc (.cells #[.pointer none, .pointer none] 109)).heap[w.heap.size]? = some (.cells #[x, y] 109 (0, 0)) ∧
    ((w.alloc (.cells #[x, y] 109)).alloc (.cells #[.pointer none, .pointer none] 109)).heap[w.heap.size + 1]? = some (.cells #[.pointer none, .pointer none] 109 (0, 0)) ∧
    Below w.heap.size w ((w.alloc (.cells #[x, y] 109)).alloc (.cells #[.pointer none, .pointer none] 109)) := by
  have hs : (w.alloc (.cells #[x, y] 109)).heap.size = w.heap.size + 1 := by simp
  have h2 := alloc_block (w.alloc (.cells #[x, y] 109)) (.cells #[.pointer none, .pointer none] 109)
  rw [hs] at h2
  exact ⟨block_later (alloc_block w _) ((Below.refl _ _).alloc (Nat.le_refl _) _), h2, ((Below.refl _ _).alloc (Nat.le_refl _) _).alloc (by omega) _⟩
def Fresh (w w' : World) (Bv T s : Nat) (V : List (List Int)) (a : Int) (z : Nat) (t : TS) : Prop := ∀ col c, ∃ col', Ext w col col' ∧ Pa w' col' c Bv T s V a z t
theorem Fresh.of {w w' : World} {Bv G T s m : Nat} {mb : Option Nat} {V : List (List Int)} {a : Int} {z : Nat} {t : TS} (hv : Vo w' Bv G s V) (hB : w.heap.size ≤ Bv ∧ Bv < m) (hG : w.heap.size ≤ G ∧ G < m) (ht : Tp w' T mb (fun k => m ≤ k) a z t) : Fresh w w' Bv T s V a z t := by
  intro col c
  refine ⟨paint (paint col w.heap.size c) m (c + 1), fun k hk => ?_, ⟨G, hv, ?_⟩, ?_, mb, ht.mono fun k hk hl => paint_new hk⟩
  · rw [paint_old (by omega), paint_old hk]
  · rw [paint_old hG.2, paint_new hG.1]
  · rw [paint_old hB.2, paint_new hB.1]
theorem Fresh.later {w w' w1 : World} {Bv T s : Nat} {V : List (List Int)} {a : Int} {z : Nat} {t : TS} (h : Fresh w w' Bv T s V a z t) (hb : Below w'.heap.size w' w1) : Fresh w w1 Bv T s V a z t := fun col c => by
  obtain ⟨col', h1, h2⟩ := h col c
  exact ⟨col', h1, h2.later hb⟩
theorem both_any {w : World} {col : Nat → Nat} {c Bv T s z : Nat} {V : List (List Int)} {a : Int} {t : TS} (h : Pa w col c Bv T s V a z t) (hbig : t.len z ≤ 1000000) :
    Calls Tryz.prog 55 #[.agg #[.pointer (some ⟨Bv, 0, none⟩), .pointer (some ⟨T, 0, none⟩)]] w fun e w' => ∃ Bv' T', e = .returned (.agg #[.pointer (some ⟨Bv', 0, none⟩), .pointer (some ⟨T', 0, none⟩)]) ∧ Fresh w w' Bv' T' s V a z t ∧ Below w.heap.size w w' := by
  obtain ⟨h0, h1, hb⟩ := parts_two w (.pointer (some ⟨Bv, 0, none⟩)) (.pointer (some ⟨T, 0, none⟩))
  have H0 := Lib.hid h0
  have H1 := Lib.hid h1
  have HB := Lib.hid hb
  have H := Lib.hid h
  clear h h0 h1 hb
  go_enter Tryz.func55, Tryz.ntmps55
  go_wp2_with fail
  generalize hW : (w.alloc (.cells #[.pointer (some ⟨Bv, 0, none⟩), .pointer (some ⟨T, 0, none⟩)] 109)).alloc (.cells #[.pointer none, .pointer none] 109) = W at *
  clear hW
  have a0 := block_cell (j := 0) H0.out (v := .pointer (some ⟨Bv, 0, none⟩)) rfl
  have a1 := block_cell (j := 1) H0.out (v := .pointer (some ⟨T, 0, none⟩)) rfl
  have HV : Hid (∀ k, Calls Tryz.prog 100 #[.pointer (some ⟨Bv, 0, none⟩)] (W.drewN k) fun e w' => ∃ G, e = .returned (.pointer (some ⟨W.heap.size, 0, none⟩)) ∧ Vo w' W.heap.size G s V ∧ W.heap.size ≤ G ∧ Below W.heap.size W w') := Lib.hid fun k => by
    obtain ⟨⟨G, hv, _⟩, _, _⟩ := H.out.later HB.out
    refine (copy_any Bv G s V (W.drewN k) (hv.keep ((Chg.refl (fun _ => False) _).drewN k) (fun h => h) (fun h => h))).mono ?_
    rintro e w' ⟨rfl, h1, h2⟩
    exact ⟨_, rfl, h1, Nat.le_succ _, below_undrew h2⟩
  have HT : Hid (∀ w', Below W.heap.size W w' → Calls Tryz.prog 101 #[.pointer (some ⟨T, 0, none⟩)] w' fun e w'' => e = .returned (.pointer (some ⟨w'.heap.size, 0, none⟩)) ∧ (∃ mb', Tp w'' w'.heap.size mb' (fun k => w'.heap.size ≤ k) a z t) ∧ Below w'.heap.size w' w'') := Lib.hid fun w' hb' => by
    obtain ⟨_, _, mb, ht⟩ := (H.out.later HB.out).later hb'
    exact tape_copy ht hbig
  clear H
  go_region_law (first
    | (go_simp; go_at_call 100; refine (HV.out _).mono ?_; rintro e w5 ⟨G, rfl, hv5, hG, hb5⟩; have b1 := block_cell (j := 1) (block_later H0.out hb5) (v := .pointer (some ⟨T, 0, none⟩)) rfl)
    | (go_simp; go_at_call 101; refine (HT.out _ hb5).mono ?_; rintro e w6 ⟨rfl, ⟨mb6, ht6⟩, hb6⟩; have hb56 := hb5.trans (hb6.mono hb5.size); have hA := block_later H1.out hb56; have x0 := block_cell (j := 0) hA (v := .pointer none) rfl; have x1 := block_cell (j := 1) hA (v := .pointer none) rfl; have g0 := block_free 0 hA; have g1 := block_free 1 hA))
  all_goals
    have hc : Chg (fun k => k = w.heap.size + 1) w6 ((w6.setCell ⟨w.heap.size + 1, 0, none⟩ (.pointer (some ⟨W.heap.size, 0, none⟩))).setCell ⟨w.heap.size + 1, 1, none⟩ (.pointer (some ⟨w5.heap.size, 0, none⟩))) := ((Chg.refl (fun k => k = w.heap.size + 1) w6).setCell ⟨w.heap.size + 1, 0, none⟩ _ fun _ => rfl).setCell ⟨w.heap.size + 1, 1, none⟩ _ fun _ => rfl
    have HR : Hid (((w6.setCell ⟨w.heap.size + 1, 0, none⟩ (.pointer (some ⟨W.heap.size, 0, none⟩))).setCell ⟨w.heap.size + 1, 1, none⟩ (.pointer (some ⟨w5.heap.size, 0, none⟩))).heap[w.heap.size + 1]? = some (.cells #[.pointer (some ⟨W.heap.size, 0, none⟩), .pointer (some ⟨w5.heap.size, 0, none⟩)] 109 (0, 0))) := Lib.hid (block_put 1 _ (block_put 0 _ hA))
    have hRW : w.heap.size + 1 < W.heap.size := block_lt H1.out
    have h5s := hb5.size
    have hv8 := (hv5.later hb6).keep hc (by omega) (by omega)
    have ht8 := ht6.keep hc (by intro k hk; omega)
    have hbl := hc.below (HB.out.trans (hb56.mono HB.out.size)) (Nat.le_trans HB.out.size hb56.size) fun k hk => by omega
    have HBL := Lib.hid hbl
    have HF : Hid (Fresh w _ W.heap.size w5.heap.size s V a z t) := Lib.hid (Fresh.of hv8 ⟨HB.out.size, block_lt hv5.blk⟩ ⟨by have := HB.out.size; omega, block_lt hv5.row⟩ ht8)
    clear hc hA hv8 ht8 hbl hv5 ht6 x0 x1 g0 g1 b1
    go_wp2_with fail
    refine bodyPost_ret (v := .agg #[.pointer (some ⟨W.heap.size, 0, none⟩), .pointer (some ⟨w5.heap.size, 0, none⟩)]) ?_ rfl ⟨_, _, rfl, HF.out, HBL.out⟩
    exact results_cell_row rfl _ _ (w.heap.size + 1) 109 _ (0, 0) _ rfl HR.out Tryz.underlying109 rfl (by kernel_rfl)
theorem Dka.made {w w5 w6 w7 w8 : World} {col : Nat → Nat} {c B : Nat} {A : Ad} {d : DS} (hc : 1 ≤ c) (hM : d.M ≤ 1048576) (b5 : Below w.heap.size w w5) (h5 : Fresh w w5 A.Bv A.T d.s d.sV d.a d.z d.sT) (b6 : Below w5.heap.size w5 w6) (h6 : Fresh w5 w6 A.Bv' A.T' d.s d.V d.a d.z d.t)
    (b7 : Below w6.heap.size w6 w7) (h7 : ∀ col', Ext w col col' → Pe w7 (paint col' w6.heap.size (c + 1)) (c + 1) A.pv d.L) (b8 : Below w7.heap.size w7 w8) (hB : w7.heap.size ≤ B) (hblk : w8.heap[B]? = some (.cells (dcells d.M A) 114 (0, 0))) : ∃ col', Ext w col col' ∧ Dka w8 col' c B A d := by
  obtain ⟨k1, e1, p1⟩ := h5 col (c + 2)
  obtain ⟨k2, e2, p2⟩ := h6 k1 (c + 4)
  have e12 := e1.trans e2 b5.size
  have e3 := Ext.paint w6 k2 (c + 1)
  have s6 := Nat.le_trans b5.size b6.size
  have e13 := e12.trans e3 s6
  have p3 := h7 k2 e12
  have e4 := Ext.paint w7 (paint k2 w6.heap.size (c + 1)) c
  have b68 := b7.trans (b8.mono b7.size)
  refine ⟨paint (paint k2 w6.heap.size (c + 1)) w7.heap.size c, e13.trans e4 (Nat.le_trans s6 b7.size), hc, hblk, paint_new hB, (p3.recol e4).later b8, ?_, ?_, hM⟩
  · refine Pa.later (w := w7) ?_ b8
    refine Pa.recol ?_ e4
    exact Pa.later (((p1.recol e2).later b6).recol e3) b7
  · refine Pa.later (w := w7) ?_ b8
    refine Pa.recol ?_ e4
    exact Pa.later (p2.recol e3) b7
def DS.new (blocks block seg most : Int) : DS := ⟨kp most 1048576, seg, cl seg 64 4096, kp block 4096, zeroV (kp blocks 1024) (kp block 4096), ⟨0, []⟩, []⟩
def Born (w w' : World) (B : Nat) (d : DS) : Prop := ∀ col c, 1 ≤ c → ∃ col', Ext w col col' ∧ Dk w' col' c B d
set_option maxHeartbeats 1000000 in
theorem disk_new (x y g m : Int) (w : World) : Calls Tryz.prog 12 #[.int .i64 x, .int .i64 y, .int .i64 g, .int .i64 m] w fun e w' => ∃ B, e = .returned (.pointer (some ⟨B, 0, none⟩)) ∧ Born w w' B (DS.new x y g m) ∧ w.heap.size ≤ B ∧ Below w.heap.size w w' := by
  have hn := new_anyD x y w
  have HT := Lib.hid fun w => tape_new g w
  have HK := Lib.hid fun w => disk_kept m 1048576 w (by omega)
  have HM : Hid (kp m 1048576 ≤ 1048576) := Lib.hid (by have := kp_le m 1048576 (by omega); omega)
  have HD : Hid (DS.new x y g m = ⟨kp m 1048576, g, cl g 64 4096, kp y 4096, zeroV (kp x 1024) (kp y 4096), ⟨0, []⟩, []⟩) := Lib.hid rfl
  generalize DS.new x y g m = D at *
  generalize kp m 1048576 = M at *
  generalize kp y 4096 = s at *
  generalize zeroV (kp x 1024) s = V at *
  go_enter Tryz.func12, Tryz.ntmps12
  go_wp2_with fail
  refine hn.mono ?_
  rintro e w1 ⟨rfl, hv, hb⟩
  have HB1 := Lib.hid hb
  have HV1 := Lib.hid hv
  have ht := HT.out w1
  clear hn hv hb HT
  go_wp2_with fail
  refine ht.mono ?_
  rintro e w2 ⟨rfl, hw2⟩
  have HT2 : Hid (Tp w2 w1.heap.size none (fun k => w1.heap.size ≤ k) g (cl g 64 4096) ⟨0, []⟩) := Lib.hid (hw2 ▸ new_tape w1 g)
  have HB2 : Hid (Below w1.heap.size w1 w2) := Lib.hid (hw2 ▸ (Below.refl _ _).alloc (Nat.le_refl _) _)
  clear ht hw2
  have hb3 : Below w2.heap.size w2 (w2.alloc (.cells #[.pointer (some ⟨w.heap.size, 0, none⟩), .pointer (some ⟨w1.heap.size, 0, none⟩)] 109)) := (Below.refl _ _).alloc (Nat.le_refl _) _
  have HA3 := Lib.hid (alloc_block w2 (.cells #[.pointer (some ⟨w.heap.size, 0, none⟩), .pointer (some ⟨w1.heap.size, 0, none⟩)] 109))
  have HB3 := Lib.hid hb3
  clear hb3
  go_wp2_with fail
  generalize w2.alloc (.cells #[.pointer (some ⟨w.heap.size, 0, none⟩), .pointer (some ⟨w1.heap.size, 0, none⟩)] 109) = W at *
  have HB13 := Lib.hid (HB2.out.trans (HB3.out.mono HB2.out.size))
  have HB03 := Lib.hid (HB1.out.trans (HB13.out.mono HB1.out.size))
  have HS : Hid (Fresh w W w.heap.size w1.heap.size s V g (cl g 64 4096) ⟨0, []⟩) := Lib.hid (Fresh.of (HV1.out.later HB13.out) ⟨Nat.le_refl _, block_lt HV1.out.blk⟩ ⟨Nat.le_succ _, block_lt HV1.out.row⟩ (HT2.out.later HB3.out))
  have HBO : Hid (∀ w', Below W.heap.size W w' → Calls Tryz.prog 55 #[.agg #[.pointer (some ⟨w.heap.size, 0, none⟩), .pointer (some ⟨w1.heap.size, 0, none⟩)]] w' fun e w'' => ∃ Bv' T', e = .returned (.agg #[.pointer (some ⟨Bv', 0, none⟩), .pointer (some ⟨T', 0, none⟩)]) ∧ Fresh w' w'' Bv' T' s V g (cl g 64 4096) ⟨0, []⟩ ∧ Below w'.heap.size w' w'') := Lib.hid fun w' hb' => by
    obtain ⟨k1, _, p1⟩ := HS.out (fun _ => 0) 1
    exact both_any (p1.later hb') (by simp [TS.len])
  have a0 := block_cell (j := 0) HA3.out (v := .pointer (some ⟨w.heap.size, 0, none⟩)) rfl
  have a1 := block_cell (j := 1) HA3.out (v := .pointer (some ⟨w1.heap.size, 0, none⟩)) rfl
  generalize w2.heap.size = X at *
  go_region_law (first
    | (go_simp; go_at_call 54; refine (HK.out _).mono ?_; rintro e w5 ⟨rfl, rfl⟩)
    | (go_simp; go_at_call 55; refine (HBO.out _ (by first | exact below_drewN (Below.refl _ _) _ | exact Below.refl _ _)).mono ?_; rintro e w6 ⟨Bv', T', rfl, hf6, hb6⟩; have hb6' : Below W.heap.size W w6 := (by first | exact below_undrew hb6 | exact hb6); have b0 := block_cell (j := 0) (block_later HA3.out hb6') (v := .pointer (some ⟨w.heap.size, 0, none⟩)) rfl; have b1 := block_cell (j := 1) (block_later HA3.out hb6') (v := .pointer (some ⟨w1.heap.size, 0, none⟩)) rfl))
  all_goals
    have hb7 : Below w6.heap.size w6 (w6.alloc (.cells (dcells M ⟨w.heap.size, w1.heap.size, Bv', T', .slice none 0 0⟩) 114)) := (Below.refl _ _).alloc (Nat.le_refl _) _
    have HX : Hid (Born w (w6.alloc (.cells (dcells M ⟨w.heap.size, w1.heap.size, Bv', T', .slice none 0 0⟩) 114)) w6.heap.size D ∧ w.heap.size ≤ w6.heap.size ∧ Below w.heap.size w (w6.alloc (.cells (dcells M ⟨w.heap.size, w1.heap.size, Bv', T', .slice none 0 0⟩) 114))) := Lib.hid (by
      have hD := HD.out
      subst hD
      have hb06 := HB03.out.trans (hb6'.mono HB03.out.size)
      refine ⟨fun col c hc => ?_, hb06.size, hb06.trans (hb7.mono hb06.size)⟩
      obtain ⟨col', h1, h2⟩ := Dka.made (col := col) (A := ⟨w.heap.size, w1.heap.size, Bv', T', .slice none 0 0⟩) (d := ⟨M, g, cl g 64 4096, s, V, ⟨0, []⟩, []⟩) hc HM.out HB03.out HS.out hb6' hf6 (Below.refl _ _) (fun col' _ => Pe.nil _ _ _) hb7 (Nat.le_refl _) (alloc_block _ _)
      exact ⟨col', h1, _, h2⟩)
    clear hf6 hb6 hb6' hb7 b0 b1
    go_wp2_with fail
    go_ret
    exact ⟨_, rfl, HX.out⟩
end Go.Proofs.YtfdgnniicjdjdaaGreatDoor
namespace Go.Proofs.YtfdgnniicjdjdaaGreatDoor
open Go.RowKit Go.ChangeShapes Go.WideShapes
set_option linter.unusedVariables false
set_option maxRecDepth 10000
set_option linter.unusedSimpArgs false
def DS.part (d : DS) (j : Nat) : DS := { d with V := foldV d.s d.V (d.L.take j), t := foldT d.z d.t (d.L.take j) }
structure Sy (w wr : World) (col col' : Nat → Nat) (c B : Nat) (A : Ad) (d : DS) (V : List (List Int)) (t : TS) (p : Option Addr) (n cp : Nat) (PL : List Pw) (j : Nat) : Prop where
  ext : Ext w col col'
  dk : Dkh wr col' c B A (d.part j) V t
  sl : SlG ew 1 yd wr p n cp PL
  at_ : 0 < n → ∀ a, p = some a → col' a.block = c + 1
  ok : ∀ y ∈ PL, y.ok wr col'
  len : PL.map (·.x) = d.L
  chg : Chg (fun k => col k = c + 4 ∨ col k = c + 5) w wr
theorem Sy.start {w : World} {col : Nat → Nat} {c B : Nat} {A : Ad} {d : DS} {V : List (List Int)} {t : TS} {p : Option Addr} {cp : Nat} {PL : List Pw} (h : Dkh w col c B A d V t) (hsl : SlG ew 1 yd w p d.L.length cp PL) (hat : 0 < d.L.length → ∀ a, p = some a → col a.block = c + 1) (hok : ∀ y ∈ PL, y.ok w col) (hl : PL.map (·.x) = d.L) : Sy w w col col c B A d V t p d.L.length cp PL 0 :=
  ⟨Ext.refl _ _, h, hsl, hat, hok, hl, Chg.refl _ _⟩
theorem Sy.drewN {w wr : World} {col col' : Nat → Nat} {c B : Nat} {A : Ad} {d : DS} {V : List (List Int)} {t : TS} {p : Option Addr} {n cp : Nat} {PL : List Pw} {j : Nat} (h : Sy w wr col col' c B A d V t p n cp PL j) (q : Nat) : Sy w (wr.drewN q) col col' c B A d V t p n cp PL j :=
  have hb := below_drewN (Below.refl wr.heap.size wr) q
  ⟨h.ext, h.dk.later hb, SlG.later h.sl hb, h.at_, fun y hy => (h.ok y hy).keep (Chg.of_below (S := fun _ => False) hb) fun _ _ h => h, h.len, h.chg.drewN q⟩
theorem Sy.next {w wr : World} {col col' : Nat → Nat} {c B : Nat} {A : Ad} {d : DS} {V : List (List Int)} {t : TS} {p : Option Addr} {n cp : Nat} {PL : List Pw} {j : Nat} (h : Sy w wr col col' c B A d V t p n cp PL j) (hj : j < n) (hbig : d.tot ≤ 1000000) :
    ∃ y b off, p = some ⟨b, off, none⟩ ∧ wr.cell? ⟨b, off + j, none⟩ = some (.iface (wty y.x) (wval y)) ∧
      (∀ q, Calls Tryz.prog (wholeF y.x) #[wval y, .agg #[.pointer (some ⟨A.Bv', 0, none⟩), .pointer (some ⟨A.T', 0, none⟩)]] (wr.drewN q) fun e w' => e = .returned (.tuple #[]) ∧ ∃ col'', Sy w w' col col'' c B A d V t p n cp PL (j + 1)) := by
  obtain ⟨b, off, hp, hlt, hc⟩ := SlW_at h.sl hj
  have hl : PL.length = n := h.sl.len
  have hmem : PL.getD j yd ∈ PL := by
    rw [List.getD, List.getElem?_eq_getElem (by omega)]
    exact List.getElem_mem _
  have htake : d.L.take (j + 1) = d.L.take j ++ [(PL.getD j yd).x] := by
    have e : d.L[j]? = some (PL.getD j yd).x := by
      rw [← h.len, List.getElem?_map, List.getD, List.getElem?_eq_getElem (by omega)]
      rfl
    rw [List.take_add_one, e]
    rfl
  have hz := h.dk.seen.z_in
  have hz' : 64 ≤ d.z := hz.1
  have hw1 : (foldT d.z d.t (d.L.take j)).len d.z ≤ d.t.len d.z + wts (d.L.take j) := foldT_len (by omega) _ _
  have hw2 := wts_take_drop d.L (j + 1)
  rw [htake, wts_snoc] at hw2
  refine ⟨PL.getD j yd, b, off, hp, by rw [← Pw.val_eq]; exact hc, fun q => ?_⟩
  replace h := h.drewN q
  generalize wr.drewN q = wr at *
  have hsure : Pa wr col' (c + 4) A.Bv' A.T' d.s (foldV d.s d.V (d.L.take j)) d.a d.z (foldT d.z d.t (d.L.take j)) := h.dk.sure
  have h0 := h.dk.c0
  refine (whole_any hsure (by omega) _ (h.ok _ hmem) (by unfold DS.tot at hbig; omega)).mono ?_
  rintro e w' ⟨rfl, ⟨col'', he, hp'⟩, hch⟩
  have hch' : Chg (fun k => col'' k = c + 4 ∨ col'' k = c + 4 + 1) wr w' := hch.mono fun k hk h => by rw [he k hk]; exact h
  have g := h.dk.recol he
  refine ⟨rfl, col'', h.ext.trans he h.chg.size, ⟨g.c0, (hch'.block B (block_lt g.blk) (by have := g.cB; omega)).trans g.blk, g.cB, g.pe.keep hch' fun k hk => by omega, g.seen.keep hch' fun k hk => by omega, ?_, g.most⟩, ?_, ?_, ?_, h.len, ?_⟩
  · show Pa w' col'' (c + 4) A.Bv' A.T' d.s (foldV d.s d.V (d.L.take (j + 1))) d.a d.z (foldT d.z d.t (d.L.take (j + 1)))
    rw [htake, foldV_snoc, foldT_snoc]
    exact hp'
  · refine SlG.turn h.sl hch.size fun hn a ha hl => hch.block _ hl ?_
    have := h.at_ hn a ha
    omega
  · intro hn a ha
    obtain ⟨b2, off2, hp2, hlt2, _⟩ := h.sl.cell hn
    rw [hp2] at ha
    cases ha
    rw [he b2 hlt2]
    exact h.at_ hn _ hp2
  · exact fun y hy => ((h.ok y hy).recol he).keep hch' fun k hk => by omega
  · refine h.chg.trans hch fun k hk h2 => ?_
    have e1 := h.ext k hk
    rw [e1] at h2
    omega
theorem Sy.done {w wr : World} {col col' : Nat → Nat} {c B : Nat} {A : Ad} {d : DS} {p : Option Addr} {n cp : Nat} {PL : List Pw} (h : Sy w wr col col' c B A d d.sV d.sT p n cp PL d.L.length) : Turned w col c B d.sync (wr.setCell ⟨B, 5, none⟩ (.slice none 0 0)) := by
  have hc : Chg (fun k => k = B) wr (wr.setCell ⟨B, 5, none⟩ (.slice none 0 0)) := (Chg.refl _ _).setCell _ _ fun _ => rfl
  have g := h.dk
  have hB := g.cB
  have h0 := g.c0
  refine ⟨col', h.ext, ⟨{ A with pv := .slice none 0 0 }, g.c0, block_put 5 _ g.blk, hB, Pe.nil _ _ _, ?_, ?_, g.most⟩, (h.chg.mono (T := own col c) fun k _ h => by unfold own; omega).trans hc fun k hk e => ?_⟩
  · exact g.seen.keep hc fun k hk e => by subst e; omega
  · have hsure : Pa wr col' (c + 4) A.Bv' A.T' d.s (foldV d.s d.V (d.L.take d.L.length)) d.a d.z (foldT d.z d.t (d.L.take d.L.length)) := g.sure
    rw [List.take_length] at hsure
    exact hsure.keep hc fun k hk e => by subst e; omega
  · subst e
    have := h.ext k hk
    unfold own
    omega
set_option maxHeartbeats 1000000 in
theorem disk_sync_h {w : World} {col : Nat → Nat} {c B : Nat} {A : Ad} {d : DS} {V : List (List Int)} {t : TS} (h : Dkh w col c B A d V t) (hbig : d.tot ≤ 1000000) (hL : d.L.length ≤ 1000000) :
    Calls Tryz.prog 27 #[.pointer (some ⟨B, 0, none⟩)] w fun e w' => e = .returned (.tuple #[]) ∧ ∃ col' wr p n cp PL, Sy w wr col col' c B A d V t p n cp PL d.L.length ∧ w' = wr.setCell ⟨B, 5, none⟩ (.slice none 0 0) := by
  obtain ⟨Bv, T, Bv', T', pv⟩ := A
  obtain ⟨p, cp, PL, hp, hPL, hsl, hok, hat⟩ := h.pe.sl
  simp only at hp
  subst hp
  have c5 : w.cell? ⟨B, 5, none⟩ = some (.slice p d.L.length cp) := block_cell h.blk rfl
  have HS := Lib.hid (Sy.start h hsl hat hok hPL)
  have hcap := hsl.cap
  have hmax := hsl.max
  clear hsl hok hat hPL h
  generalize hn : d.L.length = n at *
  have HN := Lib.hid hn
  clear hn
  go_enter Tryz.func27, Tryz.ntmps27
  go_wp2_with fail
  go_loopw [3, 11] (fun x i wr => ∃ (j : Nat) (col' : Nat → Nat) (x0 : Value), j ≤ n ∧ x = x0 ∧ i = .int .i64 (j : Nat) ∧ Hid (Sy w wr col col' c B ⟨Bv, T, Bv', T', .slice p n cp⟩ d V t p n cp PL j)) (fun _ i _ => n - (intOf i).toNat)
  case atStart => exact ⟨0, col, _, Nat.zero_le _, rfl, rfl, HS⟩
  case round =>
    obtain ⟨j, col', x0, hj, rfl, rfl, HF⟩ := hrel
    have b3 : wr.cell? ⟨B, 3, none⟩ = some (.pointer (some ⟨Bv', 0, none⟩)) := block_cell HF.out.dk.blk rfl
    have b4 : wr.cell? ⟨B, 4, none⟩ = some (.pointer (some ⟨T', 0, none⟩)) := block_cell HF.out.dk.blk rfl
    have b5 : wr.cell? ⟨B, 5, none⟩ = some (.slice p n cp) := block_cell HF.out.dk.blk rfl
    have g5 := block_free 5 HF.out.dk.blk
    by_cases hlt : j < n
    · have hlt' : (j : Int) < n := by omega
      obtain ⟨y, b, off, hpe, hcell, hcall⟩ := HF.out.next hlt hbig
      subst hpe
      have HCALL := Lib.hid hcall
      clear hcall
      have hah := whole_ahead y
      have hme := whole_meth y
      have hen := whole_enter y.x
      go_wp2_with fail
      go_region_law (first | (go_simp; refine (HCALL.out _).mono ?_; rintro e w2 ⟨rfl, col2, hsy⟩))
      all_goals
        have HSY := Lib.hid hsy
        clear hsy
        go_wp2_with fail
        go_roundw
        case rel => exact ⟨j + 1, col2, _, by omega, rfl, by go_num, HSY⟩
        case measure => simp [intOf]; omega
    · obtain rfl : n = j := by omega
      have hnn := HN.out
      go_wp2_with fail
      go_end0
      exact ⟨rfl, col', wr, p, n, cp, PL, HF.out, rfl⟩
theorem disk_sync {w : World} {col : Nat → Nat} {c B : Nat} {d : DS} (h : Dk w col c B d) (hbig : d.tot ≤ 1000000) (hL : d.L.length ≤ 1000000) :
    Calls Tryz.prog 27 #[.pointer (some ⟨B, 0, none⟩)] w fun e w' => e = .returned (.tuple #[]) ∧ Turned w col c B d.sync w' := by
  obtain ⟨A, h⟩ := h
  refine (disk_sync_h h.half hbig hL).mono ?_
  rintro e w' ⟨rfl, col', wr, p, n, cp, PL, hs, rfl⟩
  exact ⟨rfl, hs.done⟩
end Go.Proofs.YtfdgnniicjdjdaaGreatDoor
