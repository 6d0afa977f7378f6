/- Put, Append, Drop, Cut: what is seen turns, and one more write is pending. -/
import Derived.Test.YtnciihekbbmiaaaDiskRow
import Derived.Test.YtnciihekbbmiaaaDiskWrites
namespace Go.Proofs.Ytnciihekbbmiaaa
open Go.RowKit Go.ChangeShapes Go.WideShapes
set_option linter.unusedVariables false
set_option maxRecDepth 10000
set_option linter.unusedSimpArgs false

/-- A disk of which just V and t are seen, whatever is pending. -/
structure Dkh (w : World) (col : Nat → Nat) (c B : Nat) (A : Ad) (d : DS) (V : List (List Int)) (t : TS) : Prop where
  c0 : 1 ≤ c
  blk : w.heap[B]? = some (.cells (dcells d.M A) 73 (0, 0))
  cB : col B = c
  pe : Pe w col (c + 1) A.pv d.L
  seen : Pa w col (c + 2) A.Bv A.T d.s V d.a d.z t
  sure : Pa w col (c + 4) A.Bv' A.T' d.s d.V d.a d.z d.t
  most : d.M ≤ 1048576
theorem Dka.half {w : World} {col : Nat → Nat} {c B : Nat} {A : Ad} {d : DS} (h : Dka w col c B A d) : Dkh w col c B A d d.sV d.sT := ⟨h.c0, h.blk, h.cB, h.pe, h.seen, h.sure, h.most⟩
theorem Dkh.whole {w : World} {col : Nat → Nat} {c B : Nat} {A : Ad} {d : DS} (h : Dkh w col c B A d d.sV d.sT) : Dka w col c B A d := ⟨h.c0, h.blk, h.cB, h.pe, h.seen, h.sure, h.most⟩
section
variable {w w' : World} {col col' : Nat → Nat} {c B : Nat} {A : Ad} {d : DS} {V V' : List (List Int)} {t t' : TS}
theorem Dkh.keep {S : Nat → Prop} (h : Dkh w col c B A d V t) (hc : Chg S w w') (hs : ∀ k, col k = 0 ∨ own col c k → ¬ S k) : Dkh w' col c B A d V t := by
  have hB : own col c B := by have := h.cB; unfold own; omega
  refine ⟨h.c0, (hc.block B (block_lt h.blk) (hs B (.inr hB))).trans h.blk, h.cB, h.pe.keep hc fun k hk => hs k ?_, h.seen.keep hc fun k hk => hs k (.inr (by unfold own; omega)), h.sure.keep hc fun k hk => hs k (.inr (by unfold own; omega)), h.most⟩
  rcases hk with hk | hk
  · exact .inl hk
  · exact .inr (by unfold own; omega)
theorem Dkh.later (h : Dkh w col c B A d V t) (hb : Below w.heap.size w w') : Dkh w' col c B A d V t := h.keep (Chg.of_below (S := fun _ => False) hb) fun _ _ h => h
theorem Dkh.recol (h : Dkh w col c B A d V t) (he : Ext w col col') : Dkh w col' c B A d V t := ⟨h.c0, h.blk, (he B (block_lt h.blk)).trans h.cB, h.pe.recol he, h.seen.recol he, h.sure.recol he, h.most⟩
theorem own_of {k : Nat} (h : col k = c + 2 ∨ col k = c + 2 + 1) : own col c k := by unfold own; omega
/-- What is seen was written. -/
theorem Dkh.set_seen (h : Dkh w col c B A d V t) (hw : (∃ col', Ext w col col' ∧ Pa w' col' (c + 2) A.Bv A.T d.s V' d.a d.z t') ∧ Chg (fun k => col k = c + 2 ∨ col k = c + 2 + 1) w w') : (∃ col', Ext w col col' ∧ Dkh w' col' c B A d V' t') ∧ Chg (own col c) w w' := by
  obtain ⟨⟨col', he, hp⟩, hc⟩ := hw
  have h0 := h.c0
  have g := h.recol he
  have hc' : Chg (fun k => col' k = c + 2 ∨ col' k = c + 2 + 1) w w' := hc.mono fun k hk h => by rw [he k hk]; exact h
  refine ⟨⟨col', he, g.c0, (hc'.block B (block_lt g.blk) (by have := g.cB; omega)).trans g.blk, g.cB, g.pe.keep hc' fun k hk => by omega, hp, g.sure.keep hc' fun k hk => by omega, g.most⟩, hc.mono fun k _ h => own_of h⟩
end
/-- Bytes of a row of their own. -/
theorem clone_b (p : Option Addr) (n c : Nat) (L : List Int) (w : World) (hL : BL w p n c L) (hn : n ≤ 1000000) :
    Calls Try.prog 48 #[.slice p n c] w fun e w' => ∃ p' c', e = .returned (.slice p' n c') ∧ BL w' p' n c' L ∧ (0 < n → ∀ a, p' = some a → w.heap.size ≤ a.block) ∧ Below w.heap.size w w' := by
  by_cases h0 : 0 < n
  · refine (clone_bytes p n c L w hL h0 hn).mono ?_
    rintro e w' ⟨g, c', rfl, hr, hg, hb⟩
    exact ⟨_, _, rfl, hr.bl, fun _ a ha => by cases ha; exact hg, hb⟩
  · obtain rfl : n = 0 := by omega
    obtain rfl : L = [] := List.eq_nil_of_length_eq_zero hL.len
    have hq := fun w => sl_nil p 0 c w
    cases p with
    | none =>
      go_enter Try.func48, Try.ntmps48
      go_wp2_with fail
      go_ret
      exact ⟨_, _, rfl, SlG.empty _, fun h => by omega, Below.refl _ _⟩
    | some ad =>
      have hb1 : Below w.heap.size w (w.alloc (.cells #[] 5)) := (Below.refl _ _).alloc (Nat.le_refl _) _
      have HB1 := Lib.hid hb1
      have HR1 : Hid (RowB (w.alloc (.cells #[] 5)) (.slice (some ⟨w.heap.size, 0, none⟩) 0 0) 0 []) := Lib.hid (RowB.fresh (alloc_block w _) rfl (Nat.zero_le _))
      have HL1 := Lib.hid (SlG.later hL hb1)
      clear hL hb1
      go_enter Try.func48, Try.ntmps48
      go_wp2_with (first | (at_builtin; refine wpList_append_rb rfl _ _ rfl _ _ _ rfl HR1.out _ 0 c [] rfl HL1.out (by omega) ?_; intro p' c' w3 hr3 hc3 hl3 hn3) | fail)
      go_ret
      have HBL := hc3.below HB1.out HB1.out.size fun k hk => by cases hk; exact Nat.le_refl _
      first | exact ⟨_, _, rfl, hr3.bl, (fun h => by omega), HBL⟩ | exact ⟨_, _, rfl, hr3.bl, HBL⟩
set_option maxHeartbeats 1000000 in
/-- One more write waits. -/
theorem wait_any {w : World} {col : Nat → Nat} {c B : Nat} {A : Ad} {d : DS} {V : List (List Int)} {t : TS} (h : Dkh w col c B A d V t) (y : Pw) (hy : y.ok w col) (T : TypeId) (v : Value) (hu : y.val = .iface T v) (hL : d.L.length < 1000000) :
    Calls Try.prog 47 #[.pointer (some ⟨B, 0, none⟩), .iface T v] w fun e w' => e = .returned (.tuple #[]) ∧ (∃ A' col', Ext w col col' ∧ Dkh w' col' c B A' (d.add y.x) V t) ∧ Chg (own col c) w w' := by
  obtain ⟨Bv, T1, Bv', T', pv⟩ := A
  obtain ⟨p, cp, PL, hp, hPL, hsl, hok, _⟩ := h.pe.sl
  simp only at hp
  subst hp
  have hlen : PL.length = d.L.length := by rw [← hPL, List.length_map]
  obtain ⟨⟨PL2, q1, q2, q3⟩, q4⟩ := h.pe
  have hl2 : PL2.length = d.L.length := by rw [← q1, List.length_map]
  rw [hl2] at q2
  have hb1 : Below w.heap.size w (w.alloc (.cells #[.iface T v] 87)) := (Below.refl _ _).alloc (Nat.le_refl _) _
  have hrow : (w.alloc (.cells #[.iface T v] 87)).ownsRow 0 87 1 (.slice p d.L.length cp) d.L.length (flatG ew PL2) := own_keep q2 (Chg.of_below (S := fun _ => False) hb1) fun _ _ h => h
  have hone : SlG ew 1 yd (w.alloc (.cells #[.iface T v] 87)) (some ⟨w.heap.size, 0, none⟩) 1 1 [y] := by
    refine ⟨rfl, Nat.le_refl _, by unfold maxLen; omega, (fun e => by cases e), fun _ => ⟨w.heap.size, 0, rfl, by simp, fun j hj i u hu' => ?_⟩⟩
    obtain rfl : j = 0 := by omega
    match i, hu' with
    | 0, hu' =>
      simp only [List.getD_cons_zero, ew, List.getElem?_cons_zero, Option.some.injEq] at hu'
      subst hu'
      rw [hu]
      exact block_cell (alloc_block w _) rfl
  have HROW := Lib.hid hrow
  have HONE := Lib.hid hone
  have HB1 := Lib.hid hb1
  have c5 : w.cell? ⟨B, 5, none⟩ = some (.slice p d.L.length cp) := block_cell h.blk rfl
  have hBlt := block_lt h.blk
  have HH := Lib.hid h
  have hne : ∀ k, (Value.slice p d.L.length cp).ownBlock = some k → ¬ k = B := fun k hk e => by
    have h1 := q4 k hk
    have h2 := h.cB
    subst e
    omega
  have HNE := Lib.hid hne
  have HQ4 := Lib.hid q4
  have HC3 : Hid (∀ w3, Chg (fun k => (Value.slice p d.L.length cp).ownBlock = some k) (w.alloc (.cells #[.iface T v] 87)) w3 → w3.cell? ⟨B, 5, none⟩ = some (.slice p d.L.length cp) ∧ w3.frozen? ⟨B, 5, none⟩ = false) := Lib.hid fun w3 g2 => by
    have h3 : w3.heap[B]? = some (.cells (dcells d.M ⟨Bv, T1, Bv', T', .slice p d.L.length cp⟩) 73 (0, 0)) := (((Chg.of_below hb1).trans (g2.mono (T := fun k => col k = c + 1) fun k _ hk => q4 k hk) fun k _ h => h).block B hBlt (by have := h.cB; omega)).trans h.blk
    exact ⟨block_cell h3 rfl, block_free 5 h3⟩
  have HFIN : Hid (∀ w3 w4 p' c', w3.ownsRow 0 87 1 (.slice p' (d.L.length + 1) c') (d.L.length + 1) (flatG ew (PL2 ++ [y])) → Chg (fun k => (Value.slice p d.L.length cp).ownBlock = some k) (w.alloc (.cells #[.iface T v] 87)) w3 →
      (∀ k, (Value.slice p' (d.L.length + 1) c').ownBlock = some k → (Value.slice p d.L.length cp).ownBlock = some k ∨ (w.alloc (.cells #[.iface T v] 87)).heap.size ≤ k) → w4 = w3.setCell ⟨B, 5, none⟩ (.slice p' (d.L.length + 1) c') →
      (∃ A' col', Ext w col col' ∧ Dkh w4 col' c B A' (d.add y.x) V t) ∧ Chg (own col c) w w4) := Lib.hid fun w3 w4 p' c' g1 g2 g3 g4 => by
    have hc3 : Chg (fun k => col k = c + 1) w w3 := (Chg.of_below hb1).trans (g2.mono (T := fun k => col k = c + 1) fun k _ hk => q4 k hk) fun k _ h => h
    have hc4 : Chg (fun k => k = B) w3 w4 := by rw [g4]; exact (Chg.refl _ _).setCell _ _ fun _ => rfl
    have hc : Chg (fun k => col k = c ∨ col k = c + 1) w w4 := (hc3.mono (T := fun k => col k = c ∨ col k = c + 1) fun k _ h => .inr h).trans hc4 fun k _ e => by subst e; exact .inl h.cB
    have hE := Ext.paint w col (c + 1)
    have h3 : w3.heap[B]? = some (.cells (dcells d.M ⟨Bv, T1, Bv', T', .slice p d.L.length cp⟩) 73 (0, 0)) := (hc3.block B hBlt (by have := h.cB; omega)).trans h.blk
    have g := h.recol hE
    have hcp : Chg (fun k => paint col w.heap.size (c + 1) k = c ∨ paint col w.heap.size (c + 1) k = c + 1) w w4 := hc.mono fun k hk h => by rw [paint_old hk]; exact h
    have h0 := h.c0
    refine ⟨⟨⟨Bv, T1, Bv', T', .slice p' (d.L.length + 1) c'⟩, paint col w.heap.size (c + 1), hE, h0, ?_, g.cB, ⟨⟨PL2 ++ [y], ?_, ?_, ?_⟩, fun k hk => ?_⟩, g.seen.keep hcp fun k hk => by omega, g.sure.keep hcp fun k hk => by omega, h.most⟩, hc.mono fun k _ h => by unfold own; omega⟩
    · rw [g4]
      exact block_put 5 _ h3
    · rw [List.map_append, q1]
      rfl
    · rw [List.length_append, hl2, List.length_singleton]
      refine own_keep g1 hc4 fun k hk e => ?_
      rcases g3 k hk with h5 | h5
      · exact hne k h5 e
      · have := hb1.size
        omega
    · intro z hz
      rcases List.mem_append.1 hz with hz | hz
      · exact ((q3 z hz).recol hE).keep hcp fun k hk => by omega
      · rw [List.mem_singleton] at hz
        subst hz
        exact (hy.recol hE).keep hcp fun k hk => by omega
    · rcases g3 k hk with h5 | h5
      · have hlt := (q2.lt k h5).2
        rw [paint_old hlt]
        exact q4 k h5
      · have := hb1.size
        exact paint_new (by omega)
  clear hrow hone hb1 q1 q2 q3 q4 hok hsl hPL hne h hlen hl2 hu hy
  generalize hn : d.L.length = n0 at *
  go_enter Try.func47, Try.ntmps47
  go_wp2_with (first | (at_builtin; refine wpList_append_w rfl _ _ rfl _ n0 PL2 rfl HROW.out _ 1 1 [y] rfl HONE.out (by omega) ?_; intro p' c' w3 hr3 hc3 hl3; obtain ⟨x5, g5⟩ := HC3.out w3 hc3) | fail)
  have HX := Lib.hid (HFIN.out w3 _ p' c' hr3 hc3 hl3 rfl)
  clear hr3 hc3 hl3
  go_end0
  exact ⟨rfl, HX.out.1, HX.out.2⟩
end Go.Proofs.Ytnciihekbbmiaaa
