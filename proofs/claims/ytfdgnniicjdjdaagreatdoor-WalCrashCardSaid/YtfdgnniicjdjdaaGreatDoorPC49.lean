import Derived.Stop.RegionWithIn
import Derived.Shelf.Abstract
import Derived.Test.YtfdgnniicjdjdaaGreatDoorPC48
namespace Go.Proofs.YtfdgnniicjdjdaaGreatDoor
open Go.RowKit Go.ChangeShapes Go.WideShapes
set_option linter.unusedVariables false
set_option maxRecDepth 10000
set_option linter.unusedSimpArgs false
section
attribute [local go_sem] Oper.semAt_some
theorem sl_kept {w w' : World} {row : Option Nat} {p : Option Addr} {n c : Nat} {L : List Nat} (h : Sl w p n c L) (hg : w.grownBy w' row) (hr : ∀ r, row = some r → ∃ o : Obj, w.heap[r]? = some o ∧ o.isCells = false) : Sl w' p n c L := by
 refine ⟨h.len, h.cap, h.nil, h.lt, fun h0 => ?_⟩
 obtain ⟨b, off, rfl, hlt, hc⟩ := h.blk h0
 obtain ⟨o, ho, hcl⟩ := cell_obj (hc 0 h0)
 have hb := hg.block b hlt fun e => by
  obtain ⟨o', ho', hc'⟩ := hr b e.symm
  rw [ho] at ho'
  cases ho'
  rw [hcl] at hc'
  cases hc'
 exact ⟨b, off, rfl, fun j hj => (World.cell?_of_block (a := ⟨b, off + j, none⟩) hb).trans (hc j hj)⟩
theorem TellY.kept {w w' : World} {row : Option Nat} {B : List Nat} {pre : List Yl} {x : Yl} (h : TellY B pre x w) (hg : w.grownBy w' row) (hr : ∀ r, row = some r → ∃ o : Obj, w.heap[r]? = some o ∧ o.isCells = false) : TellY B pre x w' := ⟨sl_kept h.sl hg hr, h.lt, h.P, h.z, h.e⟩
theorem sl_below {w w' : World} {N : Nat} {p : Option Addr} {n c : Nat} {L : List Nat} (h : Sl w p n c L) (hb : Below N w w') (hN : w.heap.size = N) : Sl w' p n c L := h.later (by rw [hN]; exact hb)
theorem ScA.own {W6 : World} {B : List Nat} {tm : Yl → Nat → Array Value} {pre : List Yl} {x : Yl} {a' : Act} : OwnFrom W6.heap.size (fun (_ : Unit) X => ScA W6 B tm pre x a' X) := fun _ X X' row hs hg hr => by
 obtain ⟨⟨Bf, h1, h2, h3⟩, ht⟩ := hs
 refine ⟨⟨Bf, h1, (hg.block Bf (block_lt h2) fun e => ?_).trans h2, h3⟩, ht.kept hg fun r e => (hr r e).2⟩
 obtain ⟨_, o, ho, hc⟩ := hr Bf e.symm
 rw [h2] at ho
 cases ho
 cases hc
theorem ScI.ret {W6 X X' : World} {N a i : Nat} {B : List Nat} {v : Value} {H : List Eh} {out : List (Nat × Rx)} {er : Int} (h6 : W6.heap.size = N + 6) (hI : Chg (fun k => k = N ∨ k = N + 4) W6 X) (hF : FE (N + 6) X v H (offE a out)) (hs : scanX B = (out, i, er)) (hc : Chg (fun k => N ≤ k ∧ k < N + 5) X X') (h1 : Boxed X' (N + 1) 74 v) (h2 : Boxed X' (N + 2) 2 (.int .i64 ((a + i : Nat) : Int))) (h3 : Boxed X' (N + 3) 56 (.int .i64 er)) : ScX W6 N a B X' :=
 ⟨⟨v, H, out, i, er, h1, h2, h3, hF.keep hc.size fun b hb hlt => hc.block b hlt (by omega), hs⟩, (hI.mono (T := fun k => N ≤ k ∧ k < N + 5) fun k _ h => by omega).trans hc fun _ _ h => h⟩
theorem ret3 {W6 X : World} {N a i : Nat} {B : List Nat} {p : Option Addr} {m c : Nat} {H : List Eh} {out : List (Nat × Rx)} {er at_ : Int} {v1 v2 v3 : Value} (h6 : W6.heap.size = N + 6) (hI : Chg (fun k => k = N ∨ k = N + 4) W6 X) (hF : FE (N + 6) X (.slice p m c) H (offE a out)) (hs : scanX B = (out, i, er)) (hat : ((a + i : Nat) : Int) = at_) (h1 : Boxed X (N + 1) 74 v1) (h2 : Boxed X (N + 2) 2 v2) (h3 : Boxed X (N + 3) 56 v3) :
 KeepsFrom W6.heap.size X (((X.setCell ⟨N + 1, 0, none⟩ (.slice p m c)).setCell ⟨N + 2, 0, none⟩ (.int .i64 at_)).setCell ⟨N + 3, 0, none⟩ (.int .i64 er)).drew ∧ ScX W6 N a B (((X.setCell ⟨N + 1, 0, none⟩ (.slice p m c)).setCell ⟨N + 2, 0, none⟩ (.int .i64 at_)).setCell ⟨N + 3, 0, none⟩ (.int .i64 er)).drew := by
 have hk : KeepsFrom W6.heap.size X (((X.setCell ⟨N + 1, 0, none⟩ (.slice p m c)).setCell ⟨N + 2, 0, none⟩ (.int .i64 at_)).setCell ⟨N + 3, 0, none⟩ (.int .i64 er)) := ((((KeepsOthers.setCell _ _ _).trans (KeepsOthers.setCell _ _ _)).trans (KeepsOthers.setCell _ _ _)).from _)
 have hc : Chg (fun k => N ≤ k ∧ k < N + 5) X (((X.setCell ⟨N + 1, 0, none⟩ (.slice p m c)).setCell ⟨N + 2, 0, none⟩ (.int .i64 at_)).setCell ⟨N + 3, 0, none⟩ (.int .i64 er)) := (((Chg.refl (fun k => N ≤ k ∧ k < N + 5) X).setCell ⟨N + 1, 0, none⟩ _ (fun _ => by dsimp only; omega)).setCell ⟨N + 2, 0, none⟩ _ (fun _ => by dsimp only; omega)).setCell ⟨N + 3, 0, none⟩ _ (fun _ => by dsimp only; omega)
 subst hat
 exact ⟨⟨hk.size, hk.same⟩, ScI.ret h6 hI hF hs (hc.drewN 1) (((h1.set _).other (by omega) _).other (by omega) _) (((h2.other (by omega) _).set _).other (by omega) _) (((h3.other (by omega) _).other (by omega) _).set _)⟩
theorem Boxed.later {w w' : World} {b : Nat} {T : TypeId} {v : Value} (h : Boxed w b T v) (hb : Below w.heap.size w w') : Boxed w' b T v := block_later h hb
theorem ScI.later {W6 X w' : World} {N a : Nat} {B : List Nat} {pre : List Yl} (h6 : W6.heap.size = N + 6) (h : ScI W6 N a B pre X) (hb : Below X.heap.size X w') : ScI W6 N a B pre w' :=
 ScI.own h6 pre X w' none h ⟨hb.os, hb.tape, hb.output, hb.size, fun k hk _ => hb.block k hk⟩ fun r e => by cases e
theorem keepsFrom_below {A : Nat} {X Y : World} (h : Below X.heap.size X Y) : KeepsFrom A X Y := ⟨h.size, fun k o _ ho _ => (h.block k (Array.getElem?_eq_some_iff.1 ho).1).trans ho⟩
theorem sc_mid {W6 w3 w5 w6 : World} {N a ml cv Bf : Nat} {at_ : Int} {B : List Nat} {pre : List Yl} {pv p' : Option Addr} {n' c' : Nat} {H H0 : List Eh} {S S0 : List En} {u0 u1 : Value} (h6 : W6.heap.size = N + 6) (hI : ScI W6 N a B pre w3) (hV : Boxed w3 (N + 4) 74 (.slice pv ml cv)) (hA : Boxed w3 N 2 (.int .i64 at_)) (hb5 : Below w3.heap.size w3 w5) (hF5 : FE (N + 6) w5 (.slice pv ml cv) H0 S0)
 (hbF : w3.heap[Bf]? = some (.cells #[u0, u1] 142 (0, 0))) (hBf : W6.heap.size ≤ Bf) (hfe : FE (N + 6) w6 (.slice p' n' c') H S) (hchg : Chg (fun b => (Value.slice pv ml cv).ownBlock = some b) w5 w6) (hlo : ∀ b, (Value.slice pv ml cv).ownBlock = some b → N + 6 ≤ b) :
 w6.cell? ⟨N + 4, 0, none⟩ = some (.slice pv ml cv) ∧ w6.frozen? ⟨N + 4, 0, none⟩ = false ∧ (w6.setCell ⟨N + 4, 0, none⟩ (.slice p' n' c')).cell? ⟨N, 0, none⟩ = some (.int .i64 at_) ∧ (w6.setCell ⟨N + 4, 0, none⟩ (.slice p' n' c')).frozen? ⟨N, 0, none⟩ = false ∧ (w6.setCell ⟨N + 4, 0, none⟩ (.slice p' n' c')).cell? ⟨Bf, 1, none⟩ = some u1 ∧
 Hid (∀ (at2 : Int) (x : Yl) (out : List (Nat × Rx)), S = offE a out → Sx B out (zsY (pre ++ [x])) → x.e = 0 → at2 = ((a + zsY (pre ++ [x]) : Nat) : Int) → KeepsFrom W6.heap.size w3 ((w6.setCell ⟨N + 4, 0, none⟩ (.slice p' n' c')).setCell ⟨N, 0, none⟩ (.int .i64 at2)) ∧ KpS (fun k => k < N ∨ k = N + 5) w3 ((w6.setCell ⟨N + 4, 0, none⟩ (.slice p' n' c')).setCell ⟨N, 0, none⟩ (.int .i64 at2)) ∧ ScI W6 N a B (pre ++ [x]) ((w6.setCell ⟨N + 4, 0, none⟩ (.slice p' n' c')).setCell ⟨N, 0, none⟩ (.int .i64 at2))) := by
 have hs5 := hb5.size
 have hsz : W6.heap.size ≤ w3.heap.size := hI.chg.size
 have hbl : ∀ k, k < N + 6 → w6.heap[k]? = w3.heap[k]? := fun k hk => (hchg.block k (by omega) fun e => by have := hlo k e; omega).trans (hb5.block k (by omega))
 have hV6 : Boxed w6 (N + 4) 74 (.slice pv ml cv) := (hbl _ (by omega)).trans hV
 have hA6 : Boxed w6 N 2 (.int .i64 at_) := (hbl _ (by omega)).trans hA
 have hown : ∀ k, (Value.slice pv ml cv).ownBlock = some k → ∃ cs, w5.heap[k]? = some (.cells cs 85 (0, 0)) := fun k hk => by
  rcases hF5.own.2 with ⟨hn, _⟩ | ⟨g, cap, cur, he, _, hgb, _⟩
  · rw [hn] at hk
    cases hk
  · rw [he] at hk
    cases hk
    exact ⟨_, hgb⟩
 have hF6 : w6.heap[Bf]? = some (.cells #[u0, u1] 142 (0, 0)) := by
  have h5 := block_later hbF hb5
  refine (hchg.block Bf (block_lt h5) fun e => ?_).trans h5
  obtain ⟨cs, hc⟩ := hown Bf e
  rw [h5] at hc
  cases hc
 have hV7 : Boxed (w6.setCell ⟨N + 4, 0, none⟩ (.slice p' n' c')) (N + 4) 74 (.slice p' n' c') := hV6.set _
 have hA7 : Boxed (w6.setCell ⟨N + 4, 0, none⟩ (.slice p' n' c')) N 2 (.int .i64 at_) := hA6.other (by omega) _
 have hc7 : Chg (fun k => k = N ∨ k = N + 4) w6 (w6.setCell ⟨N + 4, 0, none⟩ (.slice p' n' c')) := (Chg.refl _ _).setCell ⟨N + 4, 0, none⟩ _ fun _ => .inr rfl
 have hF7 : (w6.setCell ⟨N + 4, 0, none⟩ (.slice p' n' c')).heap[Bf]? = some (.cells #[u0, u1] 142 (0, 0)) := (hc7.block Bf (block_lt hF6) (by omega)).trans hF6
 refine ⟨hV6.cell, hV6.frozen, hA7.cell, hA7.frozen, block_cell hF7 rfl, Lib.hid fun at2 x out hS hsx he hat => ?_⟩
 have hc8 : Chg (fun k => k = N ∨ k = N + 4) w6 ((w6.setCell ⟨N + 4, 0, none⟩ (.slice p' n' c')).setCell ⟨N, 0, none⟩ (.int .i64 at2)) := hc7.setCell ⟨N, 0, none⟩ _ fun _ => .inl rfl
 have hs6 := hchg.size
 refine ⟨⟨Nat.le_trans hs5 (Nat.le_trans hs6 hc8.size), fun k o hk ho hc => ?_⟩, ⟨Nat.le_trans hs5 (Nat.le_trans hs6 hc8.size), fun k hk hl => ?_⟩, ⟨⟨_, H, out, hV7.other (by omega) _, ?_, hsx⟩, ?_, ?_, ?_⟩⟩
 · have h5 : w5.heap[k]? = some o := (hb5.block k (Array.getElem?_eq_some_iff.1 ho).1).trans ho
   have h6' : w6.heap[k]? = some o := (hchg.block k (Array.getElem?_eq_some_iff.1 h5).1 fun e => by
    obtain ⟨cs, hcs⟩ := hown k e
    rw [h5] at hcs
    cases hcs
    cases hc).trans h5
   exact (hc8.block k (Array.getElem?_eq_some_iff.1 h6').1 (by omega)).trans h6'
 · have : k < N + 6 := by omega
   exact (hc8.block k (by omega) (by omega)).trans (hbl k this)
 · rw [← hS]
   exact hfe.keep hc8.size fun b hb hlt => hc8.block b hlt (by omega)
 · rw [← hat]
   exact hA7.set _
 · intro y hy
   rcases List.mem_append.1 hy with hy | hy
   · exact hI.ok y hy
   · rw [List.mem_singleton] at hy
     rw [hy]
     exact he
 · exact ((hI.chg.trans (T := fun _ => False) (Chg.of_below hb5) fun _ _ h => h.elim).trans hchg fun k hk e => by have := hlo k e; omega).trans hc8 fun _ _ h => h
theorem sc_fin {W W6 X : World} {N a D : Nat} {B : List Nat} (h6 : W6.heap.size = N + 6) (hN : W.heap.size = N) (hb6 : Below N W W6) (hX : ScX W6 N a B X) (hD : W6.heap.size ≤ D) (hK : X.heap[D]? = some (.deferred (some []))) :
 ∃ v i er, (X.putObj D (.deferred none)).cell? ⟨N + 1, 0, none⟩ = some v ∧ (X.putObj D (.deferred none)).cell? ⟨N + 2, 0, none⟩ = some (.int .i64 i) ∧ (X.putObj D (.deferred none)).cell? ⟨N + 3, 0, none⟩ = some (.int .i64 er) ∧ GivesSc W a B (.returned (.tuple #[v, .int .i64 i, .int .i64 er])) (X.putObj D (.deferred none)) := by
 have h := ScX.own h6 [] X _ _ hX (grownBy_putObj' X D (.deferred none)) fun r e => by cases e; exact ⟨hD, _, hK, rfl⟩
 obtain ⟨v, H, out, i, er, h1, h2, h3, h4, h5⟩ := h.all
 obtain ⟨p, c, hv, hel⟩ := h4.el
 refine ⟨v, _, er, h1.cell, h2.cell, h3.cell, p, c, H, ?_, ?_, ?_⟩
 · rw [h5, hv, offE_len]
 · rw [h5]
   rw [offE_len] at hel
   exact hel
 · rw [hN]
   exact Chg.below hb6 (by omega) h.chg fun k hk => hk.1
theorem five_alloc (w : World) (c0 c1 c2 c3 c4 : Array Value) (T0 T1 T2 T3 T4 : TypeId) : ∃ W, ((((w.alloc (.cells c0 T0)).alloc (.cells c1 T1)).alloc (.cells c2 T2)).alloc (.cells c3 T3)).alloc (.cells c4 T4) = W ∧ W.heap.size = w.heap.size + 5 ∧ Below w.heap.size w W ∧ W.heap[w.heap.size]? = some (.cells c0 T0 (0, 0)) ∧ W.heap[w.heap.size + 1]? = some (.cells c1 T1 (0, 0)) ∧ W.heap[w.heap.size + 2]? = some (.cells c2 T2 (0, 0)) ∧ W.heap[w.heap.size + 3]? = some (.cells c3 T3 (0, 0)) ∧ W.heap[w.heap.size + 4]? = some (.cells c4 T4 (0, 0)) := by
 have b1 : ∀ (v : World) (o : Obj), Below v.heap.size v (v.alloc o) := fun v o => (Below.refl _ _).alloc (Nat.le_refl _) _
 have s1 : ∀ (v : World) (o : Obj), (v.alloc o).heap.size = v.heap.size + 1 := fun v o => World.size_alloc v o
 have n1 : ∀ (v : World) (o : Obj), (v.alloc o).heap[v.heap.size]? = some o := fun v o => alloc_block v o
 obtain ⟨w1, h1⟩ : ∃ x, w.alloc (.cells c0 T0) = x := ⟨_, rfl⟩
 obtain ⟨w2, h2⟩ : ∃ x, w1.alloc (.cells c1 T1) = x := ⟨_, rfl⟩
 obtain ⟨w3, h3⟩ : ∃ x, w2.alloc (.cells c2 T2) = x := ⟨_, rfl⟩
 obtain ⟨w4, h4⟩ : ∃ x, w3.alloc (.cells c3 T3) = x := ⟨_, rfl⟩
 obtain ⟨w5, h5⟩ : ∃ x, w4.alloc (.cells c4 T4) = x := ⟨_, rfl⟩
 have e1 := s1 w (.cells c0 T0)
 have e2 := s1 w1 (.cells c1 T1)
 have e3 := s1 w2 (.cells c2 T2)
 have e4 := s1 w3 (.cells c3 T3)
 have e5 := s1 w4 (.cells c4 T4)
 have k1 := n1 w (.cells c0 T0)
 have k2 := n1 w1 (.cells c1 T1)
 have k3 := n1 w2 (.cells c2 T2)
 have k4 := n1 w3 (.cells c3 T3)
 have k5 := n1 w4 (.cells c4 T4)
 have q1 := b1 w (.cells c0 T0)
 have q2 := b1 w1 (.cells c1 T1)
 have q3 := b1 w2 (.cells c2 T2)
 have q4 := b1 w3 (.cells c3 T3)
 have q5 := b1 w4 (.cells c4 T4)
 rw [h1] at e1 k1 q1
 rw [h2] at e2 k2 q2
 rw [h3] at e3 k3 q3
 rw [h4] at e4 k4 q4
 rw [h5] at e5 k5 q5
 rw [e1] at k2
 rw [e2, e1] at k3
 rw [e3, e2, e1] at k4
 rw [e4, e3, e2, e1] at k5
 have q45 := q4.trans (q5.mono q4.size)
 have q35 := q3.trans (q45.mono q3.size)
 have q25 := q2.trans (q35.mono q2.size)
 refine ⟨w5, by rw [h1, h2, h3, h4, h5], by omega, q1.trans (q25.mono q1.size), block_later k1 q25, block_later k2 q35, block_later k3 q45, block_later k4 q5, k5⟩
set_option maxRecDepth 100000 in
set_option maxHeartbeats 8000000 in
theorem wal_scan (p : Option Addr) (n c : Nat) (B : List Nat) (a : Nat) (W : World) (hw : Wd4 W) (hS : Sl W p n c B) (hcm : c ≤ maxLen) (hn : n ≤ 100000) (ha : a ≤ 4000000000000000) :
 Calls Tryz.prog 30 #[.slice p n c, .int .i64 (a : Nat)] W (GivesSc W a B) := by
 obtain ⟨W5, hW5, hs5, hb5, k0, k1, k2, k3, k4⟩ := five_alloc W #[.int .i64 (a : Nat)] #[.slice none 0 0] #[.int .i64 0] #[.int .i64 0] #[.slice none 0 0] 2 74 2 56 74
 refine callsIn_wide (n := 6).1 ?_
 refine callsIn_of_wp_marks Tryz.func30 rfl trivial ?_ rfl
 simp only [Tryz.ntmps30, List.size_toArray, List.length_cons, List.length_nil, Nat.reduceAdd, Nat.reduceSub, Array.replicate_succ, Array.replicate_zero, List.push_toArray, List.append_toArray, List.nil_append, List.cons_append]
 have hwide : ∀ f, Fence.wide.fn f := fun _ => trivial
 obtain ⟨N, hN⟩ : ∃ N, W.heap.size = N := ⟨_, rfl⟩
 rw [hN] at hs5 hb5 k0 k1 k2 k3 k4
 have HW5 := Lib.hid hW5
 have HN := Lib.hid hN
 have HWD := Lib.hid hw
 have HSL := Lib.hid hS
 have HB5 := Lib.hid hb5
 have hs6 : (W5.alloc (.cells #[.slice p n c] 33)).heap.size = N + 6 := by simp [hs5]
 have hb6 : Below W5.heap.size W5 (W5.alloc (.cells #[.slice p n c] 33)) := (Below.refl _ _).alloc (Nat.le_refl _) _
 have k5 := alloc_block W5 (.cells #[.slice p n c] 33)
 rw [hs5] at k5
 have H0 := Lib.hid (block_later k0 hb6)
 have H1 := Lib.hid (block_later k1 hb6)
 have H2 := Lib.hid (block_later k2 hb6)
 have H3 := Lib.hid (block_later k3 hb6)
 have H4 := Lib.hid (block_later k4 hb6)
 have H5 := Lib.hid k5
 have HB6 : Hid (Below N W (W5.alloc (.cells #[.slice p n c] 33))) := Lib.hid (hb5.trans (hb6.mono (by omega)))
 have HS5 := Lib.hid hs5
 clear hW5 hN hw hS hb5 k0 k1 k2 k3 k4 k5 hb6 hs5
 gi_wp2
 rw [HW5.out, HN.out]
 simp only [Nat.add_assoc, Nat.reduceAdd]
 refine ((callsIn_wide (n := 5)).2 (wal_frames p n c W5)).mono ?_
 rintro e w' ⟨rfl, rfl⟩
 rw [HS5.out]
 generalize W5.alloc (.cells #[.slice p n c] 33) = W6 at *
 have HI0 : Hid (ScI W6 N a B [] W6) := Lib.hid ⟨⟨.slice none 0 0, [], [], H4.out, FE.nil _ _, Sx.start B⟩, H0.out, (fun y h => by cases h), Chg.refl _ _⟩
 have HSL6 := Lib.hid (sl_below HSL.out HB6.out HN.out)
 have HWD6 := Lib.hid (HWD.out.later (by rw [HN.out]; exact HB6.out))
 have HG : Hid (1 < N) := Lib.hid (by rw [← HN.out]; exact HWD.out.1.lt)
 have HPB : Hid (0 < n → ∀ ad, p = some ad → ad.block < N) := Lib.hid fun h0 ad ha => by
  obtain ⟨b, off, hp, hlt, _⟩ := HSL.out.blk h0
  rw [ha] at hp
  cases hp
  rw [← HN.out]
  exact hlt
 have HLN := Lib.hid HSL.out.len
 have x5 : W6.cell? ⟨N + 5, 0, none⟩ = some (.slice p n c) := block_cell H5.out rfl
 have hseq := frames_tells (N + 5) (fun k => k < N ∨ k = N + 5) p n c B W6 x5 HSL6.out hcm hn HWD6.out.1 (.inr rfl) (fun h0 ad ha => .inl (HPB.out h0 ad ha)) (.inl HG.out)
 have HSEQ := Lib.hid hseq
 clear hseq x5 HB5
 gi_wp2
 have eg : ∀ args w, (callFunc 116 args).run Tryz.prog w = .ok (.enter 116 args) w := enters_of Tryz.func116 (by kernel_rfl) rfl
 refine range_told (n := 6) (encs := encY) (ps := #[14, 15]) rfl (by decide) (gf := 116) (lb := #[.pointer (some ⟨N + 5, 0, none⟩)]) rfl trivial eg HSEQ.out KpS.trans
  (fun X l o o' hl h _ _ => ⟨by simp, fun k hk hlt => World.putObj_heap_other (by omega)⟩) (fun _ => rfl) (ScI W6 N a B) (fun _ => ScX W6 N a B) (ScI.own hs6) (ScX.own hs6) HI0.out
  (ScA W6 B fun x Bf => #[.slice p n c, .int .i64 (a : Nat), undef, .pointer (some ⟨N, 0, none⟩), .pointer (some ⟨N + 1, 0, none⟩), .pointer (some ⟨N + 2, 0, none⟩), .pointer (some ⟨N + 3, 0, none⟩), .pointer (some ⟨N + 4, 0, none⟩), .pointer (some ⟨Bf, 0, none⟩), .int .i64 x.e, undef, undef, .slice p n c, .func (.func 116) #[] #[.pointer (some ⟨N + 5, 0, none⟩)], .agg #[.slice x.p x.P.length x.c, .int .i64 (x.z : Nat)], .int .i64 x.e, undef, undef, undef, undef, undef, undef, undef, undef, undef, undef, undef, undef, undef, undef, undef, undef, undef, undef, undef, undef, undef, undef, undef, undef, undef, undef, undef])
  (fun _ _ _ => ScA.own) ?assign ?body ?done ?stop
 case assign =>
  rintro l pre x X K' hI hR hlen hK
  dsimp only [encY]
  gi_wp2
  have hg := World.grownBy_alloc X (.cells #[.slice x.p x.P.length x.c, .int .i64 (x.z : Nat)] 142) none
  have hsz : W6.heap.size ≤ X.heap.size := hI.chg.size
  exact hK _ _ ((KeepsOthers.alloc _ _).from _) (KpS.of_below ((Below.refl _ _).alloc (Nat.le_refl _) _)) (ScI.own hs6 _ _ _ _ hI hg (fun r e => by cases e)) ⟨⟨X.heap.size, hsz, alloc_block X _, rfl⟩, hR.kept hg fun r e => by cases e⟩
 case body =>
  rintro l pre x a' X hl hI ⟨⟨Bf, hBf, bF, rfl⟩, hT⟩ hlen
  obtain ⟨v, H, out, hv, hFE, hSx⟩ := hI.all
  obtain ⟨pv, cv, hvv, _⟩ := hFE.el
  generalize hml : (offE a out).length = ml at hvv
  subst hvv
  have hHl : H.length = out.length := by rw [hFE.tells.len, offE_len]
  have hfew := hSx.few
  have hzl := hT.lt
  have hzb : zsY pre < n := by rw [← HLN.out]; exact hzl
  have hF : ∀ f, (Fence.wide.inRound l).fn f := fun _ => trivial
  have f0 := block_cell (j := 0) bF (v := .slice x.p x.P.length x.c) rfl
  have f1 := block_cell (j := 1) bF (v := .int .i64 (x.z : Nat)) rfl
  have cl := hv.cell
  have fl := hv.frozen
  have ca := hI.at_.cell
  have fa := hI.at_.frozen
  have b1 : Boxed X (N + 1) 74 (.slice none 0 0) := (hI.chg.block (N + 1) (by omega) (by omega)).trans H1.out
  have b2 : Boxed X (N + 2) 2 (.int .i64 0) := (hI.chg.block (N + 2) (by omega) (by omega)).trans H2.out
  have b3 : Boxed X (N + 3) 56 (.int .i64 0) := (hI.chg.block (N + 3) (by omega) (by omega)).trans H3.out
  have cb1 := b1.cell
  have fb1 := b1.frozen
  have cb2 := b2.cell
  have fb2 := b2.frozen
  have cb3 := b3.cell
  have fb3 := b3.frozen
  have HFE := Lib.hid hFE
  have HSX := Lib.hid hSx
  have HTL := Lib.hid hT
  have HII := Lib.hid hI
  have HHL := Lib.hid hHl
  have HB1 := Lib.hid b1
  have HB2 := Lib.hid b2
  have HB3 := Lib.hid b3
  have HBA := Lib.hid hI.at_
  have HBV := Lib.hid hv
  generalize hat : ((a + zsY pre : Nat) : Int) = at_ at *
  have HAT := Lib.hid hat
  clear hFE hSx hT hI hHl b1 b2 b3 hv hat hfew hzl
  by_cases he : x.e = 0
  · have hxz : x.z = 6 + nN (B.drop (zsY pre)) := by rw [HTL.out.z]; exact if_pos (by rw [← HTL.out.e]; exact he)
    have hxp : x.P = nP (B.drop (zsY pre)) := by rw [HTL.out.P]; exact if_pos (by rw [← HTL.out.e]; exact he)
    have hne : nE (B.drop (zsY pre)) = 0 := by rw [← HTL.out.e]; exact he
    have hz := nE_zero hne
    have hpl : x.P.length ≤ 512 := by rw [hxp, nP_len hne]; omega
    rw [List.length_drop, HLN.out] at hz
    have hXB : Below N W X := Chg.below HB6.out (by omega) HII.out.chg fun k hk => by omega
    have HWX := Lib.hid (HWD.out.later (by rw [HN.out]; exact hXB))
    have hdec := callsIn_wide (n := 3).2 (rec_decode x.p x.P.length x.c x.P X HWX.out.2 HTL.out.sl (by omega))
    have HDE := Lib.hid hdec
    have HZ := Lib.hid (And.intro hxz (And.intro hxp (And.intro hne hz)))
    have HE := Lib.hid he
    have e0 : x.e = 0 := he
    clear hxz hxp hne hz hpl hXB hdec he
    generalize x.P.length = pl at *
    generalize x.e = xe at *
    subst e0
    gi_wp2
    refine HDE.out.mono ?_
    rintro e w1 ⟨r, L, T, M, rfl, hx, hm, hb1, hnw⟩
    obtain ⟨N2, hN2⟩ : ∃ k, w1.heap.size = k := ⟨_, rfl⟩
    obtain ⟨w3, hwn, hxn, hbn⟩ : ∃ w3, (w1.alloc (.cells zr 51)).setRow N2 (rcs r) = w3 ∧ RB w3 N2 r ∧ Below w1.heap.size w1 w3 := ⟨_, rfl, by rw [← hN2]; exact setRow_heap _ _ _ _ _ _ (alloc_block w1 _), below_setRow ((Below.refl _ _).alloc (Nat.le_refl _) _) (by omega) _⟩
    have hxz : RB (w1.alloc (.cells zr 51)) N2 rz := by rw [← hN2]; exact alloc_block w1 _
    have hb3 : Below X.heap.size X w3 := hb1.trans (hbn.mono hb1.size)
    have HX3 := Lib.hid hxn
    have HXZ := Lib.hid hxz
    have HWN := Lib.hid hwn
    have HNN := Lib.hid hN2
    have HB := Lib.hid hb3
    have HM := Lib.hid (hm.later hbn)
    have HXX := Lib.hid hx
    have HNW := Lib.hid hnw
    -- what lies there still
    have hI3 : ScI W6 N a B pre w3 := ScI.later hs6 HII.out hb3
    have HI3 := Lib.hid hI3
    have HF3 := Lib.hid (HFE.out.later hb3)
    have cl3 := (Boxed.later HBV.out hb3).cell
    have fl3 := (Boxed.later HBV.out hb3).frozen
    have ca3 := (Boxed.later HBA.out hb3).cell
    have fa3 := (Boxed.later HBA.out hb3).frozen
    have HB13 := Lib.hid (Boxed.later HB1.out hb3)
    have HB23 := Lib.hid (Boxed.later HB2.out hb3)
    have HB33 := Lib.hid (Boxed.later HB3.out hb3)
    have HBA3 := Lib.hid (Boxed.later HBA.out hb3)
    have HBV3 := Lib.hid (Boxed.later HBV.out hb3)
    have cb13 := (Boxed.cell HB13.out)
    have fb13 := (Boxed.frozen HB13.out)
    have cb23 := (Boxed.cell HB23.out)
    have fb23 := (Boxed.frozen HB23.out)
    have cb33 := (Boxed.cell HB33.out)
    have fb33 := (Boxed.frozen HB33.out)
    have hbF := block_later bF hb3
    have g1 := block_cell (j := 1) hbF (v := .int .i64 (x.z : Nat)) rfl
    clear hx hm hb1 hnw hwn hxn hbn hxz hN2 hb3 hI3 f0 f1 cl fl ca fa cb1 fb1 cb2 fb2 cb3 fb3
    by_cases hd : (decX x.P).1 = 0
    · rw [hd]
      have HSS : Hid (Sx B (out ++ [(zsY pre, r.x L T M)]) (zsY pre + x.z)) := Lib.hid (by
       have h1 := HSX.out.step HZ.out.2.2.1 (by rw [← HZ.out.2.1]; exact hd)
       rw [← HZ.out.2.1, ← HXX.out, ← HZ.out.1] at h1
       exact h1)
      have hb5 : Below w3.heap.size w3 (w3.alloc (.cells (ecs (at_, r)) 85)) := (Below.refl _ _).alloc (Nat.le_refl _) _
      have hX6 : N + 6 ≤ X.heap.size := by have := HII.out.chg.size; omega
      have hsz3 := HB.out.size
      have HNB := Lib.hid (alloc_block w3 (.cells (ecs (at_, r)) 85))
      have HF5 := Lib.hid (HF3.out.later hb5)
      have HT5 : Hid (TellsE (w3.alloc (.cells (ecs (at_, r)) 85)) (at_, r) (at_, r.x L T M)) := Lib.hid ⟨rfl, L, T, M, rfl, HM.out.later hb5⟩
      have HAP : Hid (∀ b, Lb r b → (Value.slice pv ml cv).ownBlock ≠ some b) := Lib.hid fun b hb e => by
       have h1 := HNW.out.lb hb
       have h2 := (HFE.out.own.lt b e).2
       omega
      have HLW : Hid (∀ b, Lb r b → N + 6 ≤ b) := Lib.hid fun b hb => by
       have := HNW.out.lb hb
       omega
      have HBG : Hid (H.length + 1 ≤ 1000000) := Lib.hid (by
       have h1 := HSX.out.few
       have h2 := HHL.out
       omega)
      have HB5 := Lib.hid hb5
      have HKX : Hid (KpS (fun k => k < N ∨ k = N + 5) X w3) := Lib.hid (KpS.of_below HB.out)
      have HN5 : Hid (N + 6 ≤ (w3.alloc (.cells (ecs (at_, r)) 85)).heap.size) := Lib.hid (by simp; omega)
      have hbh := fun w => callsIn_wide (n := 3).2 (wal_behind (a + zsY pre) x.z w (by have := HZ.out.2.2.2; have := HZ.out.1; omega))
      rw [HAT.out] at hbh
      have HBH := Lib.hid hbh
      have HEQ : Hid (((a + zsY pre + x.z : Nat) : Int) = ((a + zsY (pre ++ [x]) : Nat) : Int)) := Lib.hid (by rw [zsY_snoc]; omega)
      clear hd hb5 hbh
      generalize ((a + zsY pre + x.z : Nat) : Int) = at2 at *
      gi_wp2_with (first | ((try rw [HNN.out]); (with_reducible refine in_store_rc r hF HXZ.out ?_ ?_ ?_); rfl; rfl; rw [HWN.out]) | ((with_reducible refine in_load_rc hF HX3.out ?_ ?_); rfl) | ((with_reducible refine in_build_e (v := at_) (r := r) hF rfl ?_ ?_ ?_); rfl; rfl) | ((with_reducible refine in_slice_e (h' := (at_, r)) hF rfl ?_ ?_); rfl) | ((with_reducible refine in_append_e hF rfl _ _ rfl _ H _ ?_ HF5.out w3.heap.size (at_, r) (at_, r.x L T M) ?_ HNB.out HT5.out HAP.out HLW.out HN5.out HBG.out ?_); rfl; rfl; intro p' c' w6 hfe hchg hlo; obtain ⟨y4, z4, y0, z0, yf, HQ⟩ := sc_mid (B := B) (a := a) (at_ := at_) hs6 HI3.out HBV3.out HBA3.out HB5.out HF5.out hbF hBf hfe hchg hlo))
      clear hfe hchg hlo
      refine (HBH.out _).mono ?_
      rintro e w7 ⟨rfl, rfl⟩
      gi_wp2
      obtain ⟨q1, q2, q3⟩ := HQ.out at2 x (out ++ [(zsY pre, r.x L T M)]) (by rw [offE_snoc, HAT.out]) (by rw [zsY_snoc]; exact HSS.out) (HTL.out.e.trans HZ.out.2.2.1) HEQ.out
      exact ⟨(keepsFrom_below HB.out).trans q1, HKX.out.trans q2, q3⟩
    · generalize hde : (decX x.P).1 = de at *
      have d1 : (de != 0) = true := by simpa using hd
      have d2 : (de == 0) = false := by simpa using hd
      have d3 : decide (de = 0) = false := by simpa using hd
      have HS : Hid (scanX B = (out, zsY pre, 8)) := Lib.hid (HSX.out.form HTL.out.lt HZ.out.2.2.1 (by rw [← HZ.out.2.1, hde]; exact hd))
      have HKF : Hid (KpS (fun k => k < N ∨ k = N + 5) X w3) := Lib.hid (KpS.of_below HB.out)
      clear hd hde
      gi_wp2_with ((try rw [HNN.out]); (with_reducible refine in_store_rc r hF HXZ.out ?_ ?_ ?_); rfl; rfl; rw [HWN.out])
      gi_region_with (fail)
      all_goals
       gi_wp2
       obtain ⟨q1, q2⟩ := ret3 (er := 8) hs6 HI3.out.chg HF3.out HS.out HAT.out HB13.out HB23.out HB33.out
       exact ⟨(keepsFrom_below HB.out).trans q1, q2⟩
  · have d1 : (x.e != 0) = true := by simpa using he
    have d2 : (x.e == 0) = false := by simpa using he
    have d3 : decide (x.e = 0) = false := by simpa using he
    have HS : Hid (scanX B = (out, zsY pre, x.e)) := Lib.hid (by rw [HTL.out.e]; exact HSX.out.wrong HTL.out.lt (by rw [← HTL.out.e]; exact he))
    have HE := Lib.hid he
    clear he
    gi_wp2
    gi_region_with (fail)
    all_goals
     gi_wp2
     exact ret3 hs6 HII.out.chg HFE.out HS.out HAT.out HB1.out HB2.out HB3.out
 case done =>
  rintro D ys X hD hdn hI hK
  obtain ⟨v, H, out, hv, hFE, hSx⟩ := hI.all
  obtain ⟨pv, cv, hvv, _⟩ := hFE.el
  generalize hml : (offE a out).length = ml at hvv
  subst hvv
  have cl := hv.cell
  have ca := hI.at_.cell
  have b1 : Boxed X (N + 1) 74 (.slice none 0 0) := (hI.chg.block (N + 1) (by omega) (by omega)).trans H1.out
  have b2 : Boxed X (N + 2) 2 (.int .i64 0) := (hI.chg.block (N + 2) (by omega) (by omega)).trans H2.out
  have b3 : Boxed X (N + 3) 56 (.int .i64 0) := (hI.chg.block (N + 3) (by omega) (by omega)).trans H3.out
  have cb1 := b1.cell
  have fb1 := b1.frozen
  have cb2 := b2.cell
  have fb2 := b2.frozen
  have cb3 := b3.cell
  have fb3 := b3.frozen
  have hend : B.length ≤ zsY ys := by
   rcases hdn with h | ⟨y, hy, he⟩
   · exact h
   · exact absurd (hI.ok y hy) he
  have HS : Hid (scanX B = (out, zsY ys, 0)) := Lib.hid (hSx.done hend)
  have HFE := Lib.hid hFE
  have HII := Lib.hid hI
  have HB1 := Lib.hid b1
  have HB2 := Lib.hid b2
  have HB3 := Lib.hid b3
  have HKD := Lib.hid hK
  generalize hat : ((a + zsY ys : Nat) : Int) = at_ at *
  have HAT := Lib.hid hat
  clear hFE hSx hI b1 b2 b3 hv hat hdn hend hK
  gi_wp2
  gi_region_with (fail)
  all_goals
   gi_wp2
   obtain ⟨q1, q2⟩ := ret3 (er := 0) hs6 HII.out.chg HFE.out HS.out HAT.out HB1.out HB2.out HB3.out
   have hK' := q1.same D _ hD HKD.out rfl
   obtain ⟨v, i, er, c1, c2, c3, hG⟩ := sc_fin hs6 HN.out HB6.out q2 hD hK'
   refine ⟨by simp, .inl ⟨_, _, rfl, run_takeDeferred hK', ?_⟩⟩
   refine ⟨.tuple #[v, .int .i64 i, .int .i64 er], ?_, hG⟩
   simp [results, Tryz.f30, go_sem, c1, c2, c3]
 case stop =>
  rintro D pre X hD _ hX hK
  obtain ⟨v, i, er, c1, c2, c3, hG⟩ := sc_fin hs6 HN.out HB6.out hX hD hK
  gi_wp2
  refine ⟨by simp, .inl ⟨_, _, rfl, run_takeDeferred hK, ?_⟩⟩
  refine ⟨.tuple #[v, .int .i64 i, .int .i64 er], ?_, hG⟩
  simp [results, Tryz.f30, go_sem, c1, c2, c3]
end
theorem bytesT_from0 (z : Nat) (t : TS) : bytesT z t 0 = t.B := by
 have : fromT z t 0 = 0 := by unfold fromT; omega
 unfold bytesT
 rw [this, List.drop_zero]
theorem log_bytes {w : World} {col : Nat → Nat} {B : Nat} {d : DS} {Xs : List Rx} {m : Nat} (hd : Dk w col 1 B d) (hg : GoodsX Xs) (hr : (flatX Xs).length ≤ 41300) (hs : d.sT = ⟨0, zi ((flatX Xs).take m)⟩) :
 Calls Tryz.prog 34 #[.pointer (some ⟨B, 0, none⟩), .int .i64 0] w fun e w' => ∃ p c, e = .returned (.slice p ((flatX Xs).take m).length c) ∧ Sl w' p ((flatX Xs).take m).length c ((flatX Xs).take m) ∧ c ≤ maxLen ∧ Below w.heap.size w w' := by
 have hl : d.sT.len d.z ≤ 1000000 := by
  rw [hs]
  show 0 * d.z + (zi ((flatX Xs).take m)).length ≤ 1000000
  rw [zi_len, List.length_take]
  omega
 refine (disk_bytes hd hl 0).mono ?_
 rintro e w' ⟨p, c, rfl, h1, h2, _⟩
 have eb : bytesT d.z d.sT 0 = zi ((flatX Xs).take m) := by
  rw [bytesT_from0, hs]
 rw [eb, zi_len] at h1 ⊢
 obtain ⟨g1, g2⟩ := BL.sl h1 (byt_take (byt_flatX Xs hg) m)
 exact ⟨p, c, rfl, g1, g2, h2⟩
theorem flat_le (Xs : List Rx) {a b : Nat} (h : a ≤ b) : (flatX (Xs.take a)).length ≤ (flatX (Xs.take b)).length := by
 have h1 := flat_mono (Xs.take b) a
 rw [List.take_take, Nat.min_eq_left h] at h1
 exact h1
theorem bnd_le {Xs : List Rx} {k m x : Nat} (hb : Bnd Xs x) (hx : x ≤ m) (hk : k < Xs.length → m < (flatX (Xs.take (k + 1))).length) : x ≤ (flatX (Xs.take k)).length := by
 obtain ⟨j, hj, rfl⟩ := hb
 rcases Nat.lt_or_ge k j with h | h
 · have h1 := hk (by omega)
   have h2 := flat_le Xs (show k + 1 ≤ j by omega)
   omega
 · exact flat_le Xs h
theorem start_facts {d : DS} {Y : List Int} {m f : Nat} (hs : d.sT = ⟨0, Y⟩) (hm : Y.length = m) (hf : f ≤ m) : (LS.start d (f : Nat) 0).fin = f ∧ (LS.start d (f : Nat) 0).d.sT.f * (LS.start d (f : Nat) 0).d.z + (LS.start d (f : Nat) 0).d.sT.B.length = f := by
 have hlo : d.lo = 0 := by
  unfold DS.lo
  rw [hs]
  exact Nat.zero_mul _
 have hhi : d.hi = m := by
  unfold DS.hi
  rw [hs]
  show 0 * d.z + Y.length = m
  omega
 have hk : kn (f : Nat) d.lo d.hi = f := by
  rw [hlo, hhi]
  unfold kn
  omega
 refine ⟨?_, ?_⟩
 · show kn (f : Nat) d.lo d.hi + 0 = f
   rw [hk, Nat.add_zero]
 · by_cases h : f < m
   · have e : (LS.start d (f : Nat) 0).d = d.add (.cut (f : Nat)) := by
      show (if kn (f : Nat) d.lo d.hi < d.hi then d.add (.cut (kn (f : Nat) d.lo d.hi : Nat)) else d) = _
      rw [hk, hhi, if_pos h]
     have hl : left' d.z ⟨0, Y⟩ (f : Nat) = f := by
      unfold left'
      show cl (f : Nat) (0 * d.z) (0 * d.z + Y.length) - 0 * d.z = f
      rw [Nat.zero_mul]
      unfold cl
      omega
     rw [e, add_sT, hs]
     show 0 * d.z + (Y.take (left' d.z ⟨0, Y⟩ (f : Nat))).length = f
     rw [hl, List.length_take]
     omega
   · have e : (LS.start d (f : Nat) 0).d = d := by
      show (if kn (f : Nat) d.lo d.hi < d.hi then d.add (.cut (kn (f : Nat) d.lo d.hi : Nat)) else d) = _
      rw [hk, hhi, if_neg h]
     rw [e, hs]
     show 0 * d.z + Y.length = f
     omega
set_option maxHeartbeats 8000000 in
theorem law_wcrash (p : Option Addr) (n c : Nat) (H : List Wa) (s1 x2 y2 : Nat) (W : World) (hw : Wd4 W) (ha : AcL W p n c H) (h1 : s1 ≤ 255) (hx : x2 < 65536) (hy : y2 < 65536) :
 Calls Tryz.prog 7 #[.slice p n c, .int .u8 (s1 : Nat), .agg #[.int .u16 (x2 : Nat), .int .u16 (y2 : Nat)]] W fun e w' => e = .returned (.bool true) ∧ Below W.heap.size W w' := by
 obtain ⟨W1, hW1, hb1⟩ : ∃ W1, W.alloc (.cells #[.int .u16 (x2 : Nat), .int .u16 (y2 : Nat)] 89) = W1 ∧ Below W.heap.size W W1 := ⟨_, rfl, (Below.refl _ _).alloc (Nat.le_refl _) _⟩
 obtain ⟨Z, hZ⟩ : ∃ X, W.heap.size = X := ⟨_, rfl⟩
 have hbx := alloc_block W (.cells #[.int .u16 (x2 : Nat), .int .u16 (y2 : Nat)] 89)
 rw [hW1, hZ] at hbx
 have c0 := block_cell (j := 0) hbx (v := .int .u16 (x2 : Nat)) rfl
 have c1 := block_cell (j := 1) hbx (v := .int .u16 (y2 : Nat)) rfl
 have hlt := block_lt hbx
 have HBX := Lib.hid (fun w' (hb : Below W1.heap.size W1 w') => ⟨(hb.cell hlt).trans c0, (hb.cell hlt).trans c1⟩ : ∀ w', Below W1.heap.size W1 w' → w'.cell? ⟨Z, 0, none⟩ = some (.int .u16 (x2 : Nat)) ∧ w'.cell? ⟨Z, 1, none⟩ = some (.int .u16 (y2 : Nat)))
 have hfw := wal_few p n c 20 H W1 (by omega) (ha.later hb1)
 have HA := Lib.hid (ha.later hb1)
 have HWD := Lib.hid (hw.later hb1)
 have HWK := Lib.hid fun w' (hb : Below W1.heap.size W1 w') => wal_works w' ((hw.later hb1).later hb)
 have HW1 := Lib.hid hW1
 have HZ := Lib.hid hZ
 have HB0 := Lib.hid hb1
 have k1 : (s1 : Int).tmod 24 = ((s1 % 24 : Nat) : Int) := by rw [Int.tmod_eq_emod_of_nonneg (by omega)]; omega
 have k2 : (x2 : Int).tmod 5 = ((x2 % 5 : Nat) : Int) := by rw [Int.tmod_eq_emod_of_nonneg (by omega)]; omega
 have k3 : (y2 : Int).tmod 300 = ((y2 % 300 : Nat) : Int) := by rw [Int.tmod_eq_emod_of_nonneg (by omega)]; omega
 obtain ⟨sy, hsy, hsl⟩ : ∃ m, s1 % 24 = m ∧ m < 24 := ⟨_, rfl, by omega⟩
 obtain ⟨ke, hke, hkl⟩ : ∃ m, x2 % 5 = m ∧ m < 5 := ⟨_, rfl, by omega⟩
 obtain ⟨te, hte, htl⟩ : ∃ m, y2 % 300 = m ∧ m < 300 := ⟨_, rfl, by omega⟩
 rw [hsy] at k1
 rw [hke] at k2
 rw [hte] at k3
 have k4 : IntKind.u8.wrap (sy : Int) = (sy : Int) := by rw [IntKind.wrap_u8]; omega
 have k5 : IntKind.u16.wrap (ke : Int) = (ke : Int) := by rw [IntKind.wrap_u16]; omega
 have k6 : IntKind.u16.wrap (te : Int) = (te : Int) := by rw [IntKind.wrap_u16]; omega
 have k7 : IntKind.i64.wrap (ke : Int) = (ke : Int) := by rw [IntKind.wrap_i64]; omega
 have k8 : IntKind.i64.wrap (te : Int) = (te : Int) := by rw [IntKind.wrap_i64]; omega
 clear ha hw hW1 hb1 hZ hbx c0 c1 hlt hsy hke hte
 go_enter Tryz.func7, Tryz.ntmps7
 go_upto_region 1 with (fail)
 rw [HW1.out, HZ.out]
 go_wp2_with fail
 refine hfw.mono ?_
 rintro e w1 ⟨t, rfl, hfe, hb1⟩
 have HB1 := Lib.hid hb1
 clear hb1 hfw
 cases t with
 | false =>
  have hwk := HWK.out w1 HB1.out
  clear hfe
  go_wp2_with fail
  refine hwk.mono ?_
  rintro e w2 ⟨rfl, hb2⟩
  have HB2 := Lib.hid (HB1.out.trans (hb2.mono HB1.out.size))
  clear hb2 hwk
  go_wp2_with fail
  go_ret
  exact ⟨rfl, HB0.out.trans (HB2.out.mono HB0.out.size)⟩
 | true =>
  obtain ⟨hn, hsm⟩ := hfe rfl
  have HN := Lib.hid hn
  have HSM := Lib.hid hsm
  have hdn := disk_new 1 8 256 65536 w1
  clear hfe hn hsm
  go_wp2_with fail
  refine hdn.mono ?_
  rintro e w2 ⟨B, rfl, hbo, hB, hb2⟩
  obtain ⟨col2, he2, hd2⟩ := hbo (fun _ => 0) 1 (Nat.le_refl _)
  have hb2' := HB1.out.trans (hb2.mono HB1.out.size)
  have hpt := wal_put W1 w2 HWD.out p n c H HA.out HN.out HSM.out B col2 hd2 (fun k hk => he2 k (Nat.lt_of_lt_of_le hk HB1.out.size)) hb2' sy (by omega)
  clear hbo hB hb2 he2 hd2 hb2' hdn HA HSM
  go_wp2_with fail
  refine hpt.mono ?_
  rintro e w3 ⟨G, v, rfl, col, s, Xs, HH, h3⟩
  obtain ⟨pv, cv, hv, _⟩ := h3.fe.el
  rw [offE_len, entsX_len] at hv
  have hroom : (flatX Xs).length ≤ 41300 := h3.pi.room (by have := HN.out; omega)
  have hfw := h3.pi.few
  have hsu := wal_sure h3.lh.lg
  obtain ⟨su, hsu1⟩ : ∃ x, s.su = x := ⟨_, rfl⟩
  obtain ⟨m, hm⟩ : ∃ m, Xs.length = m := ⟨_, rfl⟩
  have HM := Lib.hid hm
  have HSU := Lib.hid hsu1
  have HNN : Hid (m ≤ 20) := Lib.hid (by have := HN.out; omega)
  have HR := Lib.hid hroom
  have H3 := Lib.hid h3
  rw [hsu1] at hsu
  rw [hm] at hv
  subst hv
  clear hpt h3 hm hsu1 hfw hroom
  go_wp2_with fail
  refine hsu.mono ?_
  rintro e w4 ⟨rfl, hb4⟩
  have h4 := H3.out.later hb4
  have hdx := h4.dx
  have hcr := disk_crash hdx.dk (by have h1 := h4.pi.tot; have h2 := h4.pi.wr; have := HR.out; omega) (by have := h4.pi.nL; have := HN.out; omega) (ke : Nat) (te : Nat)
  obtain ⟨g0, g1⟩ := HBX.out w4 hdx.below
  have HX := Lib.hid hdx
  obtain ⟨b, hb1, hb2, hb3⟩ := h4.pi.crash (ke : Nat) (te : Nat)
  have hbl : b ≤ (flatX Xs).length := Nat.le_trans hb2 h4.pi.wr
  have HBS : Hid (Bnd Xs su) := Lib.hid (HSU.out ▸ h4.pi.bs)
  have HG := Lib.hid h4.pi.good
  have HSB : Hid (su ≤ b) := Lib.hid (HSU.out ▸ hb1)
  have HBL := Lib.hid hbl
  obtain ⟨d5, hd5⟩ : ∃ d, s.d.crash (ke : Nat) (te : Nat) = d := ⟨_, rfl⟩
  have ht5 : d5.tot = d5.sT.len d5.z := by rw [← hd5]; rfl
  have hl5 : d5.L.length = 0 := by rw [← hd5]; rfl
  rw [hd5] at hb3 hcr
  have HS5 := Lib.hid hb3
  have HT5 : Hid (d5.tot ≤ 1000000 ∧ d5.L.length < 1000000) := Lib.hid ⟨by
   rw [ht5, hb3]
   show 0 * d5.z + (zi ((flatX Xs).take b)).length ≤ 1000000
   have := HR.out
   rw [zi_len, List.length_take]
   omega, by omega⟩
  clear h4 hdx hb1 hb2 hb3 hbl hd5 ht5 hl5 H3 hb4 hsu HSU
  go_wp2_with fail
  refine hcr.mono ?_
  rintro e w5 ⟨rfl, ht⟩
  obtain ⟨col5, h5⟩ := HX.out.turned ht
  have hby := log_bytes (m := b) h5.dk HG.out HR.out HS5.out
  have hbl : ((flatX Xs).take b).length = b := by rw [List.length_take]; have := HBL.out; omega
  rw [hbl] at hby
  have H5 := Lib.hid h5
  clear ht h5 hcr hbl HX g0 g1
  go_wp2_with fail
  refine hby.mono ?_
  rintro e w6 ⟨pb, cb, rfl, hsl6, hcm, hb6⟩
  have H6 := Lib.hid (H5.out.later hb6)
  have hsc := wal_scan pb b cb ((flatX Xs).take b) 0 w6 (HWD.out.later H6.out.below) hsl6 hcm (by have := HR.out; have := HBL.out; omega) (by omega)
  clear hby hsl6 hcm hb6 H5
  go_wp2_with fail
  refine hsc.mono ?_
  obtain ⟨k, hk1, hk2, hk3, hk4⟩ := scanX_cut Xs HG.out b HBL.out
  obtain ⟨fz, hfz⟩ : ∃ f, (flatX (Xs.take k)).length = f := ⟨_, rfl⟩
  have hsf : su ≤ fz := by rw [← hfz]; exact bnd_le HBS.out HSB.out hk3
  rw [hfz] at hk2 hk4
  obtain ⟨er, her, her2⟩ : ∃ x : Int, (if fz < b then 6 else 0) = x ∧ (fz < b ∧ x = 6 ∨ fz = b ∧ x = 0) := by
   refine ⟨_, rfl, ?_⟩
   by_cases h : fz < b
   · exact .inl ⟨h, if_pos h⟩
   · exact .inr ⟨by omega, if_neg h⟩
  rw [her] at hk4
  rintro e w7 ⟨p7, c7, H7, rfl, hel7, hb7⟩
  rw [hk4] at hel7 ⊢
  dsimp only at hel7 ⊢
  have hkl2 : (entsX 0 (Xs.take k)).length = k := by rw [entsX_len, List.length_take]; omega
  rw [hkl2] at hel7 ⊢
  rw [Nat.zero_add]
  rw [HM.out] at hk1
  have H8 := Lib.hid (H6.out.later hb7)
  obtain ⟨pw, cw, hvw, helw⟩ := H8.out.el
  rw [offE_len, entsX_len, HM.out] at hvw helw
  injection hvw with e1 e2 e3
  subst e1
  subst e3
  have hes := ents_same hel7 (by
   have h := helw.take k hk1
   rw [offE_take, ← entsX_take] at h
   exact h) (by have := HNN.out; omega) (good_smx (fun X hX => HG.out X (List.mem_of_mem_take hX)) 0 0)
  have hcap := hel7.row.cap
  have hcap2 := helw.row.cap
  have hkc : k ≤ cv := Nat.le_trans hk1 hcap2
  have q1 : ¬ (m : Int) < (k : Int) := by omega
  have q2 : ¬ (fz : Int) < (su : Int) := by omega
  have q3 : ¬ (b : Int) < (fz : Int) := by omega
  have HK4 := Lib.hid hk2
  have HE2 := Lib.hid her2
  have HEND : Hid (∀ w', Below w7.heap.size w7 w' → Calls Tryz.prog 39 #[.pointer (some ⟨B, 0, none⟩)] w' fun e w'' => e = .returned (.int .i64 (b : Nat)) ∧ Below w'.heap.size w' w'') := Lib.hid fun w' hb => by
   have h := disk_end (H8.out.later hb).dk
   have e : d5.sT.f * d5.z + d5.sT.B.length = b := by
    rw [HS5.out]
    show 0 * d5.z + (zi ((flatX Xs).take b)).length = b
    rw [zi_len, List.length_take]
    have := HBL.out
    omega
   rw [e] at h
   exact h
  have HOP : Hid (∀ w', Below w7.heap.size w7 w' → Calls Tryz.prog 13 #[.pointer (some ⟨B, 0, none⟩), .int .i64 (fz : Nat), .int .i64 0] w' fun e w'' => ∃ G col', e = .returned (.pointer (some ⟨G, 0, none⟩)) ∧ Lh W1 w'' col' B G (LS.start d5 (fz : Nat) 0)) := Lib.hid fun w' hb => by
   have h9 := H8.out.later hb
   refine (wal_open h9.dk HT5.out.1 HT5.out.2 (fz : Nat) 0).mono ?_
   intro e w'' hl
   obtain ⟨G, col', h1, _, h2⟩ := Lh.made (d := d5) h9.zero h9.below hl
   exact ⟨G, col', h1, h2⟩
  have HSF := Lib.hid (start_facts (m := b) (f := fz) HS5.out (by rw [zi_len, List.length_take]; have := HBL.out; omega) HK4.out)
  have HFB : Hid (fz ≤ 41300) := Lib.hid (by have := HR.out; have := HBL.out; omega)
  clear hsc hel7 helw hk3 hk4 hk2 hfz hsf her her2 hkl2 hb7 H6 e2 HBS HSB HS5 HT5
  go_wp2_with fail
  refine hes.mono ?_
  rintro e w8 ⟨rfl, hb8⟩
  have hen := HEND.out w8 hb8
  have HB8 := Lib.hid hb8
  clear hes hb8
  go_wp2_with fail
  refine hen.mono ?_
  rintro e w9 ⟨rfl, hb9⟩
  have HB9 := Lib.hid (HB8.out.trans (hb9.mono HB8.out.size))
  have hen := HEND.out w9 HB9.out
  clear hb9
  rcases HE2.out with ⟨hf, rfl⟩ | ⟨rfl, rfl⟩
  · have q4 : ((fz : Int) == (b : Int)) = false := by simp; omega
    clear hf
    go_wp2_with fail
    refine hen.mono ?_
    rintro e w10 ⟨rfl, hb10⟩
    have HB10 := Lib.hid (HB9.out.trans (hb10.mono HB9.out.size))
    have hop := HOP.out w10 HB10.out
    clear hb10
    go_wp2_with fail
    refine hop.mono ?_
    rintro e w11 ⟨G2, col11, rfl, h11⟩
    have hen2 := wal_end h11.lg (by rw [HSF.out.1]; have := HFB.out; omega)
    rw [HSF.out.1] at hen2
    have H11 := Lib.hid h11
    clear hop h11
    go_wp2_with fail
    refine hen2.mono ?_
    rintro e w12 ⟨rfl, hb12⟩
    have H12 := Lib.hid (H11.out.later hb12)
    have hde := disk_end H12.out.lg.dk
    rw [HSF.out.2] at hde
    clear hen2 hb12
    go_wp2_with fail
    refine hde.mono ?_
    rintro e w13 ⟨rfl, hb13⟩
    have HB13 := Lib.hid (H12.out.below.trans (hb13.mono H12.out.below.size))
    have hwk := HWK.out w13 HB13.out
    clear hde hb13
    go_wp2_with fail
    refine hwk.mono ?_
    rintro e w14 ⟨rfl, hb14⟩
    have HB14 := Lib.hid (HB13.out.trans (hb14.mono HB13.out.size))
    clear hwk hb14
    go_wp2_with fail
    go_ret
    exact ⟨rfl, HB0.out.trans (HB14.out.mono HB0.out.size)⟩
  · go_wp2_with fail
    refine hen.mono ?_
    rintro e w10 ⟨rfl, hb10⟩
    have HB10 := Lib.hid (HB9.out.trans (hb10.mono HB9.out.size))
    have hop := HOP.out w10 HB10.out
    clear hb10
    go_wp2_with fail
    refine hop.mono ?_
    rintro e w11 ⟨G2, col11, rfl, h11⟩
    have hen2 := wal_end h11.lg (by rw [HSF.out.1]; have := HFB.out; omega)
    rw [HSF.out.1] at hen2
    have H11 := Lib.hid h11
    clear hop h11
    go_wp2_with fail
    refine hen2.mono ?_
    rintro e w12 ⟨rfl, hb12⟩
    have H12 := Lib.hid (H11.out.later hb12)
    have hde := disk_end H12.out.lg.dk
    rw [HSF.out.2] at hde
    clear hen2 hb12
    go_wp2_with fail
    refine hde.mono ?_
    rintro e w13 ⟨rfl, hb13⟩
    have HB13 := Lib.hid (H12.out.below.trans (hb13.mono H12.out.below.size))
    have hwk := HWK.out w13 HB13.out
    clear hde hb13
    go_wp2_with fail
    refine hwk.mono ?_
    rintro e w14 ⟨rfl, hb14⟩
    have HB14 := Lib.hid (HB13.out.trans (hb14.mono HB13.out.size))
    clear hwk hb14
    go_wp2_with fail
    go_ret
    exact ⟨rfl, HB0.out.trans (HB14.out.mono HB0.out.size)⟩
end Go.Proofs.YtfdgnniicjdjdaaGreatDoor
