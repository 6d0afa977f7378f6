/- The document's disk in memory; two results by value. -/
import Derived.Test.YtdkpjaobfohdfaaDiskWrites
import Derived.Test.YtdkpjaobfohdfaaVolDo
import Derived.Test.YtdkpjaobfohdfaaTapeRefDrop
import Derived.Laws.ResultCell
namespace Go.Proofs.Ytdkpjaobfohdfaa
open Go.RowKit Go.ChangeShapes Go.WideShapes
set_option linter.unusedVariables false
set_option maxRecDepth 10000
set_option linter.unusedSimpArgs false

theorem results_two {fn : Func} {P1 P2 : Tmp} (h : fn.results = #[.cell P1 30, .cell P2 33]) (tmps : Array Value) (W : World) (R0 R1 : Nat) (cs0 cs1 : Array Value) (hp0 : tmps.getD P1 undef = .pointer (some ⟨R0, 0, none⟩)) (hp1 : tmps.getD P2 undef = .pointer (some ⟨R1, 0, none⟩))
    (h0 : W.heap[R0]? = some (.cells cs0 30 (0, 0))) (h1 : W.heap[R1]? = some (.cells cs1 33 (0, 0))) (hs0 : cs0.size = 2) (hs1 : cs1.size = 3) : (results fn tmps).run Try.prog W = .ok (.tuple #[.agg cs0, .agg cs1]) W := by
  have e0 := run_loadVar_row (P := Try.prog) W R0 30 30 cs0 (0, 0) _ h0 Try.underlying30 rfl (by rw [hs0]; kernel_rfl)
  have e1 := run_loadVar_row (P := Try.prog) W R1 33 33 cs1 (0, 0) _ h1 Try.underlying33 rfl (by rw [hs1]; kernel_rfl)
  have hp0' : tmps[P1]?.getD undef = .pointer (some ⟨R0, 0, none⟩) := by simpa using hp0
  have hp1' : tmps[P2]?.getD undef = .pointer (some ⟨R1, 0, none⟩) := by simpa using hp1
  simp only [results, h]
  simp [Sem.run_bind, Result.andThen, hp0', hp1', asAddr, e0, e1]
/-- Five new blocks. -/
theorem five_boxes (w : World) (c0 c1 c2 c3 c4 : Array Value) (T0 T1 T2 T3 T4 : TypeId) : ∃ W, W = ((((w.alloc (.cells c0 T0)).alloc (.cells c1 T1)).alloc (.cells c2 T2)).alloc (.cells c3 T3)).alloc (.cells c4 T4) ∧ W.heap[w.heap.size]? = some (.cells c0 T0 (0, 0)) ∧ W.heap[w.heap.size + 1]? = some (.cells c1 T1 (0, 0)) ∧ W.heap[w.heap.size + 1 + 1]? = some (.cells c2 T2 (0, 0)) ∧
    W.heap[w.heap.size + 1 + 1 + 1]? = some (.cells c3 T3 (0, 0)) ∧ W.heap[w.heap.size + 1 + 1 + 1 + 1]? = some (.cells c4 T4 (0, 0)) ∧ Below w.heap.size w W ∧ W.heap.size = w.heap.size + 5 := by
  refine ⟨_, rfl, ?_⟩
  have s0 : (w.alloc (.cells c0 T0)).heap.size = w.heap.size + 1 := by simp
  have b2 := two_boxes (w.alloc (.cells c0 T0)) c1 c2 T1 T2
  rw [s0] at b2
  have s2 : (((w.alloc (.cells c0 T0)).alloc (.cells c1 T1)).alloc (.cells c2 T2)).heap.size = w.heap.size + 1 + 1 + 1 := by simp
  have b4 := two_boxes (((w.alloc (.cells c0 T0)).alloc (.cells c1 T1)).alloc (.cells c2 T2)) c3 c4 T3 T4
  rw [s2] at b4
  have hB : Below (w.heap.size + 1) (w.alloc (.cells c0 T0)) (((w.alloc (.cells c0 T0)).alloc (.cells c1 T1)).alloc (.cells c2 T2)) := b2.2.2
  have hB4 : Below (w.heap.size + 1 + 1 + 1) (((w.alloc (.cells c0 T0)).alloc (.cells c1 T1)).alloc (.cells c2 T2)) (((((w.alloc (.cells c0 T0)).alloc (.cells c1 T1)).alloc (.cells c2 T2)).alloc (.cells c3 T3)).alloc (.cells c4 T4)) := b4.2.2
  have h0 := alloc_block w (.cells c0 T0)
  refine ⟨?_, ?_, ?_, b4.1, b4.2.1, ?_, by simp⟩
  · rw [hB4.block _ (by omega), hB.block _ (by omega)]; exact h0
  · rw [hB4.block _ (by omega)]; exact b2.1
  · rw [hB4.block _ (by omega)]; exact b2.2.1
  · exact (((Below.refl _ _).alloc (Nat.le_refl _) _).trans (hB.mono (by omega))).trans (hB4.mono (by omega))
/-- A write of the document's, in memory. -/
structure Wd where
  k : Nat
  i : Int
  q : Option Addr
  m : Nat
  cq : Nat
  b : List Int
  n : Int
def Wd.x (y : Wd) : Dw := if y.k = 0 then .put y.i y.b else if y.k = 1 then .grow y.b else if y.k = 2 then .drop y.n else .cut y.n
def ewd (y : Wd) : List Value := [.int .i64 (y.k : Nat), .int .i64 y.i, .slice y.q y.m y.cq, .int .i64 y.n]
theorem ewd_len (y : Wd) : (ewd y).length = 4 := rfl
theorem ewd_one (y : Wd) : ∀ u ∈ ewd y, u.oneCell' = true := by
  intro u hu
  simp only [ewd, List.mem_cons, List.not_mem_nil, or_false] at hu
  rcases hu with rfl | rfl | rfl | rfl <;> rfl
def wd0' : Wd := ⟨0, 0, none, 0, 0, [], 0⟩
structure Wd.ok (w : World) (Q : Nat → Prop) (y : Wd) : Prop where
  bl : BL w y.q y.m y.cq y.b
  q0 : 0 < y.m → ∀ a, y.q = some a → Q a.block
  k3 : y.k ≤ 3
theorem Wd.ok.keep {w w' : World} {Q S : Nat → Prop} {y : Wd} (h : y.ok w Q) (hc : Chg S w w') (hs : ∀ k, Q k → ¬ S k) : y.ok w' Q := ⟨BL.keep h.bl hc fun h0 a ha => hs _ (h.q0 h0 a ha), h.q0, h.k3⟩
theorem Wd.ok.later {w w' : World} {Q : Nat → Prop} {y : Wd} (h : y.ok w Q) (hb : Below w.heap.size w w') : y.ok w' Q := h.keep (Chg.of_below (S := fun _ => False) hb) fun _ _ h => h
theorem bl_q {w : World} {p : Option Addr} {n c : Nat} {L : List Int} {Q R : Nat → Prop} (h : BL w p n c L) (hq : 0 < n → ∀ a, p = some a → Q a.block) (hs : ∀ k, Q k → k < w.heap.size → R k) : 0 < n → ∀ a, p = some a → R a.block := fun h0 a ha => by
  obtain ⟨b, off, hp, hlt, _⟩ := BL.at h h0
  have h1 := hq h0 a ha
  rw [hp] at ha
  cases ha
  exact hs b h1 hlt
theorem Wd.ok.mono {w : World} {Q R : Nat → Prop} {y : Wd} (h : y.ok w Q) (hs : ∀ k, Q k → k < w.heap.size → R k) : y.ok w R := ⟨h.bl, bl_q h.bl h.q0 hs, h.k3⟩
/-- The document's list of what is pending. -/
structure Td (w : World) (Q : Nat → Prop) (lp : Option Addr) (ln lc : Nat) (L : List Dw) : Prop where
  row : ∃ AL : List Wd, SlG ewd 4 wd0' w lp ln lc AL ∧ AL.map Wd.x = L ∧ ∀ y ∈ AL, y.ok w Q
  q : 0 < ln → ∀ a, lp = some a → Q a.block
theorem Td.len {w : World} {Q : Nat → Prop} {lp : Option Addr} {ln lc : Nat} {L : List Dw} (h : Td w Q lp ln lc L) : L.length = ln := by
  obtain ⟨⟨AL, h1, h2, _⟩, _⟩ := h
  rw [← h2, List.length_map, h1.len]
theorem Td.keep {w w' : World} {Q S : Nat → Prop} {lp : Option Addr} {ln lc : Nat} {L : List Dw} (h : Td w Q lp ln lc L) (hc : Chg S w w') (hs : ∀ k, Q k → ¬ S k) : Td w' Q lp ln lc L := by
  obtain ⟨⟨AL, h1, h2, h3⟩, h4⟩ := h
  exact ⟨⟨AL, h1.turn hc.size fun h0 a ha hl => hc.block _ hl (hs _ (h4 h0 a ha)), h2, fun y hy => (h3 y hy).keep hc hs⟩, h4⟩
theorem Td.mono {w : World} {Q R : Nat → Prop} {lp : Option Addr} {ln lc : Nat} {L : List Dw} (h : Td w Q lp ln lc L) (hs : ∀ k, Q k → k < w.heap.size → R k) : Td w R lp ln lc L := by
  obtain ⟨⟨AL, h1, h2, h3⟩, h4⟩ := h
  refine ⟨⟨AL, h1, h2, fun y hy => (h3 y hy).mono hs⟩, fun h0 a ha => ?_⟩
  obtain ⟨b, off, hp, hlt, _⟩ := h1.cell h0
  have h5 := h4 h0 a ha
  rw [hp] at ha
  cases ha
  exact hs b h5 hlt
theorem Td.nil (w : World) (Q : Nat → Prop) : Td w Q none 0 0 [] := ⟨⟨[], SlG.empty w, rfl, fun y hy => by cases hy⟩, fun h => by omega⟩
/-- The document's disk: its parts, all of them in Q. -/
structure Rd (w : World) (Q : Nat → Prop) (p : Option Addr) (c : Nat) (tp : Option Addr) (tc : Nat) (lp : Option Addr) (lc : Nat) (d : DS) : Prop where
  rv : RV w Q p c d.s d.V
  rt : Rt w tp tc d.t.B
  tq : 0 < d.t.B.length → ∀ a, tp = some a → Q a.block
  td : Td w Q lp d.L.length lc d.L
  n4 : d.V.length ≤ 1024
  s4 : d.s ≤ 4096
  z : 64 ≤ d.z ∧ d.z ≤ 4096
theorem Rd.keep {w w' : World} {Q S : Nat → Prop} {p tp lp : Option Addr} {c tc lc : Nat} {d : DS} (h : Rd w Q p c tp tc lp lc d) (hc : Chg S w w') (hs : ∀ k, Q k → ¬ S k) : Rd w' Q p c tp tc lp lc d :=
  ⟨h.rv.keep hc hs, h.rt.keep hc fun h0 a ha => hs _ (h.tq h0 a ha), h.tq, h.td.keep hc hs, h.n4, h.s4, h.z⟩
theorem Rd.later {w w' : World} {Q : Nat → Prop} {p tp lp : Option Addr} {c tc lc : Nat} {d : DS} (h : Rd w Q p c tp tc lp lc d) (hb : Below w.heap.size w w') : Rd w' Q p c tp tc lp lc d := h.keep (Chg.of_below (S := fun _ => False) hb) fun _ _ h => h
theorem Rd.mono {w : World} {Q R : Nat → Prop} {p tp lp : Option Addr} {c tc lc : Nat} {d : DS} (h : Rd w Q p c tp tc lp lc d) (hs : ∀ k, Q k → k < w.heap.size → R k) : Rd w R p c tp tc lp lc d :=
  ⟨h.rv.mono hs, h.rt, bl_q h.rt.bl h.tq hs, h.td.mono hs, h.n4, h.s4, h.z⟩
/-- Its cells. -/
abbrev rdc (p : Option Addr) (n c s : Nat) (tp : Option Addr) (tn tc F z : Nat) (lp : Option Addr) (ln lc M : Nat) : Array Value := #[.slice p n c, .int .i64 (s : Nat), .slice tp tn tc, .int .i64 (F : Nat), .int .i64 (z : Nat), .slice lp ln lc, .int .i64 (M : Nat)]
end Go.Proofs.Ytdkpjaobfohdfaa
