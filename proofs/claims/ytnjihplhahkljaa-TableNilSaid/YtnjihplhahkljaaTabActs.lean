/- A table behind a pointer: New, Get, Put, Del, Len, Copy. -/
import Derived.Test.YtnjihplhahkljaaTabMath
import Derived.Test.YtnjihplhahkljaaKeyQuiet
import Derived.Test.YtnjihplhahkljaaShelf
import Derived.Maps.OwnSet
import Derived.Deep.QuietTactic
import Derived.StillTailTactics
import Derived.RangeFuncBox
namespace Go.Proofs.Ytnjihplhahkljaa
open Go.RowKit Go.ChangeShapes Go.WideShapes Go.Maps Go.Shelf
set_option linter.unusedVariables false

/-- Only blocks of S may have turned; new ones beside. -/
structure Turn (S : Nat → Prop) (W W' : World) : Prop where
  os : W'.os = W.os
  tape : W'.tape = W.tape
  output : W'.output = W.output
  size : W.heap.size ≤ W'.heap.size
  block : ∀ k, k < W.heap.size → ¬ S k → W'.heap[k]? = W.heap[k]?
theorem Turn.refl (S : Nat → Prop) (W : World) : Turn S W W := ⟨rfl, rfl, rfl, Nat.le_refl _, fun _ _ _ => rfl⟩
theorem Turn.trans {S S' : Nat → Prop} {A B C : World} (h : Turn S A B) (g : Turn S' B C) (hs : ∀ k, k < A.heap.size → S' k → S k) : Turn S A C :=
  ⟨g.os.trans h.os, g.tape.trans h.tape, g.output.trans h.output, Nat.le_trans h.size g.size, fun k hk hn => (g.block k (Nat.lt_of_lt_of_le hk h.size) (fun e => hn (hs k hk e))).trans (h.block k hk hn)⟩
theorem Turn.of_below {S : Nat → Prop} {W W' : World} (h : Below W.heap.size W W') : Turn S W W' := ⟨h.os, h.tape, h.output, h.size, fun k hk _ => h.block k hk⟩
theorem Turn.of_grown {S : Nat → Prop} {W W' : World} {row : Option Nat} (h : W.grownBy W' row) (hr : ∀ k, row = some k → S k) : Turn S W W' := ⟨h.os, h.tape, h.output, h.size, fun k hk hn => h.block k hk (fun e => hn (hr k e.symm))⟩
theorem Turn.mono {S S' : Nat → Prop} {W W' : World} (h : Turn S W W') (hs : ∀ k, S k → S' k) : Turn S' W W' := ⟨h.os, h.tape, h.output, h.size, fun k hk hn => h.block k hk (fun e => hn (hs k e))⟩
theorem Turn.below {S : Nat → Prop} {n : Nat} {W W' : World} (h : Turn S W W') (hn : n ≤ W.heap.size) (hs : ∀ k, S k → n ≤ k) : Below n W W' := ⟨h.os, h.tape, h.output, h.size, fun k hk => h.block k (by omega) (fun e => by have := hs k e; omega)⟩
theorem Turn.drew {S : Nat → Prop} {W W' : World} (h : Turn S W W') : Turn S W W'.drew := ⟨h.os, h.tape, h.output, h.size, h.block⟩

theorem zeroInt (w : World) : (zeroValue 2).run Try.prog w = .ok (.int .i64 0) w := by kernel_rfl
theorem ownsMap_tight {P : Program} {k : TypeId} {R : Value → Option (DataW Unit × List MemPlace)} {w : World} {b n : Nat} {D : DataW Unit} (h : w.ownsMap P k R b n D) : w.ownsMap P k R b (Maps.size D) D := by
  obtain ⟨es, clock, hb, F, hs, rfl⟩ := h
  exact ⟨es, clock, hb, F, by simp [Maps.size, length_sorted], rfl⟩
/-- The blocks of a table. -/
def foot (B : Nat) (mb : Option Nat) (k : Nat) : Prop := k = B ∨ mb = some k
/-- What the pointer to a table leads to: its block, its map; just these rows. -/
def Tab (W : World) (B : Nat) (mb : Option Nat) (M : List Rw) : Prop :=
  W.heap[B]? = some (.cells #[.map mb] 53 (0, 0)) ∧ (mb = none → M = []) ∧
  ∀ b, mb = some b → b ≠ B ∧ ∃ D, W.ownsMap Try.prog 24 (plainElem Try.prog 2) b M.length D ∧ Tm D M
theorem ownsMap_turn {P : Program} {k : TypeId} {R : Value → Option (DataW Unit × List MemPlace)} {w W : World} {b nn : Nat} {D : DataW Unit} {S : Nat → Prop} (hown : w.ownsMap P k R b nn D) (hW : Turn S w W) (hn : ¬ S b) : W.ownsMap P k R b nn D := by
  have hbl := hown.lt
  obtain ⟨es, clock, hb, Ft, hs, hD⟩ := hown
  exact ⟨es, clock, (hW.block b hbl hn).trans hb, Ft, hs, hD⟩
theorem Tab.kept {W W' : World} {B : Nat} {mb : Option Nat} {M : List Rw} {S : Nat → Prop} (h : Tab W B mb M) (ht : Turn S W W') (hs : ∀ k, foot B mb k → ¬ S k) : Tab W' B mb M := by
  refine ⟨(ht.block B (block_lt h.1) (hs B (.inl rfl))).trans h.1, h.2.1, fun b hb => ?_⟩
  obtain ⟨hne, D, hown, hT⟩ := h.2.2 b hb
  exact ⟨hne, D, ownsMap_turn hown ht (hs b (.inr hb)), hT⟩
theorem Tab.later {W W' : World} {B : Nat} {mb : Option Nat} {M : List Rw} (h : Tab W B mb M) (hb : Below W.heap.size W W') : Tab W' B mb M := h.kept (Turn.of_below (S := fun _ => False) hb) (fun _ _ h => h)
theorem Tab.foot_lt {W : World} {B : Nat} {mb : Option Nat} {M : List Rw} (h : Tab W B mb M) : ∀ k, foot B mb k → k < W.heap.size := by
  rintro k (rfl | hk)
  · exact block_lt h.1
  · obtain ⟨_, D, hown, _⟩ := h.2.2 k hk
    exact hown.lt
theorem Tab.up {W : World} {B : Nat} {mb : Option Nat} {M : List Rw} (h : Tab W B mb M) : Up (keysM M) ∧ ∀ r ∈ M, Kok r.1 := by
  cases mb with
  | none => rw [h.2.1 rfl]; exact ⟨List.Pairwise.nil, fun r hr => by cases hr⟩
  | some b =>
    obtain ⟨_, D, _, hT⟩ := h.2.2 b rfl
    exact ⟨hT.up, hT.ok⟩
theorem look_tab {w : World} {b n : Nat} {D : DataW Unit} {M : List Rw} (hown : w.ownsMap Try.prog 24 (plainElem Try.prog 2) b n D) (hT : Tm D M) {k : K} (hk : Kok k) :
    (Instr.lookup 51 (.map (some b)) (.agg #[.int .u8 k.1, .int .u8 k.2.1, .int .u8 k.2.2]) true).run Try.prog w = .ok (.tuple #[.int .i64 ((getM M k).getD 0), .bool (getM M k).isSome]) w := by
  have hkey := key_reads k hk
  unfold keyVal at hkey
  obtain ⟨v, ps, hrun, hv⟩ := hown.look_ok keyLaw Try.underlying51 (zeroInt w) (plainElem_int Try.underlying2 (by decide)) hkey
  obtain ⟨c, rfl, hc, _⟩ := plainElem_int_inv Try.underlying2 hv
  rw [hT.at_ k hk, Prod.mk.injEq] at hc
  rw [hT.has hk] at hrun
  rw [hrun]
  cases hg : getM M k with
  | none =>
    rw [hg] at hc
    have : (0 : Int) = c := by simpa using hc.1
    subst this
    rfl
  | some x =>
    rw [hg] at hc
    have : x = c := by simpa using hc.1
    subst this
    rfl
theorem new_any (W : World) : Calls Try.prog 19 #[] W fun e w' => e = .returned (.pointer (some ⟨W.heap.size, 0, none⟩)) ∧ w' = W.alloc (.cells #[.map none] 53) := by
  go_enter Try.func19, Try.ntmps19
  go_wp2_with fail
  go_ret
  exact ⟨rfl, rfl⟩
theorem new_tab (W : World) : Tab (W.alloc (.cells #[.map none] 53)) W.heap.size none [] := ⟨alloc_block W _, fun _ => rfl, fun b hb => by cases hb⟩
theorem get_null (k : K) (W : World) : Calls Try.prog 8 #[.pointer none, .agg #[.int .u8 k.1, .int .u8 k.2.1, .int .u8 k.2.2]] W fun e w' => e = .returned (.tuple #[.int .i64 0, .bool false]) ∧ Below W.heap.size W w' := by
  go_enter Try.func8, Try.ntmps8
  go_wp2_with fail
  go_ret2
  exact ⟨rfl, (Below.refl _ _).alloc (Nat.le_refl _) _⟩
set_option maxHeartbeats 1000000 in
theorem get_any (k : K) (hk : Kok k) (W : World) (B : Nat) (mb : Option Nat) (M : List Rw) (h : Tab W B mb M) :
    Calls Try.prog 8 #[.pointer (some ⟨B, 0, none⟩), .agg #[.int .u8 k.1, .int .u8 k.2.1, .int .u8 k.2.2]] W fun e w' => e = .returned (.tuple #[.int .i64 ((getM M k).getD 0), .bool (getM M k).isSome]) ∧ Below W.heap.size W w' := by
  have hlook : ∀ w : World, w.heap = (W.alloc (.cells #[.int .u8 k.1, .int .u8 k.2.1, .int .u8 k.2.2] 24)).heap → (Instr.lookup 51 (.map mb) (.agg #[.int .u8 k.1, .int .u8 k.2.1, .int .u8 k.2.2]) true).run Try.prog w = .ok (.tuple #[.int .i64 ((getM M k).getD 0), .bool (getM M k).isSome]) w := by
    intro w hw
    cases mb with
    | none =>
      have hkey := key_reads k hk
      unfold keyVal at hkey
      have hl := Maps.look_nil (w := w) (P := Try.prog) true keyLaw Try.underlying51 (zeroInt w) hkey
      rw [h.2.1 rfl]
      exact hl
    | some b =>
      obtain ⟨hne, D, hown, hT⟩ := h.2.2 b rfl
      have h1 := hown.alloc (.cells #[.int .u8 k.1, .int .u8 k.2.1, .int .u8 k.2.2] 24)
      refine look_tab (n := M.length) (D := D) ?_ hT hk
      obtain ⟨es, clock, hb, Ft, hs, hD⟩ := h1
      exact ⟨es, clock, by rw [hw]; exact hb, Ft, hs, hD⟩
  have c0 : (W.alloc (.cells #[.int .u8 k.1, .int .u8 k.2.1, .int .u8 k.2.2] 24)).cell? ⟨B, 0, none⟩ = some (.map mb) := by
    have := block_lt h.1
    exact block_cell (j := 0) ((Below.heap_alloc _ _ B this).trans h.1) rfl
  have HB : Hid (Below W.heap.size W (W.alloc (.cells #[.int .u8 k.1, .int .u8 k.2.1, .int .u8 k.2.2] 24))) := Lib.hid ((Below.refl _ _).alloc (Nat.le_refl _) _)
  have x0 : (W.alloc (.cells #[.int .u8 k.1, .int .u8 k.2.1, .int .u8 k.2.2] 24)).cell? ⟨W.heap.size, 0, none⟩ = some (.int .u8 k.1) := by simp
  have x1 : (W.alloc (.cells #[.int .u8 k.1, .int .u8 k.2.1, .int .u8 k.2.2] 24)).cell? ⟨W.heap.size, 1, none⟩ = some (.int .u8 k.2.1) := by simp
  have x2 : (W.alloc (.cells #[.int .u8 k.1, .int .u8 k.2.1, .int .u8 k.2.2] 24)).cell? ⟨W.heap.size, 2, none⟩ = some (.int .u8 k.2.2) := by simp
  clear h
  go_enter Try.func8, Try.ntmps8
  go_wp2_with fail
  generalize W.alloc (.cells #[.int .u8 k.1, .int .u8 k.2.1, .int .u8 k.2.2] 24) = W1 at *
  have hl2 := fun q => hlook (W1.drewN q) rfl
  clear hlook
  generalize hg : getM M k = g at *
  have HG := Lib.hid hg
  clear hg
  go_quiet (fail)
  go_wp2_with fail
  go_ret2
  exact ⟨by rw [HG.out]; rfl, below_drewN HB.out _⟩
theorem len_null (W : World) : Calls Try.prog 14 #[.pointer none] W fun e w' => e = .returned (.int .i64 0) ∧ w' = W := by
  go_enter Try.func14, Try.ntmps14
  go_wp2_with fail
  go_ret
  exact ⟨rfl, rfl⟩
theorem len_any (W : World) (B : Nat) (mb : Option Nat) (M : List Rw) (h : Tab W B mb M) :
    Calls Try.prog 14 #[.pointer (some ⟨B, 0, none⟩)] W fun e w' => e = .returned (.int .i64 (M.length : Nat)) ∧ w' = W := by
  have c0 : W.cell? ⟨B, 0, none⟩ = some (.map mb) := block_cell (j := 0) h.1 rfl
  have hlen : ∀ ty, (Builtin.len_ #[51] ty #[.map mb]).run Try.prog W = .ok (.int .i64 (M.length : Nat)) W := by
    intro ty
    cases mb with
    | none => rw [h.2.1 rfl]; exact Maps.len_nil Try.underlying51 ty
    | some b =>
      obtain ⟨hne, D, hown, hT⟩ := h.2.2 b rfl
      rw [← hT.size]
      exact hown.len Try.underlying51 ty
  clear h
  generalize M.length = m at *
  go_enter Try.func14, Try.ntmps14
  go_wp2_with fail
  go_ret
  exact ⟨rfl, rfl⟩
theorem Tab.stored {w : World} {B b n : Nat} {D : DataW Unit} {M : List Rw} (hT : Tm D M) {k : K} (hk : Kok k) (v : Int) (hown : w.ownsMap Try.prog 24 (plainElem Try.prog 2) b n (D.put (keyLit k) (.lit (.int .i64 v))))
    (hB : w.heap[B]? = some (.cells #[.map (some b)] 53 (0, 0))) (hne : b ≠ B) : Tab w B (some b) (putM M k v) := by
  refine ⟨hB, (fun e => by cases e), fun b' hb => ?_⟩
  cases hb
  have hT' := hT.put hk v
  have h := ownsMap_tight hown
  rw [hT'.size] at h
  exact ⟨hne, _, h, hT'⟩
theorem Tab.struck {w : World} {B b n : Nat} {D : DataW Unit} {M : List Rw} (hT : Tm D M) {k : K} (hk : Kok k) (hown : w.ownsMap Try.prog 24 (plainElem Try.prog 2) b n (D.del (keyLit k)))
    (hB : w.heap[B]? = some (.cells #[.map (some b)] 53 (0, 0))) (hne : b ≠ B) : Tab w B (some b) (delM M k) := by
  refine ⟨hB, (fun e => by cases e), fun b' hb => ?_⟩
  cases hb
  have hT' := hT.del hk
  have h := ownsMap_tight hown
  rw [hT'.size] at h
  exact ⟨hne, _, h, hT'⟩
/-- What Put leaves. -/
def Puts (W : World) (B : Nat) (mb : Option Nat) (M : List Rw) (w' : World) : Prop := ∃ mb', Tab w' B mb' M ∧ (mb' = mb ∨ ∃ b, mb' = some b ∧ W.heap.size ≤ b) ∧ Turn (foot B mb) W w'
theorem put_null (k : K) (v : Int) (W : World) : Calls Try.prog 17 #[.pointer none, .agg #[.int .u8 k.1, .int .u8 k.2.1, .int .u8 k.2.2], .int .i64 v] W fun e w' => e = .returned (.tuple #[]) ∧ Below W.heap.size W w' := by
  go_enter Try.func17, Try.ntmps17
  go_wp2_with fail
  refine bodyPost_ret (results_none rfl _ _ _) rfl ?_
  exact ⟨rfl, (Below.refl _ _).alloc (Nat.le_refl _) _⟩
set_option maxHeartbeats 2000000 in
theorem put_any (k : K) (hk : Kok k) (v : Int) (hv : (Lit.int .i64 v).wf = true) (W : World) (B : Nat) (mb : Option Nat) (M : List Rw) (h : Tab W B mb M) (hn : M.length ≤ 1000) :
    Calls Try.prog 17 #[.pointer (some ⟨B, 0, none⟩), .agg #[.int .u8 k.1, .int .u8 k.2.1, .int .u8 k.2.2], .int .i64 v] W fun e w' => e = .returned (.tuple #[]) ∧ Puts W B mb (putM M k v) w' := by
  have hkey := key_reads k hk
  unfold keyVal at hkey
  have hmm := @run_makeMap Try.prog
  have HV : Hid ((Lit.int .i64 v).wf = true) := Lib.hid hv
  clear hv
  have hBlt := block_lt h.1
  have hB1 : (W.alloc (.cells #[.int .u8 k.1, .int .u8 k.2.1, .int .u8 k.2.2] 24)).heap[B]? = some (.cells #[.map mb] 53 (0, 0)) := (Below.heap_alloc _ _ B hBlt).trans h.1
  have HT1 : Hid (Turn (foot B mb) W (W.alloc (.cells #[.int .u8 k.1, .int .u8 k.2.1, .int .u8 k.2.2] 24))) := Lib.hid (Turn.of_below ((Below.refl _ _).alloc (Nat.le_refl _) _))
  have x0 : (W.alloc (.cells #[.int .u8 k.1, .int .u8 k.2.1, .int .u8 k.2.2] 24)).cell? ⟨W.heap.size, 0, none⟩ = some (.int .u8 k.1) := by simp
  have x1 : (W.alloc (.cells #[.int .u8 k.1, .int .u8 k.2.1, .int .u8 k.2.2] 24)).cell? ⟨W.heap.size, 1, none⟩ = some (.int .u8 k.2.1) := by simp
  have x2 : (W.alloc (.cells #[.int .u8 k.1, .int .u8 k.2.1, .int .u8 k.2.2] 24)).cell? ⟨W.heap.size, 2, none⟩ = some (.int .u8 k.2.2) := by simp
  have hs1 : (W.alloc (.cells #[.int .u8 k.1, .int .u8 k.2.1, .int .u8 k.2.2] 24)).heap.size = W.heap.size + 1 := by simp
  cases mb with
  | some b =>
    obtain ⟨hne, D, hown, hT⟩ := h.2.2 b rfl
    have HO := Lib.hid (hown.alloc (.cells #[.int .u8 k.1, .int .u8 k.2.1, .int .u8 k.2.2] 24))
    have HTm := Lib.hid hT
    have HB1 := Lib.hid hB1
    have c0 := block_cell (j := 0) hB1 rfl
    have hq := fun w => run_eql_map_nil_sl (P := Try.prog) w 51 _ _ (some b) Try.underlying51
    have HK := Lib.hid hk
    clear h hown hT hB1 hk
    go_enter Try.func17, Try.ntmps17
    go_wp2_with fail
    generalize W.alloc (.cells #[.int .u8 k.1, .int .u8 k.2.1, .int .u8 k.2.2] 24) = W1 at *
    go_still_tail 6, (by kernel_rfl)
    repeat still_step
    change wpList _ _ _ _ _ W1.drew
    refine wpList_mapUpdate_own _ rfl _ _ _ 51 rfl 24 2 keyLaw Try.underlying51 (plainElem Try.prog 2) b M.length _ rfl HO.out.drew (by unfold maxLen; omega) _ _ _ rfl rfl hkey _ [] (plainElem_int Try.underlying2 HV.out) ?_
    intro w3 hown3 hgrow3
    go_wp2_with fail
    go_end0
    refine ⟨rfl, some b, Tab.stored HTm.out HK.out v hown3 ((hgrow3.block B (block_lt HB1.out) (fun e => hne (by cases e; rfl))).trans HB1.out) hne, .inl rfl, ?_⟩
    exact HT1.out.drew.trans (Turn.of_grown (S := fun k => k = b) hgrow3 (fun k e => by cases e; rfl)) (fun k _ e => .inr (by rw [e]))
  | none =>
    obtain rfl : M = [] := h.2.1 rfl
    have f0 : (W.alloc (.cells #[.int .u8 k.1, .int .u8 k.2.1, .int .u8 k.2.2] 24)).frozen? ⟨B, 0, none⟩ = false := block_free 0 hB1
    have c0 := block_cell (j := 0) hB1 rfl
    obtain ⟨W3, hW3⟩ : ∃ W3, ((W.alloc (.cells #[.int .u8 k.1, .int .u8 k.2.1, .int .u8 k.2.2] 24)).alloc (.map #[] 0)).setCell ⟨B, 0, none⟩ (.map (some (W.heap.size + 1))) = W3 := ⟨_, rfl⟩
    have hne : W.heap.size + 1 ≠ B := by omega
    have hB3 : W3.heap[B]? = some (.cells #[.map (some (W.heap.size + 1))] 53 (0, 0)) := by
      rw [← hW3]
      exact block_put 0 _ ((Below.heap_alloc _ _ B (by omega)).trans hB1)
    have HO : Hid (W3.ownsMap Try.prog 24 (plainElem Try.prog 2) (W.heap.size + 1) 0 (.map [] : DataW Unit)) := Lib.hid (by
      rw [← hW3]
      have := World.ownsMap_made (H := Unit) (W.alloc (.cells #[.int .u8 k.1, .int .u8 k.2.1, .int .u8 k.2.2] 24)) Try.prog 24 (plainElem Try.prog 2)
      rw [hs1] at this
      exact this.setCell (a := ⟨B, 0, none⟩) hne _)
    have HT3 : Hid (Turn (foot B none) W W3) := Lib.hid (by
      rw [← hW3]
      refine HT1.out.trans (S' := fun k => k = B) ?_ (fun k _ e => .inl e)
      refine (Turn.of_below (S := fun k => k = B) ((Below.refl _ _).alloc (Nat.le_refl _) (.map #[] 0))).trans (S' := fun k => k = B) (Turn.of_grown (row := some B) ?_ (fun k e => by cases e; rfl)) (fun k _ e => e)
      exact grownBy_setCell' _ B _)
    have hX3 : W3.heap[W.heap.size]? = some (.cells #[.int .u8 k.1, .int .u8 k.2.1, .int .u8 k.2.2] 24 (0, 0)) := by
      rw [← hW3]
      exact ((grownBy_setCell' _ B _).block W.heap.size (by simp; omega) (fun e => by cases e; omega)).trans ((Below.heap_alloc _ _ _ (by omega)).trans (alloc_block W _))
    have y0 := block_cell (j := 0) hX3 rfl
    have y1 := block_cell (j := 1) hX3 rfl
    have y2 := block_cell (j := 2) hX3 rfl
    have d0 := block_cell (j := 0) hB3 rfl
    have HB3 := Lib.hid hB3
    have hq := fun w => run_eql_map_nil_sl (P := Try.prog) w 51 _ _ none Try.underlying51
    have HK := Lib.hid hk
    clear h hB1 hk hB3
    go_enter Try.func17, Try.ntmps17
    go_wp2_with fail
    try rw [hW3]
    try simp only [hW3]
    go_still_tail 6, (by kernel_rfl)
    repeat still_step
    change wpList _ _ _ _ _ W3.drew
    refine wpList_mapUpdate_own _ rfl _ _ _ 51 rfl 24 2 keyLaw Try.underlying51 (plainElem Try.prog 2) (W.heap.size + 1) 0 _ rfl HO.out.drew (by unfold maxLen; omega) _ _ _ rfl rfl hkey _ [] (plainElem_int Try.underlying2 HV.out) ?_
    intro w3 hown3 hgrow3
    go_wp2_with fail
    go_end0
    refine ⟨rfl, some (W.heap.size + 1), Tab.stored Tm.empty HK.out v hown3 ((hgrow3.block B (block_lt HB3.out) (fun e => hne (by cases e; rfl))).trans HB3.out) hne, .inr ⟨_, rfl, by omega⟩, ?_⟩
    exact HT3.out.drew.trans (Turn.of_grown (S := fun k => k = W.heap.size + 1) hgrow3 (fun k e => by cases e; rfl)) (fun k hk e => by omega)
/-- What Del leaves. -/
theorem del_null (k : K) (W : World) : Calls Try.prog 16 #[.pointer none, .agg #[.int .u8 k.1, .int .u8 k.2.1, .int .u8 k.2.2]] W fun e w' => e = .returned (.bool false) ∧ Below W.heap.size W w' := by
  have hg := fun W => get_null k W
  go_enter Try.func16, Try.ntmps16
  go_wp2_with fail
  refine (hg _).mono ?_
  rintro e w' ⟨rfl, hb⟩
  have HB := Lib.hid (((Below.refl W.heap.size W).alloc (Nat.le_refl _) (.cells #[.int .u8 k.1, .int .u8 k.2.1, .int .u8 k.2.2] 24)).trans (hb.mono (by simp)))
  clear hb
  go_wp2_with fail
  go_ret
  exact ⟨rfl, HB.out⟩
theorem del_none (k : K) (M : List Rw) (h : getM M k = none) : delM M k = M := by
  unfold delM
  rw [List.filter_eq_self]
  intro r hr
  simp only [decide_eq_true_eq]
  intro e
  have := (get_isSome k M).2 (List.mem_map.2 ⟨r, hr, e⟩)
  rw [h] at this
  cases this
set_option maxHeartbeats 2000000 in
theorem del_any (k : K) (hk : Kok k) (W : World) (B : Nat) (mb : Option Nat) (M : List Rw) (h : Tab W B mb M) :
    Calls Try.prog 16 #[.pointer (some ⟨B, 0, none⟩), .agg #[.int .u8 k.1, .int .u8 k.2.1, .int .u8 k.2.2]] W fun e w' => e = .returned (.bool (getM M k).isSome) ∧ Tab w' B mb (delM M k) ∧ Turn (foot B mb) W w' := by
  have hkey := key_reads k hk
  unfold keyVal at hkey
  have hBlt := block_lt h.1
  have hb1 : Below W.heap.size W (W.alloc (.cells #[.int .u8 k.1, .int .u8 k.2.1, .int .u8 k.2.2] 24)) := (Below.refl _ _).alloc (Nat.le_refl _) _
  have hT1 : Tab (W.alloc (.cells #[.int .u8 k.1, .int .u8 k.2.1, .int .u8 k.2.2] 24)) B mb M := h.later hb1
  have HT1 : Hid (Turn (foot B mb) W (W.alloc (.cells #[.int .u8 k.1, .int .u8 k.2.1, .int .u8 k.2.2] 24))) := Lib.hid (Turn.of_below hb1)
  have hX1 : (W.alloc (.cells #[.int .u8 k.1, .int .u8 k.2.1, .int .u8 k.2.2] 24)).heap[W.heap.size]? = some (.cells #[.int .u8 k.1, .int .u8 k.2.1, .int .u8 k.2.2] 24 (0, 0)) := alloc_block W _
  have hget := get_any k hk _ B mb M hT1
  have HX1 := Lib.hid hX1
  have HTAB := Lib.hid hT1
  have HK := Lib.hid hk
  clear h hb1 hT1 hX1 hk
  go_enter Try.func16, Try.ntmps16
  go_wp2_with fail
  generalize W.alloc (.cells #[.int .u8 k.1, .int .u8 k.2.1, .int .u8 k.2.2] 24) = W1 at *
  refine hget.mono ?_
  rintro e W2 ⟨rfl, hb⟩
  have HT2 := Lib.hid (HT1.out.trans (Turn.of_below (S := fun _ => False) hb) (fun _ _ e => e.elim))
  have HTAB2 := Lib.hid (HTAB.out.later hb)
  have HX2 := Lib.hid (block_later HX1.out hb)
  clear hb hget HT1 HTAB HX1
  cases hg : getM M k with
  | none =>
    have HM := Lib.hid (del_none k M hg)
    have HG := Lib.hid hg
    clear hg
    go_wp2_with fail
    go_ret
    exact ⟨by rw [HG.out]; rfl, by rw [HM.out]; exact HTAB2.out, HT2.out⟩
  | some v =>
    cases mb with
    | none =>
      rw [HTAB2.out.2.1 rfl] at hg
      cases hg
    | some b =>
      obtain ⟨hne, D, hown, hT⟩ := HTAB2.out.2.2 b rfl
      have HO := Lib.hid hown
      have HTm := Lib.hid hT
      have HB := Lib.hid HTAB2.out.1
      have c0 := block_cell (j := 0) HB.out rfl
      have x0 := block_cell (j := 0) HX2.out rfl
      have x1 := block_cell (j := 1) HX2.out rfl
      have x2 := block_cell (j := 2) HX2.out rfl
      have HG := Lib.hid hg
      clear hg hown hT
      go_wp2_with fail
      go_still_tail 5, (by kernel_rfl)
      repeat still_step
      change wpList _ _ _ _ _ W2.drew
      refine wpList_delete_own _ rfl _ _ 51 24 rfl 2 keyLaw Try.underlying51 (plainElem Try.prog 2) b M.length _ rfl HO.out.drew _ _ rfl hkey ?_
      intro w3 hown3 hturn3
      have hgrow3 := hturn3.grown
      go_wp2_with fail
      go_ret
      refine ⟨by rw [HG.out]; rfl, Tab.struck HTm.out HK.out hown3 ((hgrow3.block B (block_lt HB.out) (fun e => hne (by cases e; rfl))).trans HB.out) hne, ?_⟩
      exact HT2.out.drew.trans (Turn.of_grown (S := fun k => k = b) hgrow3 (fun k e => by cases e; rfl)) (fun k _ e => .inr (by rw [e]))
theorem clone_nil (W : World) : Calls Try.prog 26 #[.map none] W fun e w' => e = .returned (.map none) ∧ w' = W := AnyW.maps_Clone_nil Try.cloneM W
theorem clone_some {W : World} {b n : Nat} {D : DataW Unit} (h : W.ownsMap Try.prog 24 (plainElem Try.prog 2) b n D) : Calls Try.prog 26 #[.map (some b)] W fun e w' => e = .returned (.map (some W.heap.size)) ∧ w'.ownsMap Try.prog 24 (plainElem Try.prog 2) W.heap.size n D ∧ w'.ownsMap Try.prog 24 (plainElem Try.prog 2) b n D ∧ Below W.heap.size W w' :=
  AnyW.maps_Clone_owns Try.cloneM _ _ b n D W h
/-- What Copy leaves. -/
def Copies (W : World) (M : List Rw) (e : Ending) (w' : World) : Prop := ∃ B' mb', e = .returned (.pointer (some ⟨B', 0, none⟩)) ∧ Tab w' B' mb' M ∧ (∀ k, foot B' mb' k → W.heap.size ≤ k) ∧ Below W.heap.size W w'
theorem copy_null (W : World) : Calls Try.prog 15 #[.pointer none] W (Copies W []) := by
  go_enter Try.func15, Try.ntmps15
  go_wp2_with fail
  refine (new_any _).mono ?_
  rintro e w' ⟨rfl, rfl⟩
  go_wp2_with fail
  go_ret
  exact ⟨_, none, rfl, new_tab W, (fun k hk => by rcases hk with rfl | hk; exact Nat.le_refl _; cases hk), (Below.refl _ _).alloc (Nat.le_refl _) _⟩
set_option maxHeartbeats 2000000 in
theorem copy_any (W : World) (B : Nat) (mb : Option Nat) (M : List Rw) (h : Tab W B mb M) : Calls Try.prog 15 #[.pointer (some ⟨B, 0, none⟩)] W (Copies W M) := by
  have hBlt := block_lt h.1
  have hb1 : Below W.heap.size W (W.alloc (.cells #[.map none] 53)) := (Below.refl _ _).alloc (Nat.le_refl _) _
  have hT1 := h.later hb1
  have hN1 : (W.alloc (.cells #[.map none] 53)).heap[W.heap.size]? = some (.cells #[.map none] 53 (0, 0)) := alloc_block W _
  have hs1 : (W.alloc (.cells #[.map none] 53)).heap.size = W.heap.size + 1 := by simp
  have HB1 := Lib.hid hb1
  have HT1 := Lib.hid hT1
  have HN1 := Lib.hid hN1
  have c0 := block_cell (j := 0) hT1.1 rfl
  clear h hb1 hT1 hN1
  go_enter Try.func15, Try.ntmps15
  go_wp2_with fail
  refine (new_any _).mono ?_
  rintro e w' ⟨rfl, rfl⟩
  generalize W.alloc (.cells #[.map none] 53) = W1 at *
  cases mb with
  | none =>
    have HM := Lib.hid (HT1.out.2.1 rfl)
    have n0 := block_cell (j := 0) HN1.out rfl
    have f0 := block_free 0 HN1.out
    go_wp2_with fail
    refine (clone_nil _).mono ?_
    rintro e w' ⟨rfl, rfl⟩
    go_wp2_with fail
    go_ret
    refine ⟨_, none, rfl, ⟨block_put 0 _ HN1.out, fun _ => HM.out, (fun b hb => by cases hb)⟩, (fun k hk => by rcases hk with rfl | hk; exact Nat.le_refl _; cases hk), ?_⟩
    exact HB1.out.grown (grownBy_setCell' _ _ _) (by omega) (fun k e => by cases e; exact Nat.le_refl _)
  | some b =>
    obtain ⟨hne, D, hown, hT⟩ := HT1.out.2.2 b rfl
    have hc := clone_some hown
    have HTm := Lib.hid hT
    clear hown hT
    go_wp2_with fail
    refine hc.mono ?_
    rintro e W2 ⟨rfl, hown2, _, hb2⟩
    have HN2 := Lib.hid (block_later HN1.out hb2)
    have HB2 := Lib.hid (HB1.out.trans (hb2.mono (by omega)))
    have n0 := block_cell (j := 0) HN2.out rfl
    have f0 := block_free 0 HN2.out
    rw [hs1] at hown2
    have HO2 := Lib.hid hown2
    have hs2 := hb2.size
    clear hc hown2 hb2
    go_wp2_with fail
    go_ret
    refine ⟨_, some (W.heap.size + 1), rfl, ⟨block_put 0 _ HN2.out, (fun e => by cases e), fun b' hb => ?_⟩, (fun k hk => by rcases hk with rfl | hk; exact Nat.le_refl _; cases hk; omega), ?_⟩
    · cases hb
      exact ⟨by omega, D, HO2.out.setCell (a := ⟨W.heap.size, 0, none⟩) (by show W.heap.size + 1 ≠ W.heap.size; omega) _, HTm.out⟩
    · exact HB2.out.grown (grownBy_setCell' _ _ _) (by omega) (fun k e => by cases e; exact Nat.le_refl _)
end Go.Proofs.Ytnjihplhahkljaa
