/- Whether the numbers at both ends differ. -/
import Derived.Test.YtppmokkbepihhaaDoorMasterKit
import Derived.ChangeKeysEq
import Derived.StillTailTactics
namespace Go.Proofs.YtppmokkbepihhaaDoor
open Go.RowKit Go.ChangeShapes Go.WideShapes
set_option linter.unusedVariables false
set_option linter.unusedSimpArgs false
set_option maxRecDepth 10000

theorem u8Cells : Tryd.prog.cellsOf 5 = 1 := by kernel_rfl
theorem info_is {P : Program} {t : TypeId} {n : Nat} (h : (P.info? t).map (fun i => i.size) = some n) : ∃ i, P.info? t = some i := by
  cases hq : P.info? t with
  | none => simp [hq] at h
  | some i => exact ⟨i, rfl⟩
theorem eqItems_u8 (w : World) (d : Nat) (X Y : List Nat) : ∀ is : List Nat, (∀ i ∈ is, i < X.length ∧ i < Y.length) →
    (Op.eqItems (d + 1) 5 1 (vL X).toArray (vL Y).toArray is).run Tryd.prog w = .ok (is.all fun i => X.getD i 0 == Y.getD i 0) w
  | [], _ => by simp [Op.eqItems]
  | i :: is, h => by
    have hi := h i (by simp)
    have p1 : (Go.part 5 (vL X).toArray (i * 1)).run Tryd.prog w = .ok (.int .u8 ((X.getD i 0 : Nat) : Int)) w := by
      rw [Nat.mul_one]
      simp [Go.part, Sem.run_bind, Tryd.isAgg5, vL_at X i hi.1, Result.andThen]
    have p2 : (Go.part 5 (vL Y).toArray (i * 1)).run Tryd.prog w = .ok (.int .u8 ((Y.getD i 0 : Nat) : Int)) w := by
      rw [Nat.mul_one]
      simp [Go.part, Sem.run_bind, Tryd.isAgg5, vL_at Y i hi.2, Result.andThen]
    have ih := eqItems_u8 w d X Y is fun j hj => h j (by simp [hj])
    have e : (((X.getD i 0 : Nat) : Int) == ((Y.getD i 0 : Nat) : Int)) = (X.getD i 0 == Y.getD i 0) := by rw [Bool.eq_iff_iff]; simp only [beq_iff_eq]; omega
    simp only [Op.eqItems, Sem.run_bind, p1, p2, Result.andThen_ok, run_equalIn_int w d _ _ _ _ _ Tryd.underlying5, e, List.all_cons]
    cases h2 : (X.getD i 0 == Y.getD i 0)
    · simp
    · simpa using ih
theorem bytes8_neq (w : World) (X Y : List Nat) (hx : X.length = 8) (hy : Y.length = 8) : (binOp .neq 67 (.agg (vL X).toArray) (.agg (vL Y).toArray)).run Tryd.prog w = .ok (.bool (!decide (X = Y))) w := by
  obtain ⟨i, hi⟩ := info_is (P := Tryd.prog) (t := 5) (n := 1) (by kernel_rfl)
  rw [run_neq_struct, run_equalIn_array w 9999 _ _ Tryd.underlying67 hi, u8Cells, eqItems_u8 w 9998 X Y _ fun j hj => by have := List.mem_range.1 hj; omega]
  simp only [Result.andThen_ok]
  congr 3
  rw [Bool.eq_iff_iff, decide_eq_true_iff, List.all_eq_true]
  constructor
  · intro h
    exact list_ext_getD (by omega) fun i hi => by simpa using h i (List.mem_range.2 (by omega))
  · rintro rfl i _
    simp
theorem mthree (w : World) (c0 c1 c2 : Array Value) (t0 t1 t2 : TypeId) (W : World) (hW : W = ((w.alloc (.cells c0 t0)).alloc (.cells c1 t1)).alloc (.cells c2 t2)) :
    Below w.heap.size w W ∧ W.heap[w.heap.size]? = some (.cells c0 t0 (0, 0)) ∧ W.heap[w.heap.size + 1]? = some (.cells c1 t1 (0, 0)) ∧ W.heap[w.heap.size + 1 + 1]? = some (.cells c2 t2 (0, 0)) := by
  have hs : (w.alloc (.cells c0 t0)).heap.size = w.heap.size + 1 := by simp
  have hs2 : ((w.alloc (.cells c0 t0)).alloc (.cells c1 t1)).heap.size = w.heap.size + 1 + 1 := by simp
  have b1 : Below w.heap.size w (w.alloc (.cells c0 t0)) := (Below.refl _ _).alloc (Nat.le_refl _) _
  have a0 := alloc_block w (.cells c0 t0)
  have a1 := alloc_block (w.alloc (.cells c0 t0)) (.cells c1 t1)
  have a2 := alloc_block ((w.alloc (.cells c0 t0)).alloc (.cells c1 t1)) (.cells c2 t2)
  rw [hs] at a1
  rw [hs2] at a2
  have b2 : Below (w.alloc (.cells c0 t0)).heap.size (w.alloc (.cells c0 t0)) ((w.alloc (.cells c0 t0)).alloc (.cells c1 t1)) := (Below.refl _ _).alloc (Nat.le_refl _) _
  have b3 : Below ((w.alloc (.cells c0 t0)).alloc (.cells c1 t1)).heap.size ((w.alloc (.cells c0 t0)).alloc (.cells c1 t1)) W := by rw [hW]; exact (Below.refl _ _).alloc (Nat.le_refl _) _
  rw [← hW] at a2
  have a0' := block_later (block_later a0 b2) b3
  have a1' := block_later a1 b3
  exact ⟨(b1.trans (b2.mono (by omega))).trans (b3.mono (by omega)), a0', a1', a2⟩
theorem vB_zi (L : List Nat) : vB (zi L) = vL L := by simp [vB, zi, vL]
theorem splice_zi (K L : List Nat) (k : Nat) : splice (zi K) k (zi L) = zi (splice K k L) := by simp [splice, zi]
theorem splice_whole {a : Type} (K L : List a) (h : K.length = L.length) : splice K 0 L = L := by simp [splice, h]
theorem zeros8 : (#[.int .u8 0, .int .u8 0, .int .u8 0, .int .u8 0, .int .u8 0, .int .u8 0, .int .u8 0, .int .u8 0] : Array Value) = (vB (zi (List.replicate 8 0))).toArray := rfl
/-- A whole array of eight bytes out of its block. -/
theorem wpList_load_8 {ops : Array Oper} {rest : List Oper} {a : Act} {w : World} {Q : Exit → Act → World → Prop} {dst : Option Tmp} {x : Operand} {ty : TypeId} {pos : String} {after : Array Edge} {B : Nat} {cs : Array Value} (hB : w.heap[B]? = some (.cells cs 67 (0, 0))) (hs : cs.size = 8) (hx : a.eval x = .pointer (some ⟨B, 0, none⟩))
    (h : wpList Tryd.prog ops Q rest (a.put dst (.agg cs)) w) : wpList Tryd.prog ops Q (Oper.mk dst (.load 67 x) ty pos after none :: rest) a w :=
  wpList_load_row rfl 67 x rfl B hx 67 cs (0, 0) _ hB Tryd.underlying67 rfl (by rw [hs]; kernel_rfl) h
set_option maxHeartbeats 1000000 in
theorem torn_any (L : List Nat) (hl : L.length = 45) (hlt : ∀ x ∈ L, x < 256) (w : World) :
    Calls Tryd.prog 24 #[.agg (vL L).toArray] w fun e w' => e = .returned (.bool (!decide (un (L.take 8) = dH L))) ∧ Below w.heap.size w w' := by
  obtain ⟨W, hW⟩ : ∃ W, W = ((w.alloc (.cells (vL L).toArray 53)).alloc (.cells #[.int .u8 0, .int .u8 0, .int .u8 0, .int .u8 0, .int .u8 0, .int .u8 0, .int .u8 0, .int .u8 0] 67)).alloc (.cells #[.int .u8 0, .int .u8 0, .int .u8 0, .int .u8 0, .int .u8 0, .int .u8 0, .int .u8 0, .int .u8 0] 67) := ⟨_, rfl⟩
  obtain ⟨hb, h0, h1, h2⟩ := mthree w _ _ _ _ _ _ W hW
  have hW0 := Lib.hid hW
  clear hW
  obtain ⟨X, hX⟩ : ∃ X, w.heap.size = X := ⟨_, rfl⟩
  rw [hX] at h0 h1 h2
  rw [zeros8] at h1 h2
  rw [← vB_zi] at h0
  have H0 := Lib.hid h0
  have H1 := Lib.hid h1
  have H2 := Lib.hid h2
  have HB := Lib.hid hb
  have HX := Lib.hid hX
  clear hb h0 h1 h2 hX
  go_enter Tryd.func24, Tryd.ntmps24
  go_wp2_with fail
  rw [← hW0.out]
  rw [HX.out]
  go_still_tail 2, (by kernel_rfl)
  change wpList _ _ _ _ _ W.drew
  have hsl : BL W.drew (some ⟨X, 0, none⟩) 45 45 (zi L) := by
    have := BL.of_row (n := 45) (off := 0) (c := 45) (w := W.drew) H0.out (by rw [zi_len, hl]; omega) (Nat.le_refl _) (by unfold maxLen; omega)
    rwa [List.drop_zero, List.take_of_length_le (by rw [zi_len, hl]; omega)] at this
  refine wpList_copy_at rfl _ _ rfl _ _ _ _ _ _ 8 rfl rfl rfl (X + 1) 0 (zi (List.replicate 8 0)) 67 H1.out _ hsl (fun _ => rfl) (by rw [zi_len, List.length_replicate]; omega) ?_
  intro w3 h3 hc3
  have h31 := h3.out
  rw [← zi_take, splice_zi, splice_whole _ _ (by rw [List.length_replicate, List.length_take, hl]; omega), vB_zi] at h31
  have H30 := Lib.hid ((hc3.block X (block_lt H0.out) (by omega)).trans H0.out)
  have H32 := Lib.hid ((hc3.block (X + 1 + 1) (block_lt H2.out) (by omega)).trans H2.out)
  have H31 := Lib.hid h31
  have HB3 := Lib.hid (hc3.below (HB.out.drew) (by have := HB.out.size; rw [HX.out] at this; rw [HX.out]; exact this) fun k hk => by rw [HX.out, hk]; omega)
  clear h3 h31 hc3 hsl H0 H1 H2 HB
  go_wp2_with fail
  go_still_tail 2, (by kernel_rfl)
  change wpList _ _ _ _ _ w3.drew
  have hsl : BL w3.drew (some ⟨X, 37, none⟩) 8 8 (zi ((L.drop 37).take 8)) := by
    have := BL.of_row (n := 8) (off := 37) (c := 8) (w := w3.drew) H30.out (by rw [zi_len, hl]; omega) (Nat.le_refl _) (by unfold maxLen; omega)
    rwa [← zi_drop, ← zi_take] at this
  refine wpList_copy_at rfl _ _ rfl _ _ _ _ _ _ 8 rfl rfl rfl (X + 1 + 1) 0 (zi (List.replicate 8 0)) 67 H32.out _ hsl (fun _ => rfl) (by rw [zi_len, List.length_replicate]; omega) ?_
  intro w4 h4 hc4
  have h42 := h4.out
  rw [← zi_take, splice_zi, splice_whole _ _ (by simp [hl]), vB_zi, List.take_take, Nat.min_self] at h42
  have H41 := Lib.hid ((hc4.block (X + 1) (block_lt H31.out) (by omega)).trans H31.out)
  have H42 := Lib.hid h42
  have HB4 := Lib.hid (hc4.below (HB3.out.drew) HB3.out.size fun k hk => by rw [HX.out, hk]; omega)
  have HE : Hid (decide (L.take 8 = (L.drop 37).take 8) = decide (un (L.take 8) = dH L)) := Lib.hid (by
    rw [Bool.eq_iff_iff, decide_eq_true_iff, decide_eq_true_iff]
    constructor
    · intro h
      unfold dH
      rw [← h]
    · intro h
      refine list_ext_getD (by simp [hl]) fun i hi => ?_
      rw [List.length_take, hl] at hi
      have := ends_gen hlt hl h i (by omega)
      simp only [List.getD, List.getElem?_take, if_pos (show i < 8 by omega), List.getElem?_drop]
      exact this)
  have hne := fun w => bytes8_neq w (L.take 8) ((L.drop 37).take 8) (by simp [hl]) (by simp [hl])
  rw [HE.out] at hne
  clear h4 h42 hc4 hsl H30 H31 H32 HB3 HE
  have s1 : (vL (L.take 8)).toArray.size = 8 := by simp [vL, hl]
  have s2 : (vL ((L.drop 37).take 8)).toArray.size = 8 := by simp [vL, hl]
  generalize (vL (L.take 8)).toArray = c1 at *
  generalize (vL ((L.drop 37).take 8)).toArray = c2 at *
  generalize hbb : (!decide (un (L.take 8) = dH L)) = bb at *
  have HBB := Lib.hid hbb
  clear hbb
  have S1 := Lib.hid s1
  have S2 := Lib.hid s2
  clear s1 s2
  go_wp2_with (first | ((with_reducible refine wpList_load_8 H41.out S1.out ?_ ?_); rfl) | ((with_reducible refine wpList_load_8 H42.out S2.out ?_ ?_); rfl))
  go_ret
  exact ⟨by rw [HBB.out]; rfl, HB4.out⟩
end Go.Proofs.YtppmokkbepihhaaDoor
