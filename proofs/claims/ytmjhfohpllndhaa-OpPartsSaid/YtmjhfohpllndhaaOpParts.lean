/-
  OpParts answers true of any additions and any key, and writes nothing that was there. No condition.
PLAIN4
-/
import Derived.Test.YtmjhfohpllndhaaRows
import Derived.Test.YtmjhfohpllndhaaOpArgs
import Derived.Test.YtmjhfohpllndhaaOpPart
import Derived.WalkKit
import Derived.ProofKit
import Derived.OpenShut
import Derived.ShutString
import Derived.ChangeOld
import Derived.Below
namespace Go.Proofs.Ytmjhfohpllndhaa.opParts
open Go.ChangeShapes Go.WideShapes Go.ChangeAt Go.RowKit
open Go.ChangeMaps (open_string shut_string)
set_option linter.unusedVariables false

theorem own : ownKnob Try.prog.godebug = none := by kernel_rfl
theorem laidOut : laidOutB Try.prog = true := by kernel_rfl

set_option maxHeartbeats 1000000 in
set_option maxRecDepth 100000 in
theorem walk (a0 : Option Addr) (len0 cap0 : Nat) (L0 : List O) (a1 : Option Addr) (len1 cap1 : Nat) (L1 : List O) (k2 : K) (w : World) (w0 : OL w a0 len0 cap0 L0 ∧ ∀ y ∈ L0, Ook y) (w1 : OL w a1 len1 cap1 L1 ∧ ∀ y ∈ L1, Ook y) (w2 : Kok k2) :
    Calls Try.prog 4 #[.slice a0 len0 cap0, .slice a1 len1 cap1, .agg #[.int .u8 k2.1, .int .u8 k2.2.1, .int .u8 k2.2.2]] w fun e w' => e = .returned (.bool true) ∧ Below w.heap.size w w' := by
  obtain ⟨hA, hok⟩ := w0
  obtain ⟨hA1, hok1⟩ := w1
  obtain ⟨k0, hk0, hl0, hb0⟩ : ∃ k : Nat, min (len0 : Int) 60 = (k : Int) ∧ k ≤ len0 ∧ k ≤ 60 := min_of len0 60
  obtain ⟨q0, hq0, hl1, hbq⟩ : ∃ k : Nat, min (len1 : Int) 60 = (k : Int) ∧ k ≤ len1 ∧ k ≤ 60 := min_of len1 60
  have hL := hA.take k0 hl0
  have hM := hA1.take q0 hl1
  have hkT := take_ok hok k0
  have hcap := hL.cap
  have hmax := hL.max
  have hcap1 := hM.cap
  have hmax1 := hM.max
  unfold maxLen at hmax hmax1
  have hlc := hA.cap
  have hlc1 := hA1.cap
  generalize L0.take k0 = L at *
  generalize L1.take q0 = M at *
  obtain ⟨W0, hW0⟩ : ∃ W0, w.alloc (.cells #[.int .u8 k2.1, .int .u8 k2.2.1, .int .u8 k2.2.2] 29) = W0 := ⟨_, rfl⟩
  have hb1 : Below w.heap.size w W0 := by rw [← hW0]; exact (Below.refl _ _).alloc (Nat.le_refl _) _
  have HX0 : Hid (W0.heap[w.heap.size]? = some (.cells #[.int .u8 k2.1, .int .u8 k2.2.1, .int .u8 k2.2.2] 29 (0, 0))) := Lib.hid (by rw [← hW0]; exact alloc_block w _)
  have HB0 := Lib.hid hb1
  have HL := Lib.hid (hL.later hb1)
  have HM := Lib.hid (hM.later hb1)
  have HOK := Lib.hid hkT
  clear hA hok hL hkT hA1 hok1 hM hb1
  go_enter Try.func4, Try.ntmps4
  go_wp2_with fail
  go_quiet (fail)
  generalize hW1 : W0.drewN nq = Wa at *
  have hba : Below W0.heap.size W0 Wa := by rw [← hW1]; exact below_drewN (Below.refl _ _) nq
  have HBa := Lib.hid (HB0.out.trans (hba.mono HB0.out.size))
  have HXa := Lib.hid (block_later HX0.out hba)
  have HLa := Lib.hid (HL.out.later hba)
  have HMa := Lib.hid (HM.out.later hba)
  have HDL := Lib.hid fun k s => Nat.le_trans (dsS_len L k s) (show L.length ≤ 60 by rw [HLa.out.len]; exact hb0)
  have HDI := Lib.hid fun k s => dsS_in HOK.out k s
  clear hW1 hba HB0 HX0 HL HM hW0
  have x0 := block_cell (j := 0) HXa.out rfl
  have x1 := block_cell (j := 1) HXa.out rfl
  have x2 := block_cell (j := 2) HXa.out rfl
  have h1 := low_o a0 k0 cap0 L k2 Wa HLa.out HOK.out (by omega)
  go_wp2_with fail
  refine h1.mono ?_
  rintro e w3 ⟨rfl, hb3⟩
  have HB3 := Lib.hid hb3
  clear h1 hb3 x0 x1 x2
  have x0 := block_cell (j := 0) (block_later HXa.out HB3.out) rfl
  have x1 := block_cell (j := 1) (block_later HXa.out HB3.out) rfl
  have x2 := block_cell (j := 2) (block_later HXa.out HB3.out) rfl
  have h2 := deltas_low a0 k0 cap0 L k2 w3 (HLa.out.later HB3.out) (by omega) (-1) rfl
  go_wp2_with fail
  refine h2.mono ?_
  rintro e w4 ⟨dp, dc, rfl, hds, hb4, _⟩
  have h3 := rsum_of dp (dsS L k2 (-1)).length dc (dsS L k2 (-1)) w4 (IL.row hds (HDI.out k2 (-1))) (Nat.le_trans (HDL.out k2 (-1)) (by omega))
  have HB4 := Lib.hid (HB3.out.trans (hb4.mono HB3.out.size))
  clear h2 hds hb4 x0 x1 x2
  generalize val (total (dsS L k2 (-1))) = v1 at *
  generalize okB (total (dsS L k2 (-1))) = o1 at *
  generalize (dsS L k2 (-1)).length = d1 at *
  go_wp2_with fail
  refine h3.mono ?_
  rintro e w5 ⟨rfl, hb5⟩
  have HB5 := Lib.hid (HB4.out.trans (hb5.mono HB4.out.size))
  clear h3 hb5
  have x0 := block_cell (j := 0) (block_later HXa.out HB5.out) rfl
  have x1 := block_cell (j := 1) (block_later HXa.out HB5.out) rfl
  have x2 := block_cell (j := 2) (block_later HXa.out HB5.out) rfl
  have h4 := high_o a0 k0 cap0 L k2 w5 (HLa.out.later HB5.out) HOK.out (by omega)
  go_wp2_with fail
  refine h4.mono ?_
  rintro e w6 ⟨rfl, hb6⟩
  have HB6 := Lib.hid (HB5.out.trans (hb6.mono HB5.out.size))
  clear h4 hb6 x0 x1 x2
  have x0 := block_cell (j := 0) (block_later HXa.out HB6.out) rfl
  have x1 := block_cell (j := 1) (block_later HXa.out HB6.out) rfl
  have x2 := block_cell (j := 2) (block_later HXa.out HB6.out) rfl
  have h5 := deltas_high a0 k0 cap0 L k2 w6 (HLa.out.later HB6.out) (by omega) 1 rfl
  go_wp2_with fail
  refine h5.mono ?_
  rintro e w7 ⟨ep, ec, rfl, hes, hb7, _⟩
  have h6 := rsum_of ep (dsS L k2 1).length ec (dsS L k2 1) w7 (IL.row hes (HDI.out k2 1)) (Nat.le_trans (HDL.out k2 1) (by omega))
  have HB7 := Lib.hid (HB6.out.trans (hb7.mono HB6.out.size))
  clear h5 hes hb7 x0 x1 x2
  generalize val (total (dsS L k2 1)) = v2 at *
  generalize okB (total (dsS L k2 1)) = o2 at *
  generalize (dsS L k2 1).length = d2 at *
  go_wp2_with fail
  refine h6.mono ?_
  rintro e w8 ⟨rfl, hb8⟩
  have HB8 := Lib.hid (HB7.out.trans (hb8.mono HB7.out.size))
  clear h6 hb8
  have h7 := same_o a0 a1 k0 q0 cap0 cap1 L M w8 (HLa.out.later HB8.out) (HMa.out.later HB8.out) (by omega) (by omega)
  have H8 := Lib.hid fun w' (hb : Below Wa.heap.size Wa w') => rsame_o a0 a1 k0 q0 cap0 cap1 L M w' (HLa.out.later hb) (HMa.out.later hb) (by omega) (by omega)
  have H9 := Lib.hid fun w' (hb : Below Wa.heap.size Wa w') => same_o a0 a0 k0 k0 cap0 cap0 L L w' (HLa.out.later hb) (HLa.out.later hb) (by omega) (by omega)
  rw [decide_eq_true (rfl : L = L)] at H9
  generalize decide (L = M) = dd at *
  go_wp2_with fail
  refine h7.mono ?_
  rintro e w9 ⟨rfl, hb9⟩
  have HB9 := Lib.hid (HB8.out.trans (hb9.mono HB8.out.size))
  have h8 := H8.out _ HB9.out
  clear h7 hb9 H8
  go_wp2_with fail
  refine h8.mono ?_
  rintro e wA ⟨rfl, hbA⟩
  have HBA := Lib.hid (HB9.out.trans (hbA.mono HB9.out.size))
  have h9 := H9.out _ HBA.out
  clear h8 hbA H9
  go_wp2_with fail
  refine h9.mono ?_
  rintro e wB ⟨rfl, hbB⟩
  have HBB := Lib.hid (HBA.out.trans (hbB.mono HBA.out.size))
  clear h9 hbB
  go_wp2_with fail
  refine (op_works _).mono ?_
  rintro e wC ⟨rfl, hbC⟩
  have HBC := Lib.hid (HBB.out.trans (hbC.mono HBB.out.size))
  clear hbC
  go_wp2_with fail
  go_ret
  exact ⟨rfl, HBa.out.trans (HBC.out.mono HBa.out.size)⟩

set_option maxRecDepth 100000 in
theorem lifted (os : Os) (started : os.Started) (H : Type) (enc : TypeId × Value → H) :
    ReturnsInHanded {} Try.checked os 4 .any (Rows.opPartsSpec.pre6 enc Try.prog Try.f4 Rows.opPartsRow.domain false) (Rows.opPartsSpec.post enc Try.prog Try.f4 false true false false) := by
  refine returnsInHanded_of_change (C := Try.checked) own started (by kernel_rfl) Try.func4
    (ChangeSpec.witness6 (enc := enc) (C := Try.checked) false ⟨#[], #[.slice none 0 0, .slice none 0 0, .agg #[.int .u8 0, .int .u8 0, .int .u8 0]], []⟩ 8 (by kernel_rfl) (by kernel_rfl) (by kernel_rfl) (by kernel_rfl)) ?_
  intro W base args ds gs before hval0 hW hcnd _
  have hval : ∀ (j : Nat) t v, Try.f4.params[j]? = some t → args[j]? = some v → Value.okWide Try.prog W .any base t v := hval0
  have hW' := hW
  obtain ⟨p, q, hA0, hV, rfl, hfz, hnd⟩ := hW
  have hA : DataW.TrodAll enc Try.prog W 0 (fun _ => true) true Try.f4.params.toList args.toList ds p := hA0
  rw [Try.params4] at hA hval
  obtain ⟨v0, vs0, d0, ds0, p0, q0, hargs, rfl, rfl, h0, r0⟩ := trodAll_cons hA
  obtain ⟨v1, vs1, d1, ds1, p1, q1, rfl, rfl, rfl, h1, r1⟩ := trodAll_cons r0
  obtain ⟨v2, vs2, d2, ds2, p2, q2, rfl, rfl, rfl, h2, r2⟩ := trodAll_cons r1
  obtain ⟨rfl, rfl, rfl⟩ := trodAll_nil r2
  obtain rfl : args = #[v0, v1, v2] := by cases args; simp_all
  obtain ⟨rfl, rfl⟩ := trodVars_none hV
  obtain ⟨a0, len0, cap0, rfl⟩ := okWide_slice Try.underlying22 (hval 0 22 v0 rfl rfl)
  have k0 := h0
  have lt0 : ∀ x ∈ p0, x.block < W.heap.size := by obtain ⟨m, hm⟩ := k0; exact DataW.trod_lt m _ _ _ hm
  obtain ⟨L0, w0⟩ : ∃ L, OL W a0 len0 cap0 L ∧ ∀ y ∈ L, Ook y := by
    obtain ⟨fuel, hf⟩ := h0
    exact open_ops hf
  obtain ⟨a1, len1, cap1, rfl⟩ := okWide_slice Try.underlying22 (hval 1 22 v1 rfl rfl)
  have k1 := h1
  have lt1 : ∀ x ∈ p1, x.block < W.heap.size := by obtain ⟨m, hm⟩ := k1; exact DataW.trod_lt m _ _ _ hm
  obtain ⟨L1, w1⟩ : ∃ L, OL W a1 len1 cap1 L ∧ ∀ y ∈ L, Ook y := by
    obtain ⟨fuel, hf⟩ := h1
    exact open_ops hf
  have k2 := h2
  have lt2 : ∀ x ∈ p2, x.block < W.heap.size := by obtain ⟨m, hm⟩ := k2; exact DataW.trod_lt m _ _ _ hm
  obtain ⟨x2, rfl, w2⟩ := open_key (hval 2 29 v2 rfl rfl) h2
  clear hA0 hval0
  refine (walk a0 len0 cap0 L0 a1 len1 cap1 L1 x2 W w0 w1 w2).mono fun e W' ⟨he, bel⟩ => ?_
  subst he
  exact ⟨_, rfl, _, _, _, [], _, [], hW', trodAll_mk1 (shut_bool Try.underlying4 _), (trodAll_cons_mk (Below.trod laidOut (by kernel_rfl) (of_decide_eq_true (by kernel_rfl)) k0 bel lt0) (trodAll_cons_mk (Below.trod laidOut (by kernel_rfl) (of_decide_eq_true (by kernel_rfl)) k1 bel lt1) (trodAll_cons_mk (Below.trod laidOut (by kernel_rfl) (of_decide_eq_true (by kernel_rfl)) k2 bel lt2) trodAll_mk0))), rfl, bel.frame _, fun h => by cases h⟩

theorem over : Rows.opPartsRow.holds Try.pinned (OpenSpec.ofChange Rows.opPartsSpec) :=
  OpenClaim.holds_of_wide 4 Try.f4 rfl rfl rfl rfl rfl rfl rfl ⟨rfl, rfl, rfl, rfl, rfl⟩ rfl rfl rfl rfl rfl (by kernel_rfl) Try.func4 (by kernel_rfl)
    (of_decide_eq_true (by kernel_rfl)) (by unfold Func.isWrapper; first | (rw [if_pos (by decide +kernel)]; kernel_rfl) | (rw [if_neg (by decide +kernel)]; exact ⟨rfl, rfl⟩))
    (fun os started H enc _ => lifted os started H enc)

theorem proved : Rows.OpPartsSaid := over
#print axioms proved
end Go.Proofs.Ytmjhfohpllndhaa.opParts
