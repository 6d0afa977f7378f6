/-
  ConfDecl answers true of any configuration and any key, and writes nothing that was there. No condition.
PLAIN4
-/
import Derived.Test.YthkeefdapnkgeaaRows
import Derived.Test.YthkeefdapnkgeaaConfWorks
import Derived.Test.YthkeefdapnkgeaaConfRefDecl
import Derived.Test.YthkeefdapnkgeaaConfOpen
import Derived.WalkKit
import Derived.ProofKit
import Derived.OpenShut
import Derived.ShutString
import Derived.ChangeOld
import Derived.Below
namespace Go.Proofs.Ythkeefdapnkgeaa.confDecl
open Go.ChangeShapes Go.WideShapes Go.ChangeAt Go.RowKit
open Go.ChangeMaps (open_string shut_string)
set_option linter.unusedVariables false

theorem own : ownKnob Try.prog.godebug = none := by kernel_rfl
theorem laidOut : laidOutB Try.prog = true := by kernel_rfl

set_option maxHeartbeats 1000000 in
set_option maxRecDepth 100000 in
theorem walk (a0 : Array Value) (k1 : K) (w : World) (w0 : ConfIn w a0) (w1 : Kok k1) :
    Calls Try.prog 5 #[.agg a0, .agg #[.int .u8 k1.1, .int .u8 k1.2.1, .int .u8 k1.2.2]] w fun e w' => e = .returned (.bool true) ∧ Below w.heap.size w w' := by
  obtain ⟨hsz, p, n, cap, M, h2, hM, hok⟩ := w0
  have HS := Lib.hid hsz
  have HC := Lib.hid h2
  have HM := Lib.hid hM
  have hb0 : Below w.heap.size w ((w.alloc (.cells a0 30)).alloc (.cells #[.int .u8 k1.1, .int .u8 k1.2.1, .int .u8 k1.2.2] 37)) := ((Below.refl w.heap.size w).alloc (Nat.le_refl _) _).alloc (by simp) _
  have hx0 : ((w.alloc (.cells a0 30)).alloc (.cells #[.int .u8 k1.1, .int .u8 k1.2.1, .int .u8 k1.2.2] 37)).heap[w.heap.size]? = some (.cells a0 30 (0, 0)) := block_later (alloc_block w _) ((Below.refl _ _).alloc (Nat.le_refl _) _)
  have hx1 : ((w.alloc (.cells a0 30)).alloc (.cells #[.int .u8 k1.1, .int .u8 k1.2.1, .int .u8 k1.2.2] 37)).heap[w.heap.size + 1]? = some (.cells #[.int .u8 k1.1, .int .u8 k1.2.1, .int .u8 k1.2.2] 37 (0, 0)) := by
    have h := alloc_block (w.alloc (.cells a0 30)) (.cells #[.int .u8 k1.1, .int .u8 k1.2.1, .int .u8 k1.2.2] 37)
    simpa using h
  have HB0 := Lib.hid hb0
  have HX0 := Lib.hid hx0
  have HX1 := Lib.hid hx1
  clear hsz h2 hM hok w1 hb0 hx0 hx1
  go_enter Try.func5, Try.ntmps5
  go_upto_region 1 with (fail)
  generalize (w.alloc (.cells a0 30)).alloc (.cells #[.int .u8 k1.1, .int .u8 k1.2.1, .int .u8 k1.2.2] 37) = W1 at *
  have HM1 := Lib.hid (HM.out.turn HB0.out.size fun _ a _ hlt => HB0.out.block a.block hlt)
  generalize hX : w.heap.size = X at *
  have HX := Lib.hid hX
  clear hX HM
  have z2 := block_cell (j := 2) HX0.out HC.out
  by_cases hn : 100 < n
  · have hn' : (100 : Int) < n := by omega
    go_wp2_with fail
    refine (works6_any _).mono ?_
    rintro e W4 ⟨rfl, hb4⟩
    have HB4 := Lib.hid (HB0.out.trans (hb4.mono (by have := HB0.out.size; rw [HX.out] at this; exact this)))
    clear hb4
    go_wp2_with fail
    go_ret
    exact ⟨rfl, by rw [HX.out]; exact HB4.out⟩
  · have hn' : ¬ (100 : Int) < n := by omega
    have hd := decl_any a0 p n cap HC.out M k1 W1 HM1.out (by omega)
    have hr := Lib.hid fun W h => refdecl_any a0 p n cap HC.out M k1 W h (by omega)
    have hq := Lib.hid fun W => decl_eql ((fd M k1).getD d0) W
    simp only [dca] at hd hr hq
    generalize (fd M k1).getD d0 = x at *
    generalize (fd M k1).isSome = b at *
    have x0 := block_cell (j := 0) HX1.out (v := .int .u8 k1.1) rfl
    have x1 := block_cell (j := 1) HX1.out (v := .int .u8 k1.2.1) rfl
    have x2 := block_cell (j := 2) HX1.out (v := .int .u8 k1.2.2) rfl
    go_wp2_with ((with_reducible refine wpList_load_ca HX0.out HS.out ?_ ?_); rfl)
    refine hd.mono ?_
    rintro e W2 ⟨rfl, h⟩
    have HX02 := Lib.hid (block_later (block_later HX0.out h) ((Below.refl _ _).alloc (Nat.le_refl _) (.cells #[.int .u8 x.1.1, .int .u8 x.1.2.1, .int .u8 x.1.2.2, .int .i64 x.2.1, .int .i64 x.2.2.1, .int .i64 x.2.2.2] 39)))
    have HX12 := Lib.hid (block_later (block_later HX1.out h) ((Below.refl _ _).alloc (Nat.le_refl _) (.cells #[.int .u8 x.1.1, .int .u8 x.1.2.1, .int .u8 x.1.2.2, .int .i64 x.2.1, .int .i64 x.2.2.1, .int .i64 x.2.2.2] 39)))
    have HY2 := Lib.hid (alloc_block W2 (.cells #[.int .u8 x.1.1, .int .u8 x.1.2.1, .int .u8 x.1.2.2, .int .i64 x.2.1, .int .i64 x.2.2.1, .int .i64 x.2.2.2] 39))
    have hB2 := HB0.out.trans (h.mono (by have := HB0.out.size; rw [HX.out] at this; exact this))
    have HB2 := Lib.hid (hB2.alloc (by have := hB2.size; rw [HX.out] at this; exact this) (.cells #[.int .u8 x.1.1, .int .u8 x.1.2.1, .int .u8 x.1.2.2, .int .i64 x.2.1, .int .i64 x.2.2.1, .int .i64 x.2.2.2] 39))
    have hb3 := (Below.refl W2.heap.size W2).alloc (Nat.le_refl _) (.cells #[.int .u8 x.1.1, .int .u8 x.1.2.1, .int .u8 x.1.2.2, .int .i64 x.2.1, .int .i64 x.2.2.1, .int .i64 x.2.2.2] 39)
    have hm2 := HM1.out.turn h.size fun _ a _ hlt => h.block a.block hlt
    have HM2 := Lib.hid (hm2.turn hb3.size fun _ a _ hlt => hb3.block a.block hlt)
    clear hd h z2 x0 x1 x2 hB2 hb3 hm2 HB0 HX0 HX1 HM1
    go_upto_region 4 with (fail)
    generalize W2.alloc (.cells #[.int .u8 x.1.1, .int .u8 x.1.2.1, .int .u8 x.1.2.2, .int .i64 x.2.1, .int .i64 x.2.2.1, .int .i64 x.2.2.2] 39) = W3 at *
    generalize W2.heap.size = Y at *
    have x0 := block_cell (j := 0) HX12.out (v := .int .u8 k1.1) rfl
    have x1 := block_cell (j := 1) HX12.out (v := .int .u8 k1.2.1) rfl
    have x2 := block_cell (j := 2) HX12.out (v := .int .u8 k1.2.2) rfl
    go_wp2_with ((with_reducible refine wpList_load_ca HX02.out HS.out ?_ ?_); rfl)
    refine (hr.out _ HM2.out).mono ?_
    rintro e W4 ⟨rfl, h⟩
    have HY4 := Lib.hid (block_later HY2.out h)
    have HB4 := Lib.hid (HB2.out.trans (h.mono (by have := HB2.out.size; rw [HX.out] at this; exact this)))
    clear h x0 x1 x2
    have y0 := block_cell (j := 0) HY4.out (v := .int .u8 x.1.1) rfl
    have y1 := block_cell (j := 1) HY4.out (v := .int .u8 x.1.2.1) rfl
    have y2 := block_cell (j := 2) HY4.out (v := .int .u8 x.1.2.2) rfl
    have y3 := block_cell (j := 3) HY4.out (v := .int .i64 x.2.1) rfl
    have y4 := block_cell (j := 4) HY4.out (v := .int .i64 x.2.2.1) rfl
    have y5 := block_cell (j := 5) HY4.out (v := .int .i64 x.2.2.2) rfl
    have hyl := block_lt HY4.out
    have hqq := hq.out
    go_wp2_with fail
    refine (works6_any _).mono ?_
    rintro e W5 ⟨rfl, hb5⟩
    have HB5 := Lib.hid ((HB4.out.alloc (by have := HB4.out.size; rw [HX.out] at this; exact this) _).trans (hb5.mono (by have := HB4.out.size; rw [HX.out] at this; simp; omega)))
    clear hb5
    go_wp2_with fail
    go_ret
    exact ⟨rfl, by rw [HX.out]; exact HB5.out⟩

set_option maxRecDepth 100000 in
theorem lifted (os : Os) (started : os.Started) (H : Type) (enc : TypeId × Value → H) :
    ReturnsInHanded {} Try.checked os 5 .any (Rows.confDeclSpec.pre6 enc Try.prog Try.f5 Rows.confDeclRow.domain false) (Rows.confDeclSpec.post enc Try.prog Try.f5 false true false false) := by
  refine returnsInHanded_of_change (C := Try.checked) own started (by kernel_rfl) Try.func5
    (ChangeSpec.witness6 (enc := enc) (C := Try.checked) false ⟨#[], #[.agg #[.int .i64 0, .int .i64 0, .slice none 0 0, .int .u8 0, .int .u8 0, .int .u8 0, .int .u8 0, .int .u8 0, .int .u8 0, .int .u8 0, .int .u8 0, .int .u8 0, .int .u8 0, .int .u8 0, .int .u8 0, .int .u8 0, .int .u8 0, .int .u8 0, .int .u8 0, .int .i64 0, .int .i64 0, .int .i64 0, .int .i64 0, .int .i64 0, .int .i64 0, .int .i64 0], .agg #[.int .u8 0, .int .u8 0, .int .u8 0]], []⟩ 8 (by kernel_rfl) (by kernel_rfl) (by kernel_rfl) (by kernel_rfl)) ?_
  intro W base args ds gs before hval0 hW hcnd _
  have hval : ∀ (j : Nat) t v, Try.f5.params[j]? = some t → args[j]? = some v → Value.okWide Try.prog W .any base t v := hval0
  have hW' := hW
  obtain ⟨p, q, hA0, hV, rfl, hfz, hnd⟩ := hW
  have hA : DataW.TrodAll enc Try.prog W 0 (fun _ => true) true Try.f5.params.toList args.toList ds p := hA0
  rw [Try.params5] at hA hval
  obtain ⟨v0, vs0, d0, ds0, p0, q0, hargs, rfl, rfl, h0, r0⟩ := trodAll_cons hA
  obtain ⟨v1, vs1, d1, ds1, p1, q1, rfl, rfl, rfl, h1, r1⟩ := trodAll_cons r0
  obtain ⟨rfl, rfl, rfl⟩ := trodAll_nil r1
  obtain rfl : args = #[v0, v1] := by cases args; simp_all
  obtain ⟨rfl, rfl⟩ := trodVars_none hV
  have k0 := h0
  have lt0 : ∀ x ∈ p0, x.block < W.heap.size := by obtain ⟨m, hm⟩ := k0; exact DataW.trod_lt m _ _ _ hm
  obtain ⟨a0, rfl, w0⟩ := open_conf (hval 0 30 v0 rfl rfl) h0
  have k1 := h1
  have lt1 : ∀ x ∈ p1, x.block < W.heap.size := by obtain ⟨m, hm⟩ := k1; exact DataW.trod_lt m _ _ _ hm
  obtain ⟨x1, rfl, w1⟩ := open_key (hval 1 37 v1 rfl rfl) h1
  clear hA0 hval0
  refine (walk a0 x1 W w0 w1).mono fun e W' ⟨he, bel⟩ => ?_
  subst he
  exact ⟨_, rfl, _, _, _, [], _, [], hW', trodAll_mk1 (shut_bool Try.underlying4 _), (trodAll_cons_mk (Below.trod laidOut (by kernel_rfl) (of_decide_eq_true (by kernel_rfl)) k0 bel lt0) (trodAll_cons_mk (Below.trod laidOut (by kernel_rfl) (of_decide_eq_true (by kernel_rfl)) k1 bel lt1) trodAll_mk0)), rfl, bel.frame _, fun h => by cases h⟩

theorem over : Rows.confDeclRow.holds Try.pinned (OpenSpec.ofChange Rows.confDeclSpec) :=
  OpenClaim.holds_of_wide 5 Try.f5 rfl rfl rfl rfl rfl rfl rfl ⟨rfl, rfl, rfl, rfl, rfl⟩ rfl rfl rfl rfl rfl (by kernel_rfl) Try.func5 (by kernel_rfl)
    (of_decide_eq_true (by kernel_rfl)) (by unfold Func.isWrapper; first | (rw [if_pos (by decide +kernel)]; kernel_rfl) | (rw [if_neg (by decide +kernel)]; exact ⟨rfl, rfl⟩))
    (fun os started H enc _ => lifted os started H enc)

theorem proved : Rows.ConfDeclSaid := over
#print axioms proved
end Go.Proofs.Ythkeefdapnkgeaa.confDecl
