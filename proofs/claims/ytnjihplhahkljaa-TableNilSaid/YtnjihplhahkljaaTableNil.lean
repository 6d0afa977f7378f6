/-
  TableNil answers true of any key, and writes nothing that was there. No condition.
PLAIN4
-/
import Derived.Test.YtnjihplhahkljaaRows
import Derived.Test.YtnjihplhahkljaaTabOpen
import Derived.Test.YtnjihplhahkljaaTabNone
import Derived.WalkKit
import Derived.ProofKit
import Derived.OpenShut
import Derived.ShutString
import Derived.ChangeOld
import Derived.Below
namespace Go.Proofs.Ytnjihplhahkljaa.tableNil
open Go.ChangeShapes Go.WideShapes Go.ChangeAt Go.RowKit
open Go.ChangeMaps (open_string shut_string)
set_option linter.unusedVariables false

theorem own : ownKnob Try.prog.godebug = none := by kernel_rfl
theorem laidOut : laidOutB Try.prog = true := by kernel_rfl
attribute [local go_sem] Oper.semAt_some

set_option maxHeartbeats 1000000 in
set_option maxRecDepth 100000 in
theorem walk (k0 : K) (w : World) (w0 : Kok k0) :
    Calls Try.prog 6 #[.agg #[.int .u8 k0.1, .int .u8 k0.2.1, .int .u8 k0.2.2]] w fun e w' => e = .returned (.bool true) ∧ Below w.heap.size w w' := by
  have hb0 : Below w.heap.size w (((w.alloc (.cells #[.int .u8 k0.1, .int .u8 k0.2.1, .int .u8 k0.2.2] 24)).alloc (.cells #[.bool false] 4)).alloc (.cells #[.pointer none] 25)) := (((Below.refl _ _).alloc (Nat.le_refl _) _).alloc (by simp) _).alloc (by simp; omega) _
  have h1 : (((w.alloc (.cells #[.int .u8 k0.1, .int .u8 k0.2.1, .int .u8 k0.2.2] 24)).alloc (.cells #[.bool false] 4)).alloc (.cells #[.pointer none] 25)).heap[w.heap.size]? = some (.cells #[.int .u8 k0.1, .int .u8 k0.2.1, .int .u8 k0.2.2] 24 (0, 0)) := (Below.heap_alloc _ _ _ (by simp; omega)).trans ((Below.heap_alloc _ _ _ (by simp)).trans (alloc_block w _))
  have h2 : (((w.alloc (.cells #[.int .u8 k0.1, .int .u8 k0.2.1, .int .u8 k0.2.2] 24)).alloc (.cells #[.bool false] 4)).alloc (.cells #[.pointer none] 25)).heap[w.heap.size + 1]? = some (.cells #[.bool false] 4 (0, 0)) := (Below.heap_alloc _ _ _ (by simp)).trans (by
    have := alloc_block (w.alloc (.cells #[.int .u8 k0.1, .int .u8 k0.2.1, .int .u8 k0.2.2] 24)) (.cells #[.bool false] 4)
    simpa using this)
  have h3 : (((w.alloc (.cells #[.int .u8 k0.1, .int .u8 k0.2.1, .int .u8 k0.2.2] 24)).alloc (.cells #[.bool false] 4)).alloc (.cells #[.pointer none] 25)).heap[w.heap.size + 2]? = some (.cells #[.pointer none] 25 (0, 0)) := by
    have := alloc_block ((w.alloc (.cells #[.int .u8 k0.1, .int .u8 k0.2.1, .int .u8 k0.2.2] 24)).alloc (.cells #[.bool false] 4)) (.cells #[.pointer none] 25)
    simpa using this
  have HB0 := Lib.hid hb0
  have H1 := Lib.hid h1
  have H2 := Lib.hid h2
  have hx3 := block_cell (j := 0) h3 rfl
  have hfn := fun w' => func_neq w' (.func 27) #[] #[.pointer (some ⟨w.heap.size + 2, 0, none⟩)]
  have hsz : (((w.alloc (.cells #[.int .u8 k0.1, .int .u8 k0.2.1, .int .u8 k0.2.2] 24)).alloc (.cells #[.bool false] 4)).alloc (.cells #[.pointer none] 25)).heap.size = w.heap.size + 3 := by simp
  have HSZ := Lib.hid hsz
  have eg : ∀ args w, (callFunc 27 args).run Try.prog w = .ok (.enter 27 args) w := enters_of Try.func27 (by kernel_rfl) rfl
  clear hb0 h1 h2 h3 hsz
  refine callsIn_wide (n := 6).1 ?_
  refine callsIn_of_wp_marks Try.func6 rfl trivial ?_ rfl
  simp only [Try.ntmps6, List.size_toArray, List.length_cons, List.length_nil, Nat.reduceAdd, Nat.reduceSub, Array.replicate_succ, Array.replicate_zero, List.push_toArray, List.append_toArray, List.nil_append, List.cons_append]
  gi_wp2
  refine ⟨trivial, (callsIn_wide.2 (all_any _ _)).mono ?_⟩
  rintro e w' ⟨rfl, rfl⟩
  gi_wp2
  generalize (((w.alloc (.cells #[.int .u8 k0.1, .int .u8 k0.2.1, .int .u8 k0.2.2] 24)).alloc (.cells #[.bool false] 4)).alloc (.cells #[.pointer none] 25)) = W4 at *
  refine wpIn_rangeFunc_ownH (n := 6) (encs := fun x : Rw => #[encK x.1, .int .i64 x.2]) (ps := #[12, 13]) rfl (by decide) (gf := 27) (lb := #[.pointer (some ⟨w.heap.size + 1 + 1, 0, none⟩)]) rfl trivial eg (all_stops_nil (w.heap.size + 1 + 1) W4.heap.size W4 hx3) kpC_t kpC_b (Below.refl _ _) (fun _ => rfl)
    (fun pre X => Turn (fun _ => False) W4 X)
    (fun _ pre _ => False)
    (fun s X X' row hs hg hr => hs.keep hg (fun r e => (hr r e).1))
    (fun _ _ _ _ _ hs _ _ => hs)
    (Turn.refl _ _)
    (fun x a' X => True)
    (fun _ _ _ _ _ _ _ _ _ => trivial)
    ?assign ?body ?done ?stop
  case assign =>
    rintro l pre x X K' htu hK
    gi_wp2
    exact hK _ _ (KeepsFrom.refl _ _) ⟨Nat.le_refl _, fun _ _ _ h _ => h⟩ htu trivial
  case body =>
    rintro l pre x a' X _ _ _ _ hlt
    exact absurd hlt (Nat.not_lt_zero _)
  case stop =>
    rintro D cc pre X _ hpre _ _
    exact hpre.elim
  case done =>
    rintro D ys X hD rfl htu hK
    have hbX : Below W4.heap.size W4 X := htu.below (Nat.le_refl _) (fun k h => h.elim)
    have HBX := Lib.hid (HB0.out.trans (hbX.mono HB0.out.size))
    have HX1 := Lib.hid (block_later H1.out hbX)
    have HX2 := Lib.hid (block_later H2.out hbX)
    have HKD := Lib.hid hK
    have HDS : Hid (W4.heap.size ≤ D) := Lib.hid hD
    have hwide : ∀ f, Fence.wide.fn f := fun _ => trivial
    have x0 := block_cell (j := 0) HX1.out rfl
    have x1 := block_cell (j := 1) HX1.out rfl
    have x2 := block_cell (j := 2) HX1.out rfl
    clear htu hbX hK hfn hx3 eg hD
    gi_wp2
    refine (callsIn_wide.2 (put_null k0 1 _)).mono ?_
    rintro e W5 ⟨rfl, hb5⟩
    have HB5 : Hid (Below X.heap.size X W5) := Lib.hid hb5
    clear hb5 x0 x1 x2
    have x0 := block_cell (j := 0) (block_later HX1.out HB5.out) rfl
    have x1 := block_cell (j := 1) (block_later HX1.out HB5.out) rfl
    have x2 := block_cell (j := 2) (block_later HX1.out HB5.out) rfl
    gi_wp2
    refine (callsIn_wide.2 (get_null k0 _)).mono ?_
    rintro e W6 ⟨rfl, hb6⟩
    have HB6 := Lib.hid (HB5.out.trans (hb6.mono HB5.out.size))
    clear hb6 x0 x1 x2
    have x0 := block_cell (j := 0) (block_later HX1.out HB6.out) rfl
    have x1 := block_cell (j := 1) (block_later HX1.out HB6.out) rfl
    have x2 := block_cell (j := 2) (block_later HX1.out HB6.out) rfl
    gi_wp2
    refine (callsIn_wide.2 (del_null k0 _)).mono ?_
    rintro e W7 ⟨rfl, hb7⟩
    have HB7 := Lib.hid (HB6.out.trans (hb7.mono HB6.out.size))
    clear hb7 x0 x1 x2
    gi_wp2
    refine (callsIn_wide.2 (len_null _)).mono ?_
    rintro e w' ⟨rfl, rfl⟩
    gi_wp2
    refine (callsIn_wide.2 (keys_null _)).mono ?_
    rintro e w' ⟨rfl, rfl⟩
    gi_wp2
    refine (callsIn_wide.2 (copy_null _)).mono ?_
    rintro e W8 ⟨Bv, mv, rfl, htv, hfv, hb8⟩
    have HB8 := Lib.hid (HB7.out.trans (hb8.mono HB7.out.size))
    have hlen := len_any W8 Bv mv [] htv
    clear htv hfv hb8
    gi_wp2
    refine (callsIn_wide.2 hlen).mono ?_
    rintro e w' ⟨rfl, rfl⟩
    clear hlen
    gi_wp2
    refine (callsIn_wide.2 (tab_works _)).mono ?_
    rintro e W9 ⟨rfl, hb9⟩
    have HB9 := Lib.hid (HB8.out.trans (hb9.mono HB8.out.size))
    have hX4 : Boxed W9 (w.heap.size + 1) 4 (.bool false) := block_later HX2.out HB9.out
    have hKD : W9.heap[D]? = some (.deferred (some [])) := block_later HKD.out HB9.out
    have x4 := hX4.cell
    have f4 := hX4.frozen
    clear hb9
    gi_wp2
    have hK' := (KeepsOthers.setCell W9 ⟨w.heap.size + 1, 0, none⟩ (.bool true)).same D _ hKD rfl
    refine ⟨by simp, .inl ⟨_, _, rfl, run_takeDeferred hK', ?_⟩⟩
    have hc5 := cell_kept (hX4.set (.bool true)).cell (grownBy_putObj' _ D (.deferred none)) (fun r e => by cases e; exact ⟨_, hK', rfl⟩)
    have HBZ := HBX.out.trans (HB9.out.mono HBX.out.size)
    refine ⟨.bool true, ?_, rfl, (HBZ.setCell (p := ⟨w.heap.size + 1, 0, none⟩) (by simp) _).trans (belowK_b (w := w) (Nat.le_refl _) _ D _ _ (by have := HB0.out.size; have := HDS.out; omega) hK' rfl rfl)⟩
    rw [results_cell_one rfl]
    simp [asAddr, loadVar, go_sem, hc5, Result.andThen]

set_option maxRecDepth 100000 in
theorem lifted (os : Os) (started : os.Started) (H : Type) (enc : TypeId × Value → H) :
    ReturnsInHanded {} Try.checked os 6 .any (Rows.tableNilSpec.pre6 enc Try.prog Try.f6 Rows.tableNilRow.domain false) (Rows.tableNilSpec.post enc Try.prog Try.f6 false true false false) := by
  refine returnsInHanded_of_change (C := Try.checked) own started (by kernel_rfl) Try.func6
    (ChangeSpec.witness6 (enc := enc) (C := Try.checked) false ⟨#[], #[.agg #[.int .u8 0, .int .u8 0, .int .u8 0]], []⟩ 8 (by kernel_rfl) (by kernel_rfl) (by kernel_rfl) (by kernel_rfl)) ?_
  intro W base args ds gs before hval0 hW hcnd _
  have hval : ∀ (j : Nat) t v, Try.f6.params[j]? = some t → args[j]? = some v → Value.okWide Try.prog W .any base t v := hval0
  have hW' := hW
  obtain ⟨p, q, hA0, hV, rfl, hfz, hnd⟩ := hW
  have hA : DataW.TrodAll enc Try.prog W 0 (fun _ => true) true Try.f6.params.toList args.toList ds p := hA0
  rw [Try.params6] at hA hval
  obtain ⟨v0, vs0, d0, ds0, p0, q0, hargs, rfl, rfl, h0, r0⟩ := trodAll_cons hA
  obtain ⟨rfl, rfl, rfl⟩ := trodAll_nil r0
  obtain rfl : args = #[v0] := by cases args; simp_all
  obtain ⟨rfl, rfl⟩ := trodVars_none hV
  have k0 := h0
  have lt0 : ∀ x ∈ p0, x.block < W.heap.size := by obtain ⟨m, hm⟩ := k0; exact DataW.trod_lt m _ _ _ hm
  obtain ⟨x0, rfl, w0⟩ := open_key (hval 0 24 v0 rfl rfl) h0
  clear hA0 hval0
  refine (walk x0 W w0).mono fun e W' ⟨he, bel⟩ => ?_
  subst he
  exact ⟨_, rfl, _, _, _, [], _, [], hW', trodAll_mk1 (shut_bool Try.underlying4 _), (trodAll_cons_mk (Below.trod laidOut (by kernel_rfl) (of_decide_eq_true (by kernel_rfl)) k0 bel lt0) trodAll_mk0), rfl, bel.frame _, fun h => by cases h⟩

theorem over : Rows.tableNilRow.holds Try.pinned (OpenSpec.ofChange Rows.tableNilSpec) :=
  OpenClaim.holds_of_wide 6 Try.f6 rfl rfl rfl rfl rfl rfl rfl ⟨rfl, rfl, rfl, rfl, rfl⟩ rfl rfl rfl rfl rfl (by kernel_rfl) Try.func6 (by kernel_rfl)
    (of_decide_eq_true (by kernel_rfl)) (by unfold Func.isWrapper; first | (rw [if_pos (by decide +kernel)]; kernel_rfl) | (rw [if_neg (by decide +kernel)]; exact ⟨rfl, rfl⟩))
    (fun os started H enc _ => lifted os started H enc)

theorem proved : Rows.TableNilSaid := over
#print axioms proved
end Go.Proofs.Ytnjihplhahkljaa.tableNil
