/-
  KeyGood answers true of any two numbers and any key, and writes nothing that was there: the tied card. No condition but the card's own: the library's variables lie as the program's text lays them.
-/
import Derived.Test.YthkfijgdopjjjaaDoorRows
import Derived.Test.YthkfijgdopjjjaaDoorCards
import Derived.Test.YthkfijgdopjjjaaDoorTie
import Derived.SevenTiedAt
import Derived.Stop.Joined
import Derived.Test.YthkfijgdopjjjaaDoorKeyPlaces
import Derived.Deep.RegionHeld
import Derived.WalkKit
import Derived.ProofKit
import Derived.OpenShut
import Derived.ShutString
import Derived.ChangeOld
import Derived.Below
namespace Go.Proofs.YthkfijgdopjjjaaDoor.keyGood
open Go.ChangeShapes Go.WideShapes Go.ChangeAt Go.RowKit
open Go.ChangeMaps (open_string shut_string)
set_option linter.unusedVariables false

theorem own : ownKnob Tryd.prog.godebug = none := by kernel_rfl
theorem laidOut : laidOutB Tryd.prog = true := by kernel_rfl

theorem held_step {w w1 w2 : World} {X : Nat} {u0 u1 u2 : Value} {p : Option Addr} {n c : Nat} {L : List K} (h : Below w1.heap.size w1 w2)
    (hS : w1.cell? ⟨X, 0, none⟩ = some u0 ∧ w1.cell? ⟨X, 1, none⟩ = some u1 ∧ w1.cell? ⟨X, 2, none⟩ = some u2 ∧ Hid (Below w.heap.size w w1) ∧ Hid (KL w1 p n c L)) :
    w2.cell? ⟨X, 0, none⟩ = some u0 ∧ w2.cell? ⟨X, 1, none⟩ = some u1 ∧ w2.cell? ⟨X, 2, none⟩ = some u2 ∧ Hid (Below w.heap.size w w2) ∧ Hid (KL w2 p n c L) := by
  obtain ⟨h0, h1, h2, h3, h4⟩ := hS
  exact ⟨(h.cell (World.block_lt_of_cell? _ _ h0)).trans h0, (h.cell (World.block_lt_of_cell? _ _ h1)).trans h1, (h.cell (World.block_lt_of_cell? _ _ h2)).trans h2, Lib.hid (h3.out.trans (h.mono h3.out.size)), Lib.hid (h4.out.later h)⟩

set_option maxHeartbeats 1000000 in
set_option maxRecDepth 100000 in
theorem walk (a0 : Int) (a1 : Int) (k2 : K) (w : World) (hv : Vars w) (w0 : (Lit.int .i64 a0).wf = true) (w1 : (Lit.int .i64 a1).wf = true) (w2 : Kok k2) :
    Calls Tryd.prog 3 #[.int .i64 a0, .int .i64 a1, .agg #[.int .u8 k2.1, .int .u8 k2.2.1, .int .u8 k2.2.2]] w fun e w' => e = .returned (.bool true) ∧ Below w.heap.size w w' := by
  have HV := Lib.hid hv
  have HA := Lib.hid fun W => refall_any a0 a1 W
  have HKA := Lib.hid fun W => keyall_any a0 a1 W
  have HCT := Lib.hid fun W => keycount_any a0 a1 W
  have HPL := Lib.hid fun W => place_any a0 a1 k2.1 k2.2.1 k2.2.2 w2.1 w2.2.1 w2.2.2 W
  have HG := Lib.hid fun W => good_any a0 a1 k2.1 k2.2.1 k2.2.2 w2.2.1 w2.2.2 W
  have HRG := Lib.hid fun W => refgood_any a0 a1 k2.1 k2.2.1 k2.2.2 w2.2.1 w2.2.2 W
  have HRP := Lib.hid fun W => refplace_any a0 a1 k2 W
  have hl := refQ_len a0 a1
  have hpg := pos_good a0 a1 k2 w2
  have hpb := pos_bad a0 a1 k2
  have hpe : placeI a0 a1 (k2.1, k2.2.1, k2.2.2) = placeI a0 a1 k2 := rfl
  rw [hpe] at HPL
  clear hv w0 w1 w2 hpe
  generalize refQ a0 a1 5 = L at *
  generalize hn : L.length = n at *
  have HN := Lib.hid hn
  clear hn
  cases hg : goodB a0 a1 k2.1 k2.2.1 k2.2.2 with
  | true =>
    rw [hg] at HPL HG HRG
    rw [if_pos rfl] at HPL
    have HXE0 := Lib.hid fun x h => hpg x h hg
    generalize placeI a0 a1 k2 = q at *
    have HXE : Hid (∀ x, PosIs L k2 x → x = q) := Lib.hid fun x h => (HXE0.out x h).1
    have HQ : Hid (∀ x, PosIs L k2 x → 0 ≤ q) := Lib.hid fun x h => (HXE0.out x h).2
    clear hg hpg hpb HXE0
    go_enter Tryd.func3, Tryd.ntmps3
    go_wp2_with fail
    have HB1 := Lib.hid ((Below.refl w.heap.size w).alloc (Nat.le_refl _) (.cells #[.int .u8 k2.1, .int .u8 k2.2.1, .int .u8 k2.2.2] 23))
    have HX1 : Hid ((w.alloc (.cells #[.int .u8 k2.1, .int .u8 k2.2.1, .int .u8 k2.2.2] 23)).heap[w.heap.size]? = some (.cells #[.int .u8 k2.1, .int .u8 k2.2.1, .int .u8 k2.2.2] 23 (0, 0))) := Lib.hid (alloc_block _ _)
    generalize w.alloc (.cells #[.int .u8 k2.1, .int .u8 k2.2.1, .int .u8 k2.2.2] 23) = W1 at *
    generalize hX : w.heap.size = X at *
    have HX := Lib.hid hX
    clear hX
    refine (HA.out _).mono ?_
    rintro e W2 ⟨p, c, rfl, hk, hb⟩
    rw [HN.out] at hk ⊢
    have HB2 := Lib.hid (HB1.out.trans (hb.mono (by have := HB1.out.size; rw [HX.out] at this; exact this)))
    have HK2 := Lib.hid hk
    have HX2 := Lib.hid (block_later HX1.out hb)
    clear hk hb HB1 HX1
    have x0 := block_cell (j := 0) HX2.out rfl
    have x1 := block_cell (j := 1) HX2.out rfl
    have x2 := block_cell (j := 2) HX2.out rfl
    go_wp2_with fail
    refine (HPL.out _).mono ?_
    rintro e W3 ⟨rfl, h⟩
    have HB3 := Lib.hid (HB2.out.trans (h.below.mono (by have := HB2.out.size; rw [HX.out] at this; exact this)))
    have HK3 := Lib.hid (HK2.out.later h.below)
    have HX3 := Lib.hid (block_later HX2.out h.below)
    clear h x0 x1 x2 HB2 HK2 HX2
    have x0 := block_cell (j := 0) HX3.out rfl
    have x1 := block_cell (j := 1) HX3.out rfl
    have x2 := block_cell (j := 2) HX3.out rfl
    go_wp2_with fail
    refine (HRP.out _).mono ?_
    rintro e W4 ⟨⟨x, rfl, hx⟩, h⟩
    have hxe := HXE.out x hx
    have hq0 := HQ.out x hx
    have HB4 := Lib.hid (HB3.out.trans (h.mono (by have := HB3.out.size; rw [HX.out] at this; exact this)))
    have HK4 := Lib.hid (HK3.out.later h)
    have HX4 := Lib.hid (block_later HX3.out h)
    clear h x0 x1 x2 HB3 HK3 HX3 hx
    subst hxe
    have hS0 : (fun w' => w'.cell? ⟨X, 0, none⟩ = some (.int .u8 k2.1) ∧ w'.cell? ⟨X, 1, none⟩ = some (.int .u8 k2.2.1) ∧ w'.cell? ⟨X, 2, none⟩ = some (.int .u8 k2.2.2) ∧ Hid (Below w.heap.size w w') ∧ Hid (KL w' p n c L)) W4.drew := ⟨block_cell (j := 0) HX4.out rfl, block_cell (j := 1) HX4.out rfl, block_cell (j := 2) HX4.out rfl, Lib.hid (by rw [HX.out]; exact HB4.out.drew), Lib.hid (HK4.out.later (Below.refl _ _).drew)⟩
    have hmax := fun W => run_max W x x (by omega)
    have hSW : Hid (∀ w', (fun w' => w'.cell? ⟨X, 0, none⟩ = some (.int .u8 k2.1) ∧ w'.cell? ⟨X, 1, none⟩ = some (.int .u8 k2.2.1) ∧ w'.cell? ⟨X, 2, none⟩ = some (.int .u8 k2.2.2) ∧ Hid (Below w.heap.size w w') ∧ Hid (KL w' p n c L)) w' → Vars w') := Lib.hid fun w' hS => HV.out.later hS.2.2.2.1.out
    go_wp2_with fail
    go_region_held (fun w' => w'.cell? ⟨X, 0, none⟩ = some (.int .u8 k2.1) ∧ w'.cell? ⟨X, 1, none⟩ = some (.int .u8 k2.2.1) ∧ w'.cell? ⟨X, 2, none⟩ = some (.int .u8 k2.2.2) ∧ Hid (Below w.heap.size w w') ∧ Hid (KL w' p n c L)) (first | exact hS0 | assumption) (first
      | (go_at_call 11; refine (HG.out _).mono ?_; rintro e w' ⟨rfl, h⟩; have h' := held_step (w := w) h.below (by assumption))
      | (go_at_call 12; refine (HRG.out _).mono ?_; rintro e w' ⟨rfl, h⟩; have h' := held_step (w := w) h.below (by assumption))
      | (go_at_call 13; refine (HCT.out _).mono ?_; rintro e w' ⟨rfl, rfl⟩)
      | (go_at_call 15; refine (HKA.out _).mono ?_; rintro e w' ⟨p2, c2, rfl, hk2, h⟩; have h' := held_step (w := w) h (by assumption); have HK2 := Lib.hid hk2; clear hk2; rw [HN.out] at HK2 ⊢)
      | (go_at_call 14; refine (same_any _ _ _ _ _ _ _ _ _ HK2.out (by assumption : (fun w' => w'.cell? ⟨X, 0, none⟩ = some (.int .u8 k2.1) ∧ w'.cell? ⟨X, 1, none⟩ = some (.int .u8 k2.2.1) ∧ w'.cell? ⟨X, 2, none⟩ = some (.int .u8 k2.2.2) ∧ Hid (Below w.heap.size w w') ∧ Hid (KL w' p n c L)) _).2.2.2.2.out (by omega)).mono ?_; rintro e w' ⟨rfl, h⟩; have h' := held_step (w := w) h (by assumption); rw [decide_eq_true (rfl : L = L)])
      | (go_at_call 16; refine (works_any _ (hSW.out _ (by assumption))).mono ?_; rintro e w' ⟨rfl, h⟩; have h' := held_step (w := w) h (by assumption); have HZ := h'.2.2.2.1))
    all_goals
      go_wp2_with fail
      go_ret
      exact ⟨rfl, HZ.out⟩
  | false =>
    rw [hg] at HPL HG HRG
    rw [if_neg (by simp)] at HPL
    have HXE : Hid (∀ x, PosIs L k2 x → x = -1) := Lib.hid fun x h => hpb x h hg
    clear hg hpg hpb
    go_enter Tryd.func3, Tryd.ntmps3
    go_wp2_with fail
    have HB1 := Lib.hid ((Below.refl w.heap.size w).alloc (Nat.le_refl _) (.cells #[.int .u8 k2.1, .int .u8 k2.2.1, .int .u8 k2.2.2] 23))
    have HX1 : Hid ((w.alloc (.cells #[.int .u8 k2.1, .int .u8 k2.2.1, .int .u8 k2.2.2] 23)).heap[w.heap.size]? = some (.cells #[.int .u8 k2.1, .int .u8 k2.2.1, .int .u8 k2.2.2] 23 (0, 0))) := Lib.hid (alloc_block _ _)
    generalize w.alloc (.cells #[.int .u8 k2.1, .int .u8 k2.2.1, .int .u8 k2.2.2] 23) = W1 at *
    generalize hX : w.heap.size = X at *
    have HX := Lib.hid hX
    clear hX
    refine (HA.out _).mono ?_
    rintro e W2 ⟨p, c, rfl, hk, hb⟩
    rw [HN.out] at hk ⊢
    have HB2 := Lib.hid (HB1.out.trans (hb.mono (by have := HB1.out.size; rw [HX.out] at this; exact this)))
    have HK2 := Lib.hid hk
    have HX2 := Lib.hid (block_later HX1.out hb)
    clear hk hb HB1 HX1
    have x0 := block_cell (j := 0) HX2.out rfl
    have x1 := block_cell (j := 1) HX2.out rfl
    have x2 := block_cell (j := 2) HX2.out rfl
    go_wp2_with fail
    refine (HPL.out _).mono ?_
    rintro e W3 ⟨rfl, h⟩
    have HB3 := Lib.hid (HB2.out.trans (h.below.mono (by have := HB2.out.size; rw [HX.out] at this; exact this)))
    have HK3 := Lib.hid (HK2.out.later h.below)
    have HX3 := Lib.hid (block_later HX2.out h.below)
    clear h x0 x1 x2 HB2 HK2 HX2
    have x0 := block_cell (j := 0) HX3.out rfl
    have x1 := block_cell (j := 1) HX3.out rfl
    have x2 := block_cell (j := 2) HX3.out rfl
    go_wp2_with fail
    refine (HRP.out _).mono ?_
    rintro e W4 ⟨⟨x, rfl, hx⟩, h⟩
    have hxe := HXE.out x hx
    have HB4 := Lib.hid (HB3.out.trans (h.mono (by have := HB3.out.size; rw [HX.out] at this; exact this)))
    have HK4 := Lib.hid (HK3.out.later h)
    have HX4 := Lib.hid (block_later HX3.out h)
    clear h x0 x1 x2 HB3 HK3 HX3 hx
    subst hxe
    have hS0 : (fun w' => w'.cell? ⟨X, 0, none⟩ = some (.int .u8 k2.1) ∧ w'.cell? ⟨X, 1, none⟩ = some (.int .u8 k2.2.1) ∧ w'.cell? ⟨X, 2, none⟩ = some (.int .u8 k2.2.2) ∧ Hid (Below w.heap.size w w') ∧ Hid (KL w' p n c L)) W4.drew := ⟨block_cell (j := 0) HX4.out rfl, block_cell (j := 1) HX4.out rfl, block_cell (j := 2) HX4.out rfl, Lib.hid (by rw [HX.out]; exact HB4.out.drew), Lib.hid (HK4.out.later (Below.refl _ _).drew)⟩
    have hmax := fun W => run_max W (-1) (0) (by omega)
    have hSW : Hid (∀ w', (fun w' => w'.cell? ⟨X, 0, none⟩ = some (.int .u8 k2.1) ∧ w'.cell? ⟨X, 1, none⟩ = some (.int .u8 k2.2.1) ∧ w'.cell? ⟨X, 2, none⟩ = some (.int .u8 k2.2.2) ∧ Hid (Below w.heap.size w w') ∧ Hid (KL w' p n c L)) w' → Vars w') := Lib.hid fun w' hS => HV.out.later hS.2.2.2.1.out
    go_wp2_with fail
    go_region_held (fun w' => w'.cell? ⟨X, 0, none⟩ = some (.int .u8 k2.1) ∧ w'.cell? ⟨X, 1, none⟩ = some (.int .u8 k2.2.1) ∧ w'.cell? ⟨X, 2, none⟩ = some (.int .u8 k2.2.2) ∧ Hid (Below w.heap.size w w') ∧ Hid (KL w' p n c L)) (first | exact hS0 | assumption) (first
      | (go_at_call 11; refine (HG.out _).mono ?_; rintro e w' ⟨rfl, h⟩; have h' := held_step (w := w) h.below (by assumption))
      | (go_at_call 12; refine (HRG.out _).mono ?_; rintro e w' ⟨rfl, h⟩; have h' := held_step (w := w) h.below (by assumption))
      | (go_at_call 13; refine (HCT.out _).mono ?_; rintro e w' ⟨rfl, rfl⟩)
      | (go_at_call 15; refine (HKA.out _).mono ?_; rintro e w' ⟨p2, c2, rfl, hk2, h⟩; have h' := held_step (w := w) h (by assumption); have HK2 := Lib.hid hk2; clear hk2; rw [HN.out] at HK2 ⊢)
      | (go_at_call 14; refine (same_any _ _ _ _ _ _ _ _ _ HK2.out (by assumption : (fun w' => w'.cell? ⟨X, 0, none⟩ = some (.int .u8 k2.1) ∧ w'.cell? ⟨X, 1, none⟩ = some (.int .u8 k2.2.1) ∧ w'.cell? ⟨X, 2, none⟩ = some (.int .u8 k2.2.2) ∧ Hid (Below w.heap.size w w') ∧ Hid (KL w' p n c L)) _).2.2.2.2.out (by omega)).mono ?_; rintro e w' ⟨rfl, h⟩; have h' := held_step (w := w) h (by assumption); rw [decide_eq_true (rfl : L = L)])
      | (go_at_call 16; refine (works_any _ (hSW.out _ (by assumption))).mono ?_; rintro e w' ⟨rfl, h⟩; have h' := held_step (w := w) h (by assumption); have HZ := h'.2.2.2.1))
    all_goals
      go_wp2_with fail
      go_ret
      exact ⟨rfl, HZ.out⟩

set_option maxRecDepth 100000 in
theorem lifted (os : Os) (started : os.Started) (H : Type) (enc : TypeId × Value → H) :
    ReturnsInHanded {} Tryd.checked os 3 .any (fun w args => (Rows.keyGoodSpec.pre enc Tryd.prog Tryd.f3 [] false w args ∧ laidMetH Tryd.prog Rows.keyGoodRow.laid w) ∧ sizedMet enc Tryd.prog Tryd.f3 (OpenSpec.ofChange Rows.keyGoodSpec) false w args) (Rows.keyGoodSpec.post enc Tryd.prog Tryd.f3 false true false false) := by
  refine returnsInHanded_of_change_and (C := Tryd.checked) (X := fun w _ => laidMetH Tryd.prog Rows.keyGoodRow.laid w) (fun _ _ _ hh h => h.of_heap hh) own started (by kernel_rfl) Tryd.func3
    (ChangeSpec.witness_shaped (enc := enc) (C := Tryd.checked) (os := os) (X := fun w _ => laidMetH Tryd.prog Rows.keyGoodRow.laid w) false (World.doorLaid Tryd.prog 400 os) #[.int .i64 0, .int .i64 0, .agg #[.int .u8 0, .int .u8 0, .int .u8 0]] 8 rfl (World.shaped_of_RefB (by kernel_rfl) (by kernel_rfl)) (by kernel_rfl) (by kernel_rfl) (by kernel_rfl) (door_met os _)) ?_
  intro W base args ds gs before hval0 hW _ _ hL _
  have hval : ∀ (j : Nat) t v, Tryd.f3.params[j]? = some t → args[j]? = some v → Value.okWide Tryd.prog W .any base t v := hval0
  have hW' := hW
  obtain ⟨p, q, hA0, hV, rfl, hfz, hnd⟩ := hW
  have hA : DataW.TrodAll enc Tryd.prog W 0 (fun _ => true) true Tryd.f3.params.toList args.toList ds p := hA0
  rw [Tryd.params3] at hA hval
  obtain ⟨v0, vs0, d0, ds0, p0, q0, hargs, rfl, rfl, h0, r0⟩ := trodAll_cons hA
  obtain ⟨v1, vs1, d1, ds1, p1, q1, rfl, rfl, rfl, h1, r1⟩ := trodAll_cons r0
  obtain ⟨v2, vs2, d2, ds2, p2, q2, rfl, rfl, rfl, h2, r2⟩ := trodAll_cons r1
  obtain ⟨rfl, rfl, rfl⟩ := trodAll_nil r2
  obtain rfl : args = #[v0, v1, v2] := by cases args; simp_all
  obtain ⟨rfl, rfl⟩ := trodVars_none hV
  have k0 := h0
  have lt0 : ∀ x ∈ p0, x.block < W.heap.size := by obtain ⟨m, hm⟩ := k0; exact DataW.trod_lt m _ _ _ hm
  obtain ⟨a0, rfl, rfl, rfl, w0⟩ := open_int Tryd.underlying3 (hval 0 3 v0 rfl rfl) h0
  have k1 := h1
  have lt1 : ∀ x ∈ p1, x.block < W.heap.size := by obtain ⟨m, hm⟩ := k1; exact DataW.trod_lt m _ _ _ hm
  obtain ⟨a1, rfl, rfl, rfl, w1⟩ := open_int Tryd.underlying3 (hval 1 3 v1 rfl rfl) h1
  have k2 := h2
  have lt2 : ∀ x ∈ p2, x.block < W.heap.size := by obtain ⟨m, hm⟩ := k2; exact DataW.trod_lt m _ _ _ hm
  obtain ⟨x2, rfl, w2⟩ := open_key (hval 2 23 v2 rfl rfl) h2
  clear hA0 hval0
  refine (walk a0 a1 x2 W (of_laid hL) w0 w1 w2).mono fun e W' ⟨he, bel⟩ => ?_
  subst he
  exact ⟨_, rfl, _, _, _, [], _, [], hW', trodAll_mk1 (shut_bool Tryd.underlying4 _), (trodAll_cons_mk (Below.trod laidOut (by kernel_rfl) (of_decide_eq_true (by kernel_rfl)) k0 bel lt0) (trodAll_cons_mk (Below.trod laidOut (by kernel_rfl) (of_decide_eq_true (by kernel_rfl)) k1 bel lt1) (trodAll_cons_mk (Below.trod laidOut (by kernel_rfl) (of_decide_eq_true (by kernel_rfl)) k2 bel lt2) trodAll_mk0))), rfl, bel.frame _, fun h => by cases h⟩

theorem over : Rows.keyGoodRow.holds Tryd.pinned (OpenSpec.ofChange Rows.keyGoodSpec) :=
  OpenClaim.holds_of_wide 3 Tryd.f3 rfl rfl rfl rfl rfl rfl rfl ⟨rfl, rfl, rfl, rfl, rfl⟩ rfl rfl rfl rfl rfl (by kernel_rfl) Tryd.func3 (by kernel_rfl)
    (of_decide_eq_true (by kernel_rfl)) (by unfold Func.isWrapper; first | (rw [if_pos (by decide +kernel)]; kernel_rfl) | (rw [if_neg (by decide +kernel)]; exact ⟨rfl, rfl⟩))
    (fun os started H enc _ => lifted os started H enc)

theorem proved : Rows.KeyGoodCardSaid :=
  Claim7.holds_tied_plain_at .later [] [.data, .data, .data, .sentinel, .sentinel] true (true, "b1d0fd53b19cb1e08d0b4129f2ab4db37302d229c001c238747dfdcafbb347b4") true
    over (fun _ h => by cases h) (by kernel_rfl) (fun _ h => by cases h) keyGood_row_tie rfl ⟨rfl, rfl⟩ (by kernel_rfl) rfl
    (fun f fn hf hfn => by
      obtain rfl : f = 3 := Option.some.inj ((show Tryd.prog.funcNamed "pledge/pledgelaw04.KeyGood" = some 3 by kernel_rfl).symm.trans hf) |>.symm
      obtain rfl : fn = Tryd.f3 := (Option.some.inj (Tryd.func3.symm.trans hfn)).symm
      exact ⟨by kernel_rfl, fun j t ht => by
        rw [Tryd.params3] at ht
        have hm : t ∈ [3, 3, 23] := by simpa using Array.mem_of_getElem? ht
        have hall : ([3, 3, 23].all fun u => !Tryd.prog.wantsStandIn u) = true := by kernel_rfl
        exact (show Tryd.prog.wantsStandIn t = false by simpa using List.all_eq_true.1 hall t hm)⟩)
    (by kernel_rfl)
#print axioms proved
end Go.Proofs.YthkfijgdopjjjaaDoor.keyGood
