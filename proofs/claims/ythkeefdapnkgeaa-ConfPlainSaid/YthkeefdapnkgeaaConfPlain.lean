/-
  ConfPlain answers true of any numbers, and writes nothing that was there. No condition.
PLAIN4
-/
import Derived.Test.YthkeefdapnkgeaaRows
import Derived.Test.YthkeefdapnkgeaaConfRefPlain
import Derived.Test.YthkeefdapnkgeaaConfSame
import Derived.Test.YthkeefdapnkgeaaConfOpen
import Derived.Deep.RegionHeld
import Derived.WalkKit
import Derived.ProofKit
import Derived.OpenShut
import Derived.ShutString
import Derived.ChangeOld
import Derived.Below
namespace Go.Proofs.Ythkeefdapnkgeaa.confPlain
open Go.ChangeShapes Go.WideShapes Go.ChangeAt Go.RowKit
open Go.ChangeMaps (open_string shut_string)
set_option linter.unusedVariables false

theorem own : ownKnob Try.prog.godebug = none := by kernel_rfl
theorem laidOut : laidOutB Try.prog = true := by kernel_rfl
set_option linter.unusedSimpArgs false
theorem heldp_step {w w1 w2 : World} {X B : Nat} {u0 u1 : Value} {C : Cf} {p : Option Addr} {n c : Nat} {M : List D} (h : Below w1.heap.size w1 w2)
    (hS : w1.cell? ⟨X, 0, none⟩ = some u0 ∧ w1.cell? ⟨X, 1, none⟩ = some u1 ∧ Hid (CB w1 B C) ∧ Hid (Below w.heap.size w w1) ∧ Hid (DL w1 p n c M)) :
    w2.cell? ⟨X, 0, none⟩ = some u0 ∧ w2.cell? ⟨X, 1, none⟩ = some u1 ∧ Hid (CB w2 B C) ∧ Hid (Below w.heap.size w w2) ∧ Hid (DL w2 p n c M) := by
  obtain ⟨h0, h1, h2, h3, h4⟩ := hS
  exact ⟨(h.cell (World.block_lt_of_cell? _ _ h0)).trans h0, (h.cell (World.block_lt_of_cell? _ _ h1)).trans h1, Lib.hid (h2.out.later h), Lib.hid (h3.out.trans (h.mono h3.out.size)), Lib.hid (h4.out.later h)⟩

set_option maxHeartbeats 1000000 in
set_option maxRecDepth 100000 in
theorem walk (a0 : Int) (a1 : Int) (a2 : Array Value) (w : World) (w0 : (Lit.int .i64 a0).wf = true) (w1 : (Lit.int .i64 a1).wf = true) (w2 : PairIn w a2) :
    Calls Try.prog 4 #[.int .i64 a0, .int .i64 a1, .agg a2] w fun e w' => e = .returned (.bool true) ∧ Below w.heap.size w w' := by
  obtain ⟨x, y, rfl, _, _⟩ := w2
  have hk0 := kept_bounds a0 1 4 (by omega)
  have hk1 := kept_bounds a1 1 4 (by omega)
  obtain ⟨s, hs⟩ : ∃ s : Nat, keptI a0 1 4 = s := ⟨(keptI a0 1 4).toNat, by omega⟩
  obtain ⟨v, hv⟩ : ∃ v : Nat, keptI a1 1 4 = v := ⟨(keptI a1 1 4).toNat, by omega⟩
  rw [hs] at hk0
  rw [hv] at hk1
  have hs4 : 1 ≤ s ∧ s ≤ 4 := by omega
  have hv4 : 1 ≤ v ∧ v ≤ 4 := by omega
  have HP := Lib.hid fun W => plain_any a0 a1 x y s v hs hv hs4 hv4 W
  have HRP := Lib.hid fun W => refplain_any a0 a1 x y s v hs hv hs4 hv4 W
  have HPC := Lib.hid fun p n c hn W h => pcheck_any s v hs4 hv4 x y p n c hn W h
  have HL : Hid ((plainL s v (lowI x) (highI (lowI x) y)).length ≤ 80) := Lib.hid (by rw [plain_len]; exact all_len s v hs4 hv4)
  clear w0 w1 hk0 hk1 hs hv hs4 hv4
  unfold Made at HP HRP
  generalize plainL s v (lowI x) (highI (lowI x) y) = M at *
  have hb0 : Below w.heap.size w (w.alloc (.cells #[.int .i64 x, .int .i64 y] 25)) := (Below.refl w.heap.size w).alloc (Nat.le_refl _) _
  have hx0 := alloc_block w (.cells #[.int .i64 x, .int .i64 y] 25)
  have HB0 := Lib.hid hb0
  have HX0 := Lib.hid hx0
  clear hb0 hx0
  go_enter Try.func4, Try.ntmps4
  go_upto_region 1 with (fail)
  generalize w.alloc (.cells #[.int .i64 x, .int .i64 y] 25) = W1 at *
  generalize hX : w.heap.size = X at *
  have HX := Lib.hid hX
  clear hX
  have x0 := block_cell (j := 0) HX0.out (v := .int .i64 x) rfl
  have x1 := block_cell (j := 1) HX0.out (v := .int .i64 y) rfl
  go_wp2_with fail
  refine (HP.out _).mono ?_
  rintro e W2 ⟨p, c, n, hn, rfl, hd, hb, _⟩
  have hb2 := HB0.out.trans (hb.mono (by have := HB0.out.size; rw [HX.out] at this; exact this))
  have HX2 := Lib.hid (block_later (block_later HX0.out hb) ((Below.refl _ _).alloc (Nat.le_refl _) (.cells (cc (pcf s v p n c (prK v s 0) (needN n : Nat))) 30)))
  have HC2 := Lib.hid (CB.new W2 (pcf s v p n c (prK v s 0) (needN n : Nat)))
  have HD2 := Lib.hid (hd.later ((Below.refl _ _).alloc (Nat.le_refl _) (.cells (cc (pcf s v p n c (prK v s 0) (needN n : Nat))) 30)))
  have HB2 := Lib.hid (hb2.alloc (by have := hb2.size; rw [HX.out] at this; exact this) (.cells (cc (pcf s v p n c (prK v s 0) (needN n : Nat))) 30))
  have HN := Lib.hid hn
  clear hd hb hb2 hn x0 x1 HP HB0 HX0
  go_upto_region 2 with ((with_reducible refine wpList_store_new (C := pcf s v p n c (prK v s 0) (needN n : Nat)) ?_ ?_ ?_ ?_); rfl; rfl; rfl)
  generalize W2.alloc (.cells (cc (pcf s v p n c (prK v s 0) (needN n : Nat))) 30) = W3 at *
  generalize W2.heap.size = B at *
  have x0 := block_cell (j := 0) HX2.out (v := .int .i64 x) rfl
  have x1 := block_cell (j := 1) HX2.out (v := .int .i64 y) rfl
  have hS0 : (fun w' => w'.cell? ⟨X, 0, none⟩ = some (.int .i64 x) ∧ w'.cell? ⟨X, 1, none⟩ = some (.int .i64 y) ∧ Hid (CB w' B (pcf s v p n c (prK v s 0) (needN n : Nat))) ∧ Hid (Below w.heap.size w w') ∧ Hid (DL w' p n c M)) W3.drew :=
    ⟨x0, x1, Lib.hid (HC2.out.later (Below.refl _ _).drew), Lib.hid (by rw [HX.out]; exact HB2.out.drew), Lib.hid (HD2.out.later (Below.refl _ _).drew)⟩
  clear x0 x1 HC2 HD2 HB2 HX2
  refine wp_region_held_drew (S := (fun w' => w'.cell? ⟨X, 0, none⟩ = some (.int .i64 x) ∧ w'.cell? ⟨X, 1, none⟩ = some (.int .i64 y) ∧ Hid (CB w' B (pcf s v p n c (prK v s 0) (needN n : Nat))) ∧ Hid (Below w.heap.size w w') ∧ Hid (DL w' p n c M))) (by kernel_rfl) hS0 (fun hHeld => ?_)
  clear hS0
  refine wpAnyH_take (i := 0) (oi := ⟨some 15, _, _, _, _, none⟩) (v := .agg (cc (pcf s v p n c (prK v s 0) (needN n : Nat)))) rfl (by kernel_rfl) (by kernel_rfl) (by kernel_rfl) (fun _ _ _ h => h) (Or.inl ⟨by rfl, fun w' hw' => held_load_cf rfl hw'.2.2.1.out⟩) (by assumption) ?_
  simp only [Act.put, List.setIfInBounds_toArray, List.set_cons_zero, List.set_cons_succ]
  refine wpAnyH_take (i := 1) (oi := ⟨some 16, _, _, _, _, none⟩) (v := ?_) rfl (by kernel_rfl) (by kernel_rfl) (by kernel_rfl) (fun _ _ _ h => h) (Or.inl ⟨by rfl, ?_⟩) (by assumption) ?_
  rotate_left
  · intro w' hw'
    try dsimp only at hw'
    go_simp
    with_reducible rfl
  simp only [Act.put, List.setIfInBounds_toArray, List.set_cons_zero, List.set_cons_succ]
  refine wpAnyH_take (i := 2) (oi := ⟨some 17, _, _, _, _, none⟩) (v := ?_) rfl (by kernel_rfl) (by kernel_rfl) (by kernel_rfl) (fun _ _ _ h => h) (Or.inl ⟨by rfl, ?_⟩) (by assumption) ?_
  rotate_left
  · intro w' hw'
    try dsimp only at hw'
    go_simp
    with_reducible rfl
  simp only [Act.put, List.setIfInBounds_toArray, List.set_cons_zero, List.set_cons_succ]
  refine wpAnyH_take (i := 3) (oi := ⟨some 18, _, _, _, _, none⟩) (v := ?_) rfl (by kernel_rfl) (by kernel_rfl) (by kernel_rfl) (fun _ _ _ h => h) (Or.inl ⟨by rfl, ?_⟩) (by assumption) ?_
  rotate_left
  · intro w' hw'
    try dsimp only at hw'
    go_simp
    with_reducible rfl
  simp only [Act.put, List.setIfInBounds_toArray, List.set_cons_zero, List.set_cons_succ]
  refine wpAnyH_take (i := 4) (oi := ⟨some 19, _, _, _, _, none⟩) (v := ?_) rfl (by kernel_rfl) (by kernel_rfl) (by kernel_rfl) (fun _ _ _ h => h) (Or.inl ⟨by rfl, ?_⟩) (by assumption) ?_
  rotate_left
  · intro w' hw'
    try dsimp only at hw'
    go_simp
    with_reducible rfl
  simp only [Act.put, List.setIfInBounds_toArray, List.set_cons_zero, List.set_cons_succ]
  refine wpAnyH_take (i := 5) (oi := ⟨some 20, _, _, _, _, none⟩) (v := ?_) rfl (by kernel_rfl) (by kernel_rfl) (by kernel_rfl) (fun _ _ _ h => h) (Or.inl ⟨by rfl, ?_⟩) (by assumption) ?_
  rotate_left
  · intro w' hw'
    try dsimp only at hw'
    go_simp
    with_reducible rfl
  simp only [Act.put, List.setIfInBounds_toArray, List.set_cons_zero, List.set_cons_succ]
  refine wpAnyH_take (i := 6) (oi := ⟨some 21, _, _, _, _, none⟩) (v := ?_) rfl (by kernel_rfl) (by kernel_rfl) (by kernel_rfl) (fun _ _ _ h => h) (Or.inl ⟨by rfl, ?_⟩) (by assumption) ?_
  rotate_left
  · intro w' hw'
    try dsimp only at hw'
    go_simp
    with_reducible rfl
  simp only [Act.put, List.setIfInBounds_toArray, List.set_cons_zero, List.set_cons_succ]
  refine wpAnyH_ready (rs := [7]) (by kernel_rfl) (by simp) (AllReadyH.cons rfl (fun K hK => ?_) AllReadyH.nil)
  go_simp
  go_wp2_with fail
  refine (HRP.out _).mono ?_
  rintro e W4 ⟨p2, c2, n2, hn2, rfl, hd2, hb4, _⟩
  obtain rfl : n2 = n := by rw [hn2]; exact HN.out.symm
  have hS4 := heldp_step (w := w) hb4 hHeld
  have hsm := same_in s v p p2 n2 c c2 (prK v s 0) 8 32 2 256 65536 256 (needN n2 : Nat) _ _ rfl rfl M W4 hS4.2.2.2.2.out hd2 (by have := HL.out; rw [← HN.out] at this; omega)
  have HSM := Lib.hid hsm
  have HS4 := Lib.hid hS4
  clear hn2 hd2 hb4 HRP hsm hS4
  go_wp2_with fail
  refine hK.out _ _ HS4.out (fun hHeld2 => ?_)
  clear hK K hHeld
  have hHeld := hHeld2
  clear hHeld2
  refine wpAnyH_ready (rs := [8]) (by kernel_rfl) (by simp) (AllReadyH.cons rfl (fun K hK => ?_) AllReadyH.nil)
  go_simp
  go_wp2_with fail
  refine HSM.out.mono ?_
  rintro e W5 ⟨rfl, hb5⟩
  have HS5 := Lib.hid (heldp_step (w := w) hb5 hHeld)
  clear hb5 HSM HS4
  go_wp2_with fail
  refine hK.out _ _ HS5.out (fun hHeld2 => ?_)
  clear hK K hHeld
  have hHeld := hHeld2
  clear hHeld2
  refine wpAnyH_ready (rs := [9]) (by kernel_rfl) (by simp) (AllReadyH.cons rfl (fun K hK => ?_) AllReadyH.nil)
  go_simp
  refine hK.out _ _ HS5.out (fun hHeld2 => ?_)
  clear hK K hHeld
  have hHeld := hHeld2
  clear hHeld2
  refine wpAnyH_ready (rs := [10]) (by kernel_rfl) (by simp) (AllReadyH.cons rfl (fun K hK => ?_) AllReadyH.nil)
  rw [if_pos (by rfl)]
  refine wp_load_cf rfl HS5.out.2.2.1.out ?_
  simp only [Act.put, List.setIfInBounds_toArray, List.set_cons_zero, List.set_cons_succ]
  refine hK.out _ _ HS5.out (fun hHeld2 => ?_)
  clear hK K hHeld
  have hHeld := hHeld2
  clear hHeld2
  refine wpAnyH_ready (rs := [11]) (by kernel_rfl) (by simp) (AllReadyH.cons rfl (fun K hK => ?_) AllReadyH.nil)
  go_simp
  go_wp2_with fail
  refine (HPC.out p n2 c HN.out _ HS5.out.2.2.2.2.out).mono ?_
  rintro e W6 ⟨rfl, hb6⟩
  have HS6 := Lib.hid (heldp_step (w := w) hb6 hHeld)
  clear hb6 HPC HS5
  go_wp2_with fail
  refine hK.out _ _ HS6.out (fun hHeld2 => ?_)
  clear hK K hHeld
  have hHeld := hHeld2
  clear hHeld2
  refine wpAnyH_ready (rs := [12]) (by kernel_rfl) (by simp) (AllReadyH.cons rfl (fun K hK => ?_) AllReadyH.nil)
  go_simp
  refine hK.out _ _ HS6.out (fun hHeld2 => ?_)
  clear hK K hHeld
  have hHeld := hHeld2
  clear hHeld2
  refine wpAnyH_ready (rs := [13]) (by kernel_rfl) (by simp) (AllReadyH.cons rfl (fun K hK => ?_) AllReadyH.nil)
  go_simp
  refine hK.out _ _ HS6.out (fun hHeld2 => ?_)
  clear hK K hHeld
  have hHeld := hHeld2
  clear hHeld2
  refine wpAnyH_ready (rs := [14]) (by kernel_rfl) (by simp) (AllReadyH.cons rfl (fun K hK => ?_) AllReadyH.nil)
  go_simp
  refine hK.out _ _ HS6.out (fun hHeld2 => ?_)
  clear hK K hHeld
  have hHeld := hHeld2
  clear hHeld2
  refine wpAnyH_ready (rs := [15]) (by kernel_rfl) (by simp) (AllReadyH.cons rfl (fun K hK => ?_) AllReadyH.nil)
  go_simp
  go_wp2_with fail
  refine (works6_any _).mono ?_
  rintro e W7 ⟨rfl, hb7⟩
  have HS7 := Lib.hid (heldp_step (w := w) hb7 hHeld)
  clear hb7 HS6
  go_wp2_with fail
  refine hK.out _ _ HS7.out (fun hHeld2 => ?_)
  clear hK K hHeld
  have hHeld := hHeld2
  clear hHeld2
  refine wpAnyH_ready (rs := [16]) (by kernel_rfl) (by simp) (AllReadyH.cons rfl (fun K hK => ?_) AllReadyH.nil)
  go_simp
  refine hK.out _ _ HS7.out (fun hHeld2 => ?_)
  clear hK K hHeld
  have hHeld := hHeld2
  clear hHeld2
  refine wpAnyH_ready (rs := [17]) (by kernel_rfl) (by simp) (AllReadyH.cons rfl (fun K hK => ?_) AllReadyH.nil)
  go_simp
  refine hK.out _ _ HS7.out (fun hHeld2 => ?_)
  clear hK K hHeld
  have hHeld := hHeld2
  clear hHeld2
  refine wpAnyH_done (by kernel_rfl) ?_ _
  go_wp2_with fail
  go_ret
  exact ⟨rfl, HS7.out.2.2.2.1.out⟩

set_option maxRecDepth 100000 in
theorem lifted (os : Os) (started : os.Started) (H : Type) (enc : TypeId × Value → H) :
    ReturnsInHanded {} Try.checked os 4 .any (Rows.confPlainSpec.pre6 enc Try.prog Try.f4 Rows.confPlainRow.domain false) (Rows.confPlainSpec.post enc Try.prog Try.f4 false true false false) := by
  refine returnsInHanded_of_change (C := Try.checked) own started (by kernel_rfl) Try.func4
    (ChangeSpec.witness6 (enc := enc) (C := Try.checked) false ⟨#[], #[.int .i64 0, .int .i64 0, .agg #[.int .i64 0, .int .i64 0]], []⟩ 8 (by kernel_rfl) (by kernel_rfl) (by kernel_rfl) (by kernel_rfl)) ?_
  intro W base args ds gs before hval0 hW hcnd _
  have hval : ∀ (j : Nat) t v, Try.f4.params[j]? = some t → args[j]? = some v → Value.okWide Try.prog W .any base t v := hval0
  have hW' := hW
  obtain ⟨p, q, hA0, hV, rfl, hfz, hnd⟩ := hW
  have hA : DataW.TrodAll enc Try.prog W 0 (fun _ => true) true Try.f4.params.toList args.toList ds p := hA0
  rw [Try.params4] at hA hval
  obtain ⟨v0, vs0, d0, ds0, p0, q0, hargs, rfl, rfl, h0, r0⟩ := trodAll_cons hA
  obtain ⟨v1, vs1, d1, ds1, p1, q1, rfl, rfl, rfl, h1, r1⟩ := trodAll_cons r0
  obtain ⟨v2, vs2, d2, ds2, p2, q2, rfl, rfl, rfl, h2, r2⟩ := trodAll_cons r1
  obtain ⟨rfl, rfl, rfl⟩ := trodAll_nil r2
  obtain rfl : args = #[v0, v1, v2] := by cases args; simp_all
  obtain ⟨rfl, rfl⟩ := trodVars_none hV
  have k0 := h0
  have lt0 : ∀ x ∈ p0, x.block < W.heap.size := by obtain ⟨m, hm⟩ := k0; exact DataW.trod_lt m _ _ _ hm
  obtain ⟨a0, rfl, rfl, rfl, w0⟩ := open_int Try.underlying3 (hval 0 3 v0 rfl rfl) h0
  have k1 := h1
  have lt1 : ∀ x ∈ p1, x.block < W.heap.size := by obtain ⟨m, hm⟩ := k1; exact DataW.trod_lt m _ _ _ hm
  obtain ⟨a1, rfl, rfl, rfl, w1⟩ := open_int Try.underlying3 (hval 1 3 v1 rfl rfl) h1
  have k2 := h2
  have lt2 : ∀ x ∈ p2, x.block < W.heap.size := by obtain ⟨m, hm⟩ := k2; exact DataW.trod_lt m _ _ _ hm
  obtain ⟨a2, rfl, w2⟩ := open_pair (hval 2 25 v2 rfl rfl) h2
  clear hA0 hval0
  refine (walk a0 a1 a2 W w0 w1 w2).mono fun e W' ⟨he, bel⟩ => ?_
  subst he
  exact ⟨_, rfl, _, _, _, [], _, [], hW', trodAll_mk1 (shut_bool Try.underlying4 _), (trodAll_cons_mk (Below.trod laidOut (by kernel_rfl) (of_decide_eq_true (by kernel_rfl)) k0 bel lt0) (trodAll_cons_mk (Below.trod laidOut (by kernel_rfl) (of_decide_eq_true (by kernel_rfl)) k1 bel lt1) (trodAll_cons_mk (Below.trod laidOut (by kernel_rfl) (of_decide_eq_true (by kernel_rfl)) k2 bel lt2) trodAll_mk0))), rfl, bel.frame _, fun h => by cases h⟩

theorem over : Rows.confPlainRow.holds Try.pinned (OpenSpec.ofChange Rows.confPlainSpec) :=
  OpenClaim.holds_of_wide 4 Try.f4 rfl rfl rfl rfl rfl rfl rfl ⟨rfl, rfl, rfl, rfl, rfl⟩ rfl rfl rfl rfl rfl (by kernel_rfl) Try.func4 (by kernel_rfl)
    (of_decide_eq_true (by kernel_rfl)) (by unfold Func.isWrapper; first | (rw [if_pos (by decide +kernel)]; kernel_rfl) | (rw [if_neg (by decide +kernel)]; exact ⟨rfl, rfl⟩))
    (fun os started H enc _ => lifted os started H enc)

theorem proved : Rows.ConfPlainSaid := over
#print axioms proved
end Go.Proofs.Ythkeefdapnkgeaa.confPlain
