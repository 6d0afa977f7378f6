/-
  KeyBack answers true of any two numbers, and writes nothing that was there: the tied card. No condition but the card's own: the library's variables lie as the program's text lays them.
-/
import Derived.Test.YthkfijgdopjjjaaDoorRows
import Derived.Test.YthkfijgdopjjjaaDoorCards
import Derived.Test.YthkfijgdopjjjaaDoorTie
import Derived.SevenTiedAt
import Derived.Stop.Joined
import Derived.Test.YthkfijgdopjjjaaDoorKeyQuiet
import Derived.WalkKit
import Derived.ProofKit
import Derived.OpenShut
import Derived.ShutString
import Derived.ChangeOld
import Derived.Below
namespace Go.Proofs.YthkfijgdopjjjaaDoor.keyBack
open Go.ChangeShapes Go.WideShapes Go.ChangeAt Go.RowKit
open Go.ChangeMaps (open_string shut_string)
set_option linter.unusedVariables false

theorem own : ownKnob Tryd.prog.godebug = none := by kernel_rfl
theorem laidOut : laidOutB Tryd.prog = true := by kernel_rfl

set_option maxHeartbeats 1000000 in
set_option maxRecDepth 100000 in
theorem walk (a0 : Int) (a1 : Int) (w : World) (hv : Vars w) (w0 : (Lit.int .i64 a0).wf = true) (w1 : (Lit.int .i64 a1).wf = true) :
    Calls Tryd.prog 7 #[.int .i64 a0, .int .i64 a1] w fun e w' => e = .returned (.bool true) ∧ Below w.heap.size w w' := by
  have HV := Lib.hid hv
  clear hv w0 w1
  have HC := Lib.hid fun W => count_any a0 a1 W
  cases hz : sizedB a0 a1 with
  | false =>
    have hall := fun W => all_none a0 a1 hz W
    rw [hz] at HC
    have HCC := Lib.hid fun W => HC.out W
    clear HC hz
    go_enter Tryd.func7, Tryd.ntmps7
    go_wp2_with fail
    refine (hall _).mono ?_
    rintro e w1 ⟨p, c, rfl, hk, hb⟩
    have HB := Lib.hid hb
    clear hk hb hall
    go_wp2_with fail
    refine wp_loop_rounds 1 ?_
    rw [rounds_succ]
    go_wp2_with fail
    refine (HCC.out _).mono ?_
    rintro e w' ⟨rfl, rfl⟩
    go_wp2_with fail
    refine (works_any _ (HV.out.later HB.out)).mono ?_
    rintro e wZ ⟨rfl, h⟩
    have HZ := Lib.hid (HB.out.trans (h.mono HB.out.size))
    clear h
    go_wp2_with fail
    go_ret
    exact ⟨rfl, HZ.out⟩
  | true =>
    rw [hz] at HC
    simp only [sizedB, Bool.and_eq_true, decide_eq_true_eq] at hz
    obtain ⟨s, rfl⟩ : ∃ s : Nat, a0 = s := ⟨a0.toNat, by omega⟩
    obtain ⟨t, rfl⟩ : ∃ t : Nat, a1 = t := ⟨a1.toNat, by omega⟩
    have hall := fun W => all_some s t (by omega) (by omega) W
    obtain ⟨hcl, hck⟩ := chk s t (by omega) (by omega)
    have HCK := Lib.hid hck
    have HPL := Lib.hid fun (k : K) (hk : Kok k) W => place_any s t k.1 k.2.1 k.2.2 hk.1 hk.2.1 hk.2.2 W
    have HGD := Lib.hid fun (k : K) (hk : Kok k) W => good_any s t k.1 k.2.1 k.2.2 hk.2.1 hk.2.2 W
    have hl80 : (allQ (s : Int) t 5).length ≤ 80 := by have := (below_bounds s t (by omega) (by omega) (by omega) (by omega) 5).2; omega
    rw [if_pos rfl, ← hcl] at HC
    have HCC := Lib.hid fun W => HC.out W
    clear hck HC hz hcl
    generalize hL : allQ (s : Int) t 5 = L at *
    clear hL
    generalize hn : L.length = n at *
    have HN := Lib.hid hn
    clear hn
    go_enter Tryd.func7, Tryd.ntmps7
    go_wp2_with fail
    refine (hall _).mono ?_
    rintro e w1 ⟨p, c, rfl, hk, hb⟩
    rw [HN.out] at hk ⊢
    have HB := Lib.hid hb
    have HK := Lib.hid hk
    clear hk hb hall
    go_wp2_with fail
    go_loopw [6] (fun i wr => ∃ j : Nat, j ≤ n ∧ i = .int .i64 j ∧ Hid (Below w.heap.size w wr) ∧ Hid (KL wr p n c L)) (fun i _ => n - (intOf i).toNat)
    case atStart => exact ⟨0, Nat.zero_le _, rfl, HB, HK⟩
    case round =>
      clear HB HK
      obtain ⟨j, hj, rfl, HB, HK⟩ := hrel
      by_cases hlt : j < n
      · have hlt' : (j : Int) < n := by omega
        have hn80 : (n : Int) ≤ 80 := by omega
        obtain ⟨b, off, rfl, hcell⟩ := HK.out.cell (by omega)
        obtain ⟨c0, c1, c2⟩ := hcell j hlt
        obtain ⟨hgd, hpl, hcn⟩ := HCK.out j hlt
        clear hcell
        generalize L.getD j (0, 0, 0) = k at *
        have HT := Lib.hid fun W hv => text_any k hcn.kok W hv
        have hpt := parse_text k hcn
        have HP := Lib.hid fun W hv => parse_any (textL k) (by have := text_len k; omega) W hv
        rw [hpt] at HP
        have HPL2 := Lib.hid fun W => HPL.out k hcn.kok W
        have HGD2 := Lib.hid fun W => HGD.out k hcn.kok W
        rw [hgd] at HPL2 HGD2
        have hpl' : placeI s t (k.1, k.2.1, k.2.2) = j := hpl
        rw [if_pos rfl, hpl'] at HPL2
        have hkv : kv ((some k : Option K).getD (0, 0, 0)) = .agg #[.int .u8 k.1, .int .u8 k.2.1, .int .u8 k.2.2] := rfl
        rw [hkv] at HP
        clear hpt hgd hpl hpl' hcn hkv
        generalize (⟨(textL k).toArray⟩ : ByteArray) = tx at *
        go_wp2_with fail
        refine (HT.out _ (HV.out.later HB.out)).mono ?_
        rintro e w2 ⟨rfl, h2⟩
        have HB2 := Lib.hid (HB.out.trans (h2.below.mono HB.out.size))
        have HK2 := Lib.hid (HK.out.later h2.below)
        have d0 := (h2.below.cell (p := ⟨b, off + j * 3, none⟩) (World.block_lt_of_cell? _ _ c0)).trans c0
        have d1 := (h2.below.cell (p := ⟨b, off + j * 3 + 1, none⟩) (World.block_lt_of_cell? _ _ c1)).trans c1
        have d2 := (h2.below.cell (p := ⟨b, off + j * 3 + 2, none⟩) (World.block_lt_of_cell? _ _ c2)).trans c2
        clear h2 c0 c1 c2 HT HB HK
        go_wp2_with fail
        refine (HP.out _ (HV.out.later HB2.out)).mono ?_
        rintro e w3 ⟨rfl, h3⟩
        have HB3 := Lib.hid (HB2.out.trans (h3.mono HB2.out.size))
        have HK3 := Lib.hid (HK2.out.later h3)
        have e0 := (h3.cell (p := ⟨b, off + j * 3, none⟩) (World.block_lt_of_cell? _ _ d0)).trans d0
        have e1 := (h3.cell (p := ⟨b, off + j * 3 + 1, none⟩) (World.block_lt_of_cell? _ _ d1)).trans d1
        have e2 := (h3.cell (p := ⟨b, off + j * 3 + 2, none⟩) (World.block_lt_of_cell? _ _ d2)).trans d2
        have hbl := World.block_lt_of_cell? _ _ e0
        clear h3 d0 d1 d2 HP HB2 HK2
        have HB4 := Lib.hid (HB3.out.alloc HB3.out.size (.cells #[.int .u8 k.1, .int .u8 k.2.1, .int .u8 k.2.2] 23))
        have HK4 := Lib.hid (HK3.out.later ((Below.refl _ _).alloc (Nat.le_refl _) (.cells #[.int .u8 k.1, .int .u8 k.2.1, .int .u8 k.2.2] 23)))
        have HX4 : Hid ((w3.alloc (.cells #[.int .u8 k.1, .int .u8 k.2.1, .int .u8 k.2.2] 23)).heap[w3.heap.size]? = some (.cells #[.int .u8 k.1, .int .u8 k.2.1, .int .u8 k.2.2] 23 (0, 0))) := Lib.hid (alloc_block _ _)
        have f0 := ((((Below.refl _ _).alloc (Nat.le_refl _) (.cells #[.int .u8 k.1, .int .u8 k.2.1, .int .u8 k.2.2] 23)) : Below w3.heap.size w3 _).cell (p := ⟨b, off + j * 3, none⟩) hbl).trans e0
        have f1 := ((((Below.refl _ _).alloc (Nat.le_refl _) (.cells #[.int .u8 k.1, .int .u8 k.2.1, .int .u8 k.2.2] 23)) : Below w3.heap.size w3 _).cell (p := ⟨b, off + j * 3 + 1, none⟩) hbl).trans e1
        have f2 := ((((Below.refl _ _).alloc (Nat.le_refl _) (.cells #[.int .u8 k.1, .int .u8 k.2.1, .int .u8 k.2.2] 23)) : Below w3.heap.size w3 _).cell (p := ⟨b, off + j * 3 + 2, none⟩) hbl).trans e2
        go_wp2_with fail
        refine (HPL2.out _).mono ?_
        rintro e w5 ⟨rfl, h5⟩
        have HB5 := Lib.hid (HB4.out.trans (h5.below.mono HB4.out.size))
        have HK5 := Lib.hid (HK4.out.later h5.below)
        have hX5 := block_later HX4.out h5.below
        generalize w3.heap.size = X at *
        have x0 := block_cell (j := 0) hX5 rfl
        have x1 := block_cell (j := 1) hX5 rfl
        have x2 := block_cell (j := 2) hX5 rfl
        have g0 := (h5.below.cell (p := ⟨b, off + j * 3, none⟩) (World.block_lt_of_cell? _ _ f0)).trans f0
        have g1 := (h5.below.cell (p := ⟨b, off + j * 3 + 1, none⟩) (World.block_lt_of_cell? _ _ f1)).trans f1
        have g2 := (h5.below.cell (p := ⟨b, off + j * 3 + 2, none⟩) (World.block_lt_of_cell? _ _ f2)).trans f2
        have y0 := fun p : After w5 => cell_after p x0
        have y1 := fun p : After w5 => cell_after p x1
        have y2 := fun p : After w5 => cell_after p x2
        have z0 := fun p : After w5 => cell_after p g0
        have z1 := fun p : After w5 => cell_after p g1
        have z2 := fun p : After w5 => cell_after p g2
        have qn := fun W => key_neq k.1 k.2.1 k.2.2 k.1 k.2.1 k.2.2 W
        rw [decide_eq_true rfl] at qn
        clear h5 f0 f1 f2 e0 e1 e2 HX4 HB4 HK4 HB3 HK3 hX5 x0 x1 x2 g0 g1 g2 hbl
        go_wp2_with fail
        refine wp_region_after (by kernel_rfl) (by kernel_rfl) ?_
        repeat (go_big_quiet_step (first | (go_at_call 11; exact calls_after_gr _ (HGD2.out _))))
        refine wpQuiet_nil ?_
        intro _ hw'
        obtain ⟨⟨w6, h6⟩, hw''⟩ := hw'
        subst hw''
        have HB6 := Lib.hid (HB5.out.trans (h6.mono HB5.out.size))
        have HK6 := Lib.hid (HK5.out.later h6)
        clear h6 y0 y1 y2 z0 z1 z2 qn
        go_wp2_with fail
        go_roundw
        case rel => exact ⟨j + 1, by omega, by go_num, HB6, HK6⟩
        case measure => simp [intOf]; omega
      · obtain rfl : j = n := by omega
        go_wp2_with fail
        refine (HCC.out _).mono ?_
        rintro e w' ⟨rfl, rfl⟩
        go_wp2_with fail
        refine (works_any _ (HV.out.later HB.out)).mono ?_
        rintro e wZ ⟨rfl, h⟩
        have HZ := Lib.hid (HB.out.trans (h.mono HB.out.size))
        clear h
        go_wp2_with fail
        go_ret
        exact ⟨rfl, HZ.out⟩

set_option maxRecDepth 100000 in
theorem lifted (os : Os) (started : os.Started) (H : Type) (enc : TypeId × Value → H) :
    ReturnsInHanded {} Tryd.checked os 7 .any (fun w args => (Rows.keyBackSpec.pre enc Tryd.prog Tryd.f7 [] false w args ∧ laidMetH Tryd.prog Rows.keyBackRow.laid w) ∧ sizedMet enc Tryd.prog Tryd.f7 (OpenSpec.ofChange Rows.keyBackSpec) false w args) (Rows.keyBackSpec.post enc Tryd.prog Tryd.f7 false true false false) := by
  refine returnsInHanded_of_change_and (C := Tryd.checked) (X := fun w _ => laidMetH Tryd.prog Rows.keyBackRow.laid w) (fun _ _ _ hh h => h.of_heap hh) own started (by kernel_rfl) Tryd.func7
    (ChangeSpec.witness_shaped (enc := enc) (C := Tryd.checked) (os := os) (X := fun w _ => laidMetH Tryd.prog Rows.keyBackRow.laid w) false (World.doorLaid Tryd.prog 400 os) #[.int .i64 0, .int .i64 0] 8 rfl (World.shaped_of_RefB (by kernel_rfl) (by kernel_rfl)) (by kernel_rfl) (by kernel_rfl) (by kernel_rfl) (door_met os _)) ?_
  intro W base args ds gs before hval0 hW _ _ hL _
  have hval : ∀ (j : Nat) t v, Tryd.f7.params[j]? = some t → args[j]? = some v → Value.okWide Tryd.prog W .any base t v := hval0
  have hW' := hW
  obtain ⟨p, q, hA0, hV, rfl, hfz, hnd⟩ := hW
  have hA : DataW.TrodAll enc Tryd.prog W 0 (fun _ => true) true Tryd.f7.params.toList args.toList ds p := hA0
  rw [Tryd.params7] at hA hval
  obtain ⟨v0, vs0, d0, ds0, p0, q0, hargs, rfl, rfl, h0, r0⟩ := trodAll_cons hA
  obtain ⟨v1, vs1, d1, ds1, p1, q1, rfl, rfl, rfl, h1, r1⟩ := trodAll_cons r0
  obtain ⟨rfl, rfl, rfl⟩ := trodAll_nil r1
  obtain rfl : args = #[v0, v1] := by cases args; simp_all
  obtain ⟨rfl, rfl⟩ := trodVars_none hV
  have k0 := h0
  have lt0 : ∀ x ∈ p0, x.block < W.heap.size := by obtain ⟨m, hm⟩ := k0; exact DataW.trod_lt m _ _ _ hm
  obtain ⟨a0, rfl, rfl, rfl, w0⟩ := open_int Tryd.underlying3 (hval 0 3 v0 rfl rfl) h0
  have k1 := h1
  have lt1 : ∀ x ∈ p1, x.block < W.heap.size := by obtain ⟨m, hm⟩ := k1; exact DataW.trod_lt m _ _ _ hm
  obtain ⟨a1, rfl, rfl, rfl, w1⟩ := open_int Tryd.underlying3 (hval 1 3 v1 rfl rfl) h1
  clear hA0 hval0
  refine (walk a0 a1 W (of_laid hL) w0 w1).mono fun e W' ⟨he, bel⟩ => ?_
  subst he
  exact ⟨_, rfl, _, _, _, [], _, [], hW', trodAll_mk1 (shut_bool Tryd.underlying4 _), (trodAll_cons_mk (Below.trod laidOut (by kernel_rfl) (of_decide_eq_true (by kernel_rfl)) k0 bel lt0) (trodAll_cons_mk (Below.trod laidOut (by kernel_rfl) (of_decide_eq_true (by kernel_rfl)) k1 bel lt1) trodAll_mk0)), rfl, bel.frame _, fun h => by cases h⟩

theorem over : Rows.keyBackRow.holds Tryd.pinned (OpenSpec.ofChange Rows.keyBackSpec) :=
  OpenClaim.holds_of_wide 7 Tryd.f7 rfl rfl rfl rfl rfl rfl rfl ⟨rfl, rfl, rfl, rfl, rfl⟩ rfl rfl rfl rfl rfl (by kernel_rfl) Tryd.func7 (by kernel_rfl)
    (of_decide_eq_true (by kernel_rfl)) (by unfold Func.isWrapper; first | (rw [if_pos (by decide +kernel)]; kernel_rfl) | (rw [if_neg (by decide +kernel)]; exact ⟨rfl, rfl⟩))
    (fun os started H enc _ => lifted os started H enc)

theorem proved : Rows.KeyBackCardSaid :=
  Claim7.holds_tied_plain_at .later [] [.data, .data, .data, .sentinel, .sentinel] true (true, "b1d0fd53b19cb1e08d0b4129f2ab4db37302d229c001c238747dfdcafbb347b4") true
    over (fun _ h => by cases h) (by kernel_rfl) (fun _ h => by cases h) keyBack_row_tie rfl ⟨rfl, rfl⟩ (by kernel_rfl) rfl
    (fun f fn hf hfn => by
      obtain rfl : f = 7 := Option.some.inj ((show Tryd.prog.funcNamed "pledge/pledgelaw04.KeyBack" = some 7 by kernel_rfl).symm.trans hf) |>.symm
      obtain rfl : fn = Tryd.f7 := (Option.some.inj (Tryd.func7.symm.trans hfn)).symm
      exact ⟨by kernel_rfl, fun j t ht => by
        rw [Tryd.params7] at ht
        have hm : t ∈ [3, 3] := by simpa using Array.mem_of_getElem? ht
        have hall : ([3, 3].all fun u => !Tryd.prog.wantsStandIn u) = true := by kernel_rfl
        exact (show Tryd.prog.wantsStandIn t = false by simpa using List.all_eq_true.1 hall t hm)⟩)
    (by kernel_rfl)
#print axioms proved
end Go.Proofs.YthkfijgdopjjjaaDoor.keyBack
