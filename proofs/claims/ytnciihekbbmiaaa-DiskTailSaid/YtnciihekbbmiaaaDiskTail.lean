/-
  DiskTail answers true of any acts and any tail, and writes nothing that was there. No condition.
PLAIN4
HEARTS 4000000
-/
import Derived.Test.YtnciihekbbmiaaaRows
import Derived.Test.YtnciihekbbmiaaaDiskOpen
import Derived.Test.YtnciihekbbmiaaaDiskTailMath
import Derived.Test.YtnciihekbbmiaaaHand
import Derived.Deep.RegionHeld3
import Derived.IntWalk
import Derived.WalkKit
import Derived.ProofKit
import Derived.OpenShut
import Derived.ShutString
import Derived.ChangeOld
import Derived.Below
namespace Go.Proofs.Ytnciihekbbmiaaa.diskTail
open Go.ChangeShapes Go.WideShapes Go.ChangeAt Go.RowKit
open Go.ChangeMaps (open_string shut_string)
set_option linter.unusedVariables false

theorem own : ownKnob Try.prog.godebug = none := by kernel_rfl
theorem laidOut : laidOutB Try.prog = true := by kernel_rfl

set_option maxHeartbeats 4000000 in
set_option maxRecDepth 100000 in
theorem walk (a0 : Option Addr) (len0 cap0 : Nat) (L0 : List Ac) (a1 : Array Value) (w : World) (w0 : AL w a0 len0 cap0 L0 ∧ ∀ y ∈ L0, AnyA y) (w1 : TailIn w a1) :
    Calls Try.prog 6 #[.slice a0 len0 cap0, .agg a1] w fun e w' => e = .returned (.bool true) ∧ Below w.heap.size w w' := by
  obtain ⟨hA, _⟩ := w0
  obtain ⟨pa, na, ca, LA, pb, nb, cb, LB, kk, tt, rfl, hba, hbb, hk256, ht256⟩ := w1
  have hb0 : Below w.heap.size w (w.alloc (.cells #[.slice pa na ca, .slice pb nb cb, .int .u8 (kk : Nat), .int .u8 (tt : Nat)] 56)) := (Below.refl _ _).alloc (Nat.le_refl _) _
  have hX := alloc_block w (.cells #[.slice pa na ca, .slice pb nb cb, .int .u8 (kk : Nat), .int .u8 (tt : Nat)] 56)
  have HA := Lib.hid (hA.later hb0)
  have HBA := Lib.hid (SlG.later hba hb0)
  have HBB := Lib.hid (SlG.later hbb hb0)
  have HB0 := Lib.hid hb0
  have x0 := block_cell (j := 0) hX (v := .slice pa na ca) rfl
  have x1 := block_cell (j := 1) hX (v := .slice pb nb cb) rfl
  have x2 := block_cell (j := 2) hX (v := .int .u8 (kk : Nat)) rfl
  have x3 := block_cell (j := 3) hX (v := .int .u8 (tt : Nat)) rfl
  clear hA hba hbb hb0
  go_enter Try.func6, Try.ntmps6
  go_wp2_with fail
  obtain ⟨X, hXX⟩ : ∃ X, w.heap.size = X := ⟨_, rfl⟩
  have HXX := Lib.hid hXX
  rw [hXX] at hX x0 x1 x2 x3 ⊢
  generalize hW0 : w.alloc (.cells #[.slice pa na ca, .slice pb nb cb, .int .u8 (kk : Nat), .int .u8 (tt : Nat)] 56) = W0 at *
  have HX := Lib.hid hX
  clear hW0 hX hXX
  have q0 := World.new_ne W0 _ x0
  have q1 := World.new_ne W0 _ x1
  have q2 := World.new_ne W0 _ x2
  have q3 := World.new_ne W0 _ x3
  go_region_held3 (fun w' => w'.cell? ⟨X, 0, none⟩ = some (.slice pa na ca) ∧ w'.cell? ⟨X, 1, none⟩ = some (.slice pb nb cb) ∧ w'.cell? ⟨X, 2, none⟩ = some (.int .u8 (kk : Nat)) ∧ w'.cell? ⟨X, 3, none⟩ = some (.int .u8 (tt : Nat))) (first | exact ⟨x0, x1, x2, x3⟩ | go_keep) (fail)
  have tb : (((W0.alloc (.cells #[.int .u8 0, .int .i64 0, .int .i64 0, .int .i64 0, .slice pa na ca] 41)).alloc (.cells #[.int .u8 0, .int .i64 0, .int .i64 0, .int .i64 0, .slice pb nb cb] 41)).drew).heap[W0.heap.size]? = some (.cells #[.int .u8 0, .int .i64 0, .int .i64 0, .int .i64 0, .slice pa na ca] 41 (0, 0)) ∧ (((W0.alloc (.cells #[.int .u8 0, .int .i64 0, .int .i64 0, .int .i64 0, .slice pa na ca] 41)).alloc (.cells #[.int .u8 0, .int .i64 0, .int .i64 0, .int .i64 0, .slice pb nb cb] 41)).drew).heap[W0.heap.size + 1]? = some (.cells #[.int .u8 0, .int .i64 0, .int .i64 0, .int .i64 0, .slice pb nb cb] 41 (0, 0)) ∧ Below W0.heap.size W0 (((W0.alloc (.cells #[.int .u8 0, .int .i64 0, .int .i64 0, .int .i64 0, .slice pa na ca] 41)).alloc (.cells #[.int .u8 0, .int .i64 0, .int .i64 0, .int .i64 0, .slice pb nb cb] 41)).drew) := ⟨(two_boxes W0 #[.int .u8 0, .int .i64 0, .int .i64 0, .int .i64 0, .slice pa na ca] #[.int .u8 0, .int .i64 0, .int .i64 0, .int .i64 0, .slice pb nb cb] _ _).1, (two_boxes W0 #[.int .u8 0, .int .i64 0, .int .i64 0, .int .i64 0, .slice pa na ca] #[.int .u8 0, .int .i64 0, .int .i64 0, .int .i64 0, .slice pb nb cb] _ _).2.1, (two_boxes W0 #[.int .u8 0, .int .i64 0, .int .i64 0, .int .i64 0, .slice pa na ca] #[.int .u8 0, .int .i64 0, .int .i64 0, .int .i64 0, .slice pb nb cb] _ _).2.2.drew⟩
  obtain ⟨h5, h6, hb1⟩ := tb
  generalize (((W0.alloc (.cells #[.int .u8 0, .int .i64 0, .int .i64 0, .int .i64 0, .slice pa na ca] 41)).alloc (.cells #[.int .u8 0, .int .i64 0, .int .i64 0, .int .i64 0, .slice pb nb cb] 41)).drew) = W1 at *
  have HB1 := Lib.hid hb1
  clear hb1 x0 x1 x2 x3 q0 q1 q2 q3
  obtain ⟨P6, hP6⟩ : ∃ P, W0.heap.size + 1 = P := ⟨_, rfl⟩
  obtain ⟨P5, hP5⟩ : ∃ P, W0.heap.size = P := ⟨_, rfl⟩
  rw [hP6] at h6 ⊢
  rw [hP5] at h5 ⊢
  have H5 := Lib.hid h5
  have H6 := Lib.hid h6
  clear h5 h6 hP5 hP6
  rotate_left
  have tb : (((W0.alloc (.cells #[.int .u8 0, .int .i64 0, .int .i64 0, .int .i64 0, .slice pb nb cb] 41)).alloc (.cells #[.int .u8 0, .int .i64 0, .int .i64 0, .int .i64 0, .slice pa na ca] 41)).drew).heap[W0.heap.size]? = some (.cells #[.int .u8 0, .int .i64 0, .int .i64 0, .int .i64 0, .slice pb nb cb] 41 (0, 0)) ∧ (((W0.alloc (.cells #[.int .u8 0, .int .i64 0, .int .i64 0, .int .i64 0, .slice pb nb cb] 41)).alloc (.cells #[.int .u8 0, .int .i64 0, .int .i64 0, .int .i64 0, .slice pa na ca] 41)).drew).heap[W0.heap.size + 1]? = some (.cells #[.int .u8 0, .int .i64 0, .int .i64 0, .int .i64 0, .slice pa na ca] 41 (0, 0)) ∧ Below W0.heap.size W0 (((W0.alloc (.cells #[.int .u8 0, .int .i64 0, .int .i64 0, .int .i64 0, .slice pb nb cb] 41)).alloc (.cells #[.int .u8 0, .int .i64 0, .int .i64 0, .int .i64 0, .slice pa na ca] 41)).drew) := ⟨(two_boxes W0 #[.int .u8 0, .int .i64 0, .int .i64 0, .int .i64 0, .slice pb nb cb] #[.int .u8 0, .int .i64 0, .int .i64 0, .int .i64 0, .slice pa na ca] _ _).1, (two_boxes W0 #[.int .u8 0, .int .i64 0, .int .i64 0, .int .i64 0, .slice pb nb cb] #[.int .u8 0, .int .i64 0, .int .i64 0, .int .i64 0, .slice pa na ca] _ _).2.1, (two_boxes W0 #[.int .u8 0, .int .i64 0, .int .i64 0, .int .i64 0, .slice pb nb cb] #[.int .u8 0, .int .i64 0, .int .i64 0, .int .i64 0, .slice pa na ca] _ _).2.2.drew⟩
  obtain ⟨h6, h5, hb1⟩ := tb
  generalize (((W0.alloc (.cells #[.int .u8 0, .int .i64 0, .int .i64 0, .int .i64 0, .slice pb nb cb] 41)).alloc (.cells #[.int .u8 0, .int .i64 0, .int .i64 0, .int .i64 0, .slice pa na ca] 41)).drew) = W1 at *
  have HB1 := Lib.hid hb1
  clear hb1 x0 x1 x2 x3 q0 q1 q2 q3
  obtain ⟨P5, hP6⟩ : ∃ P, W0.heap.size + 1 = P := ⟨_, rfl⟩
  obtain ⟨P6, hP5⟩ : ∃ P, W0.heap.size = P := ⟨_, rfl⟩
  rw [hP6] at h5 ⊢
  rw [hP5] at h6 ⊢
  have H5 := Lib.hid h5
  have H6 := Lib.hid h6
  clear h5 h6 hP5 hP6
  all_goals
    have HAC : Hid (∀ w2, Below W1.heap.size W1 w2 → (w2.cell? ⟨P5, 0, none⟩ = some (.int .u8 0) ∧ w2.cell? ⟨P5, 1, none⟩ = some (.int .i64 0) ∧ w2.cell? ⟨P5, 2, none⟩ = some (.int .i64 0) ∧ w2.cell? ⟨P5, 3, none⟩ = some (.int .i64 0) ∧ w2.cell? ⟨P5, 4, none⟩ = some (.slice pa na ca)) ∧
      (w2.cell? ⟨P6, 0, none⟩ = some (.int .u8 0) ∧ w2.cell? ⟨P6, 1, none⟩ = some (.int .i64 0) ∧ w2.cell? ⟨P6, 2, none⟩ = some (.int .i64 0) ∧ w2.cell? ⟨P6, 3, none⟩ = some (.int .i64 0) ∧ w2.cell? ⟨P6, 4, none⟩ = some (.slice pb nb cb))) := Lib.hid fun w2 hb => by
      have g5 := block_later H5.out hb
      have g6 := block_later H6.out hb
      exact ⟨⟨block_cell g5 rfl, block_cell g5 rfl, block_cell g5 rfl, block_cell g5 rfl, block_cell g5 rfl⟩, ⟨block_cell g6 rfl, block_cell g6 rfl, block_cell g6 rfl, block_cell g6 rfl, block_cell g6 rfl⟩⟩
    have HA1 := Lib.hid (HA.out.later HB1.out)
    have HBA1 := Lib.hid (SlG.later HBA.out HB1.out)
    have HBB1 := Lib.hid (SlG.later HBB.out HB1.out)
    have HB01 := Lib.hid (HB0.out.trans (HB1.out.mono HB0.out.size))
    have hf := few_any a0 len0 cap0 L0 _ HA1.out
    clear H5 H6 HB0 HA HBA HBB HX HXX
    go_wp2_with fail
    refine hf.mono ?_
    rintro e W1' ⟨⟨tf, rfl, hlen⟩, rfl⟩
    cases tf with
    | false =>
      go_wp2_with fail
      refine (disk_works _).mono ?_
      rintro e W3 ⟨rfl, hb3⟩
      have HB3 := Lib.hid (HB01.out.trans (hb3.mono HB01.out.size))
      clear hb3
      go_wp2_with fail
      go_ret
      exact ⟨rfl, HB3.out⟩
    | true =>
      obtain ⟨hl40, hm3⟩ := hlen rfl
      have HM3 := Lib.hid hm3
      obtain ⟨htwo, hb2⟩ := two_acts W1' ⟨0, 0, 0, 0, pa, na, ca, LA⟩ ⟨0, 0, 0, 0, pb, nb, cb, LB⟩ ⟨HBA1.out, by show 0 < 256; omega⟩ ⟨HBB1.out, by show 0 < 256; omega⟩
      have hf2 := few_any (some ⟨W1'.heap.size, 0, none⟩) 2 2 [⟨0, 0, 0, 0, pa, na, ca, LA⟩, ⟨0, 0, 0, 0, pb, nb, cb, LB⟩] _ htwo
      have HA2 := Lib.hid (HA1.out.later hb2)
      have HBA2 := Lib.hid (SlG.later HBA1.out hb2)
      have HBB2 := Lib.hid (SlG.later HBB1.out hb2)
      have HB2 := Lib.hid hb2
      obtain ⟨⟨y0, y1, y2, y3, y4⟩, ⟨z0, z1, z2, z3, z4⟩⟩ := HAC.out W1' (Below.refl _ _)
      clear hf hlen hm3 htwo hb2
      simp only [ac, List.cons_append, List.nil_append, Int.natCast_zero] at HA2 HBA2 HBB2 HB2 hf2
      go_wp2_with fail
      generalize hW2 : W1'.alloc (.cells #[.int .u8 0, .int .i64 0, .int .i64 0, .int .i64 0, .slice pa na ca, .int .u8 0, .int .i64 0, .int .i64 0, .int .i64 0, .slice pb nb cb] 41) = W2 at *
      clear hW2 y0 y1 y2 y3 y4 z0 z1 z2 z3 z4
      refine hf2.mono ?_
      rintro e W2' ⟨⟨tf2, rfl, hlen2⟩, rfl⟩
      have HB012 := Lib.hid (HB01.out.trans (HB2.out.mono HB01.out.size))
      cases tf2 with
      | false =>
        go_wp2_with fail
        refine (disk_works _).mono ?_
        rintro e W3 ⟨rfl, hb3⟩
        have HB3 := Lib.hid (HB012.out.trans (hb3.mono HB012.out.size))
        clear hb3
        go_wp2_with fail
        go_ret
        exact ⟨rfl, HB3.out⟩
      | true =>
        have hna : na ≤ 300 := (hlen2 rfl).2 0 (by omega)
        have hnb : nb ≤ 300 := (hlen2 rfl).2 1 (by omega)
        have hp := played_any a0 len0 cap0 L0 W2' HA2.out hl40 HM3.out
        clear hf2 hlen2
        go_wp2_with fail
        refine hp.mono ?_
        rintro e W3 ⟨B0, d, col3, rfl, hd3, hh3, htot, hL, hlk⟩
        have hz := hd3.z_in
        have htot1 := sync_tot d (by omega)
        have hsy := disk_sync hd3 (by omega) (by omega)
        have hsL : d.sync.L = [] := rfl
        have htt : d.sync.tot ≤ 12000 := by omega
        have hbw : bytesT d.sync.z d.sync.sT 0 = d.sync.sT.B := bytesT_all _ _
        have hsl : d.sync.sT.len d.sync.z ≤ 12000 := by
          have h1 := d.sT_len (by omega)
          show d.sT.len d.z ≤ 12000
          omega
        have HHH := Lib.hid hh3
        clear hp hd3 hh3 htot hL hlk hz htot1
        generalize d.sync = d1 at *
        have HLL := Lib.hid hsL
        have HTT := Lib.hid htt
        have HSL := Lib.hid hsl
        obtain ⟨BW, hBW⟩ : ∃ BW, d1.sT.B = BW := ⟨_, rfl⟩
        rw [hBW] at hbw
        have HBW := Lib.hid hBW
        have HBY := Lib.hid hbw
        obtain ⟨nW, hnW⟩ : ∃ nW, BW.length = nW := ⟨_, rfl⟩
        have hnW2 : nW ≤ 12000 := by have : d1.sT.len d1.z = d1.sT.f * d1.z + d1.sT.B.length := rfl; rw [hBW, hnW] at this; omega
        have HNW := Lib.hid hnW
        have HLA : Hid (LA.length = na) := Lib.hid HBA2.out.len
        have HLB : Hid (LB.length = nb) := Lib.hid HBB2.out.len
        clear hsL htt hsl hBW hbw hnW
        go_wp2_with fail
        refine hsy.mono ?_
        rintro e W4 ⟨rfl, ht4⟩
        obtain ⟨col4, _, hd4, hh4, _⟩ := HHH.out.act ht4 (by omega)
        have hby := disk_bytes hd4 (by have := HSL.out; omega) 0
        rw [HBY.out] at hby
        have HD4 := Lib.hid hd4
        have HH4 := Lib.hid hh4
        clear hsy ht4 hd4 hh4 HHH
        go_wp2_with fail
        refine hby.mono ?_
        rintro e W5 ⟨pW, cW, rfl, hblW, hb5, _⟩
        obtain ⟨sw, hsw⟩ : ∃ sw, strOfNums BW = sw := ⟨_, rfl⟩
        have hcv := conv_bl hblW
        rw [hsw] at hcv
        have HSW := Lib.hid hsw
        have hszw : sw.size = nW := by rw [← hsw, str_size]; exact HNW.out
        rw [HNW.out] at hcv hblW ⊢
        have HD5 := Lib.hid (HD4.out.later hb5)
        have HH5 := Lib.hid (HH4.out.later hb5)
        have hw5 : Below W1'.heap.size W1' W5 := HB2.out.trans (HH5.out.below.mono HB2.out.size)
        obtain ⟨⟨r50, r51, r52, r53, r54⟩, ⟨r60, r61, r62, r63, r64⟩⟩ := HAC.out W5 hw5
        have hap := disk_append HD5.out (by have := HTT.out; omega) (by rw [HLL.out]; show 0 < 1000000; omega) pa na ca LA (SlG.later HBA2.out HH5.out.below) (HH5.out.free HBA2.out (by omega))
        clear hby hblW hb5 hw5 hsw HD4 HH4
        generalize hE1 : d1.addE LA = e1 at *
        have HE1 := Lib.hid hE1
        clear hE1
        go_wp2_with fail
        refine hap.mono ?_
        rintro e W6 ⟨rfl, ht6⟩
        obtain ⟨col6, _, hd6, hh6, _⟩ := HH5.out.act ht6 (by omega)
        have HD6 := Lib.hid hd6
        have HH6 := Lib.hid hh6
        clear hap ht6 hd6 hh6 hcv r50 r51 r52 r53 r54 r60 r61 r62 r63 r64 HD5 HH5
        by_cases he1 : e1 = 0
        · subst he1
          have hp1 : d1.app LA = d1.add (.grow LA) := app_in HE1.out
          rw [hp1] at HD6
          have hw6 : Below W1'.heap.size W1' W6 := HB2.out.trans (HH6.out.below.mono HB2.out.size)
          obtain ⟨⟨r50, r51, r52, r53, r54⟩, ⟨r60, r61, r62, r63, r64⟩⟩ := HAC.out W6 hw6
          have HT2 : Hid ((d1.add (.grow LA)).tot ≤ 12300) := Lib.hid (by rw [add_tot]; have := HTT.out; have := HLA.out; simp only [Dw.wt]; omega)
          have HL2 : Hid ((d1.add (.grow LA)).L.length = 1) := Lib.hid (by show (d1.L ++ [_]).length = 1; rw [HLL.out]; rfl)
          have hap := disk_append HD6.out (by have := HT2.out; omega) (by rw [HL2.out]; omega) pb nb cb LB (SlG.later HBB2.out HH6.out.below) (HH6.out.free HBB2.out (by omega))
          clear hp1 hw6
          generalize hE2 : (d1.add (.grow LA)).addE LB = e2 at *
          have HE2 := Lib.hid hE2
          clear hE2
          go_wp2_with fail
          refine hap.mono ?_
          rintro e W8 ⟨rfl, ht8⟩
          obtain ⟨col8, _, hd8, hh8, _⟩ := HH6.out.act ht8 (by omega)
          have HD8 := Lib.hid hd8
          have HH8 := Lib.hid hh8
          clear hap ht8 hd8 hh8 r50 r51 r52 r53 r54 r60 r61 r62 r63 r64 HD6 HH6
          by_cases he2 : e2 = 0
          · subst he2
            have hp2 : (d1.add (.grow LA)).app LB = (d1.add (.grow LA)).add (.grow LB) := app_in HE2.out
            rw [hp2] at HD8
            have HT3 : Hid (((d1.add (.grow LA)).add (.grow LB)).tot ≤ 12600) := Lib.hid (by rw [add_tot]; have := HT2.out; have := HLB.out; simp only [Dw.wt]; omega)
            have HL3 : Hid (((d1.add (.grow LA)).add (.grow LB)).L.length = 2) := Lib.hid (by show (d1.L ++ [_] ++ [_]).length = 2; rw [HLL.out]; rfl)
            have HZ3 : Hid (((d1.add (.grow LA)).add (.grow LB)).z = d1.z) := Lib.hid rfl
            have h3 := HD8
            have HW8 : Hid (Below W1'.heap.size W1' W8) := Lib.hid (HB2.out.trans (HH8.out.below.mono HB2.out.size))
            have HD3 : Hid ((d1.add (.grow LA)).add (.grow LB) = (d1.add (.grow LA)).add (.grow LB)) := Lib.hid rfl
            clear hp2 HE1 HE2 HD8
            obtain ⟨d3, hd3⟩ : ∃ d3, (d1.add (.grow LA)).add (.grow LB) = d3 := ⟨_, rfl⟩
            replace HD3 : Hid ((d1.add (.grow LA)).add (.grow LB) = d3) := Lib.hid hd3
            rw [hd3] at HT3 HL3 HZ3 h3
            clear hd3
            obtain ⟨r, hr⟩ : ∃ r, kk % 3 = r := ⟨_, rfl⟩
            have hr4 : (kk : Int) % 3 = (r : Int) := by omega
            have hr5 : (kk : Int).tmod 3 = (r : Int) := by rw [Int.tmod_eq_emod_of_nonneg (by omega)]; exact hr4
            have hr3 : r < 3 := by omega
            have hr6 : IntKind.u8.wrap (r : Int) = (r : Int) := by rw [IntKind.wrap_u8]; omega
            have ht6 : IntKind.i64.wrap (tt : Int) = (tt : Int) := IntWalk.i64_in _ (by omega)
            clear hr
            rcases (show r = 0 ∨ r = 1 ∨ r = 2 by omega) with rfl | rfl | rfl
            · skip
              have hmath := tail_zero d1 HLL.out LA LB tt
              have hcut := cut_zero BW LA LB (min tt LA.length) (Nat.min_le_right _ _)
              rw [HBW.out] at hmath
              rw [← hcut] at hmath
              obtain ⟨m, hm⟩ : ∃ m, min tt na = m := ⟨_, rfl⟩
              have k1 : (if (na : Int) < (tt : Int) then (na : Int) else (tt : Int)) = (m : Int) := by rw [← hm]; split <;> omega
              have k1n : (if na < tt then (na : Int) else (tt : Int)) = (m : Int) := by rw [← hm]; split <;> omega
              have k2 : min (tt : Int) (na : Int) = (m : Int) := by rw [← hm]; omega
              obtain ⟨N, hN⟩ : ∃ N, nW + m = N := ⟨_, rfl⟩
              have k3 : (nW : Int) + (m : Int) = (N : Int) := by omega
              have k4 : IntKind.i64.wrap (N : Int) = (N : Int) := IntWalk.i64_in _ (by omega)
              have hNW : BW.length + min tt LA.length = N := by rw [HNW.out, HLA.out]; omega
              rw [hNW] at hmath
              have hcr := disk_crash h3.out (by have := HT3.out; omega) (by rw [HL3.out]; omega) 0 (tt : Nat)
              have HMATH := Lib.hid hmath
              have HT4 : Hid ((d3.crash 0 (tt : Nat)).tot ≤ 12600) := Lib.hid (Nat.le_trans (crash_tot d3 0 (tt : Nat) (by have := h3.out.z_in; omega)) HT3.out)
              have HZ4 : Hid ((d3.crash 0 (tt : Nat)).z = d1.z) := Lib.hid HZ3.out
              rw [HD3.out] at HMATH
              obtain ⟨q5, q6⟩ := HAC.out W8 HW8.out
              obtain ⟨q50, q51, q52, q53, q54⟩ := q5
              obtain ⟨q60, q61, q62, q63, q64⟩ := q6
              have HNN := Lib.hid hN
              clear hmath hcut hNW hN hm
              generalize d3.crash 0 (tt : Nat) = d4 at *
              go_wp2_with fail
              refine hcr.mono ?_
              rintro e W9 ⟨rfl, ht9⟩
              obtain ⟨col9, _, hd9, hh9, _⟩ := HH8.out.act ht9 (by omega)
              have HD9 := Lib.hid hd9
              have HH9 := Lib.hid hh9
              have hw9 : Below W1'.heap.size W1' W9 := HB2.out.trans (hh9.below.mono HB2.out.size)
              have HW9 := Lib.hid hw9
              obtain ⟨⟨r50, r51, r52, r53, r54⟩, ⟨r60, r61, r62, r63, r64⟩⟩ := HAC.out W9 hw9
              clear hcr ht9 hd9 hh9 hw9 q50 q51 q52 q53 q54 q60 q61 q62 q63 q64
              go_wp2_with fail
              have HAB : Hid (∀ w2, Below W9.heap.size W9 w2 → (w2.cell? ⟨P5, 0, none⟩ = some (.int .u8 0) ∧ w2.cell? ⟨P5, 1, none⟩ = some (.int .i64 0) ∧ w2.cell? ⟨P5, 2, none⟩ = some (.int .i64 0) ∧ w2.cell? ⟨P5, 3, none⟩ = some (.int .i64 0) ∧ w2.cell? ⟨P5, 4, none⟩ = some (.slice pa na ca)) ∧ (w2.cell? ⟨P6, 0, none⟩ = some (.int .u8 0) ∧ w2.cell? ⟨P6, 1, none⟩ = some (.int .i64 0) ∧ w2.cell? ⟨P6, 2, none⟩ = some (.int .i64 0) ∧ w2.cell? ⟨P6, 3, none⟩ = some (.int .i64 0) ∧ w2.cell? ⟨P6, 4, none⟩ = some (.slice pb nb cb))) := Lib.hid fun w2 hb => HAC.out w2 (HW9.out.trans (hb.mono HW9.out.size))
              obtain ⟨sA, hsA⟩ : ∃ s, strOfNums LA = s := ⟨_, rfl⟩
              obtain ⟨sB, hsB⟩ : ∃ s, strOfNums LB = s := ⟨_, rfl⟩
              obtain ⟨sWA, hsWA⟩ : ∃ s, strOfNums (BW ++ LA) = s := ⟨_, rfl⟩
              obtain ⟨sWAB, hsWAB⟩ : ∃ s, strOfNums (BW ++ LA ++ LB) = s := ⟨_, rfl⟩
              obtain ⟨sX, hsX⟩ : ∃ s, strOfNums ((BW ++ LA ++ LB).take N) = s := ⟨_, rfl⟩
              have HCA : Hid (∀ w2, Below W9.heap.size W9 w2 → (convert 31 9 (.slice pa na ca)).run Try.prog w2 = .ok (.string sA) w2) := Lib.hid fun w2 hb => by rw [← hsA]; exact conv_bl (SlG.later HBA2.out (HH9.out.below.trans (hb.mono HH9.out.below.size)))
              have HCB : Hid (∀ w2, Below W9.heap.size W9 w2 → (convert 31 9 (.slice pb nb cb)).run Try.prog w2 = .ok (.string sB) w2) := Lib.hid fun w2 hb => by rw [← hsB]; exact conv_bl (SlG.later HBB2.out (HH9.out.below.trans (hb.mono HH9.out.below.size)))
              have CY : Hid (∀ w', Below W9.heap.size W9 w' → Calls Try.prog 23 #[.pointer (some ⟨B0, 0, none⟩), .int .i64 0] w' fun e w'' => ∃ p n c, e = .returned (.slice p n c) ∧ (∀ w3, Below w''.heap.size w'' w3 → (convert 31 9 (.slice p n c)).run Try.prog w3 = .ok (.string sX) w3) ∧ Below W9.heap.size W9 w'' ∧ Below w'.heap.size w' w'') := Lib.hid fun w' hb => (disk_bytes (HD9.out.later hb) (by have := d4.sT_len (by have := HD9.out.z_in; omega); have := HT4.out; omega) 0).mono fun e w'' hh => by
                obtain ⟨p', c', he, hbl, hbw, _⟩ := hh
                rw [HZ4.out, HMATH.out] at he hbl
                exact ⟨p', _, c', he, fun w3 h3 => by rw [← hsX]; exact conv_bl (SlG.later hbl h3), hb.trans (hbw.mono hb.size), hbw⟩
              have CW : Hid (∀ w', Below W9.heap.size W9 w' → Calls Try.prog 9 #[] w' fun e w'' => e = .returned (.bool true) ∧ Below W9.heap.size W9 w'' ∧ Below w'.heap.size w' w'') := Lib.hid fun w' hb => (disk_works w').mono fun e w'' hh => ⟨hh.1, hb.trans (hh.2.mono hb.size), hh.2⟩
              have hz1 : sw.size + sA.size ≤ 9223372036854775807 := by rw [← HSW.out, ← hsA, str_size, str_size, HNW.out, HLA.out]; omega
              have hz2 : sWA.size + sB.size ≤ 9223372036854775807 := by rw [← hsWA, ← hsB, str_size, str_size, List.length_append, HNW.out, HLA.out, HLB.out]; omega
              have hz3 : (N : Int) ≤ (sWAB.size : Int) := by rw [← hsWAB, str_size, List.length_append, List.length_append, HNW.out, HLA.out, HLB.out]; have := HNN.out; omega
              have he1 : sw ++ sA = sWA := by rw [← HSW.out, ← hsA, ← hsWA, str_append]
              have he2 : sWA ++ sB = sWAB := by rw [← hsWA, ← hsB, ← hsWAB, str_append]
              have he3 : sWAB.extract 0 N = sX := by rw [← hsWAB, ← hsX, str_extract, List.drop_zero, Nat.sub_zero]
              clear hszw hsA hsB hsWA hsWAB hsX r50 r51 r52 r53 r54 r60 r61 r62 r63 r64
              have hbd : Below W9.heap.size W9 W9.drew := (Below.refl _ _).drew
              refine wp_region_held_drew (S := fun w' => Hid (Below W9.heap.size W9 w')) (by kernel_rfl) (Lib.hid hbd) (fun hHeld => ?_)
              clear hbd
              refine wpAnyH_take (i := 0) (oi := ⟨some 97, _, _, _, _, _⟩) (v := .pointer (some ⟨B0, 0, none⟩)) rfl (by kernel_rfl) (by kernel_rfl) (by kernel_rfl) (fun _ _ _ h => h) (Or.inl ⟨by rfl, fun w' hw' => ?_⟩) (by assumption) ?_
              · clear hHeld
                go_simp
              simp only [Act.put, List.setIfInBounds_toArray, List.set_cons_zero, List.set_cons_succ]
              refine wpAnyH_take (i := 3) (oi := ⟨some 100, _, _, _, _, _⟩) (v := .string sw) rfl (by kernel_rfl) (by kernel_rfl) (by kernel_rfl) (fun _ _ _ h => h) (Or.inl ⟨by rfl, fun w' hw' => ?_⟩) (by assumption) ?_
              · clear hHeld
                go_simp
              simp only [Act.put, List.setIfInBounds_toArray, List.set_cons_zero, List.set_cons_succ]
              refine wpAnyH_take (i := 4) (oi := ⟨some 101, _, _, _, _, _⟩) (v := .pointer (some ⟨P5, 4, none⟩)) rfl (by kernel_rfl) (by kernel_rfl) (by kernel_rfl) (fun _ _ _ h => h) (Or.inl ⟨by rfl, fun w' hw' => ?_⟩) (by assumption) ?_
              · clear hHeld
                go_simp
              simp only [Act.put, List.setIfInBounds_toArray, List.set_cons_zero, List.set_cons_succ]
              refine wpAnyH_take (i := 5) (oi := ⟨some 102, _, _, _, _, _⟩) (v := .slice pa na ca) rfl (by kernel_rfl) (by kernel_rfl) (by kernel_rfl) (fun _ _ _ h => h) (Or.inl ⟨by rfl, fun w' hw' => ?_⟩) (by assumption) ?_
              · obtain ⟨⟨_, _, _, _, g1⟩, _⟩ := HAB.out w' hw'.out
                clear hHeld
                go_simp
              simp only [Act.put, List.setIfInBounds_toArray, List.set_cons_zero, List.set_cons_succ]
              refine wpAnyH_take (i := 6) (oi := ⟨some 103, _, _, _, _, _⟩) (v := .string sA) rfl (by kernel_rfl) (by kernel_rfl) (by kernel_rfl) (fun _ _ _ h => h) (Or.inl ⟨by rfl, fun w' hw' => ?_⟩) (by assumption) ?_
              · have g1 := HCA.out w' hw'.out
                clear hHeld
                go_simp
              simp only [Act.put, List.setIfInBounds_toArray, List.set_cons_zero, List.set_cons_succ]
              refine wpAnyH_take (i := 7) (oi := ⟨some 104, _, _, _, _, _⟩) (v := .string sWA) rfl (by kernel_rfl) (by kernel_rfl) (by kernel_rfl) (fun _ _ _ h => h) (Or.inl ⟨by rfl, fun w' hw' => ?_⟩) (by assumption) ?_
              · clear hHeld
                go_simp
              simp only [Act.put, List.setIfInBounds_toArray, List.set_cons_zero, List.set_cons_succ]
              refine wpAnyH_take (i := 8) (oi := ⟨some 105, _, _, _, _, _⟩) (v := .pointer (some ⟨P6, 4, none⟩)) rfl (by kernel_rfl) (by kernel_rfl) (by kernel_rfl) (fun _ _ _ h => h) (Or.inl ⟨by rfl, fun w' hw' => ?_⟩) (by assumption) ?_
              · clear hHeld
                go_simp
              simp only [Act.put, List.setIfInBounds_toArray, List.set_cons_zero, List.set_cons_succ]
              refine wpAnyH_take (i := 9) (oi := ⟨some 106, _, _, _, _, _⟩) (v := .slice pb nb cb) rfl (by kernel_rfl) (by kernel_rfl) (by kernel_rfl) (fun _ _ _ h => h) (Or.inl ⟨by rfl, fun w' hw' => ?_⟩) (by assumption) ?_
              · obtain ⟨_, ⟨_, _, _, _, g1⟩⟩ := HAB.out w' hw'.out
                clear hHeld
                go_simp
              simp only [Act.put, List.setIfInBounds_toArray, List.set_cons_zero, List.set_cons_succ]
              refine wpAnyH_take (i := 10) (oi := ⟨some 107, _, _, _, _, _⟩) (v := .string sB) rfl (by kernel_rfl) (by kernel_rfl) (by kernel_rfl) (fun _ _ _ h => h) (Or.inl ⟨by rfl, fun w' hw' => ?_⟩) (by assumption) ?_
              · have g1 := HCB.out w' hw'.out
                clear hHeld
                go_simp
              simp only [Act.put, List.setIfInBounds_toArray, List.set_cons_zero, List.set_cons_succ]
              refine wpAnyH_take (i := 11) (oi := ⟨some 108, _, _, _, _, _⟩) (v := .string sWAB) rfl (by kernel_rfl) (by kernel_rfl) (by kernel_rfl) (fun _ _ _ h => h) (Or.inl ⟨by rfl, fun w' hw' => ?_⟩) (by assumption) ?_
              · clear hHeld
                go_simp
              simp only [Act.put, List.setIfInBounds_toArray, List.set_cons_zero, List.set_cons_succ]
              refine wpAnyH_take (i := 12) (oi := ⟨some 109, _, _, _, _, _⟩) (v := .int .i64 (N : Nat)) rfl (by kernel_rfl) (by kernel_rfl) (by kernel_rfl) (fun _ _ _ h => h) (Or.inl ⟨by rfl, fun w' hw' => ?_⟩) (by assumption) ?_
              · clear hHeld
                go_simp
              simp only [Act.put, List.setIfInBounds_toArray, List.set_cons_zero, List.set_cons_succ]
              refine wpAnyH_take (i := 13) (oi := ⟨some 110, _, _, _, _, _⟩) (v := .string sX) rfl (by kernel_rfl) (by kernel_rfl) (by kernel_rfl) (fun _ _ _ h => h) (Or.inl ⟨by rfl, fun w' hw' => ?_⟩) (by assumption) ?_
              · clear hHeld
                go_simp
              simp only [Act.put, List.setIfInBounds_toArray, List.set_cons_zero, List.set_cons_succ]
              refine wpAnyH_ready (rs := [1]) (by kernel_rfl) (by simp) (AllReadyH.cons rfl (fun K hK => ?_) AllReadyH.nil)
              go_simp
              go_wp2_with fail
              refine (CY.out _ hHeld.out).mono ?_
              rintro e w40 ⟨p40, n40, c40, rfl, hcv40, hb40, hbb40⟩
              have hH40 : Hid (Below W9.heap.size W9 w40) := Lib.hid hb40
              have HCV40 := Lib.hid hcv40
              go_wp2_with fail
              refine hK.out _ _ hH40 (fun hHeld2 => ?_)
              clear hH40
              clear hcv40
              clear hK K hHeld
              have hHeld := hHeld2
              clear hHeld2
              refine wpAnyH_less (S2 := fun w' => Hid (Below W9.heap.size W9 w') ∧ Hid (Below w40.heap.size w40 w')) (fun _ h => h.1) _ _ _ _ ?_
              have hHeld2 : (fun w' => Hid (Below W9.heap.size W9 w') ∧ Hid (Below w40.heap.size w40 w')) w40 := ⟨hHeld, Lib.hid (Below.refl _ _)⟩
              clear hHeld
              have hHeld := hHeld2
              clear hHeld2
              refine wpAnyH_take (i := 2) (oi := ⟨some 99, _, _, _, _, _⟩) (v := .string sX) rfl (by kernel_rfl) (by kernel_rfl) (by kernel_rfl) (fun _ _ _ h => h) (Or.inl ⟨by rfl, fun w' hw' => ?_⟩) (by assumption) ?_
              · have g := HCV40.out w' hw'.2.out
                clear hHeld
                go_simp
              simp only [Act.put, List.setIfInBounds_toArray, List.set_cons_zero, List.set_cons_succ]
              refine wpAnyH_take (i := 14) (oi := ⟨some 111, _, _, _, _, _⟩) (v := .bool true) rfl (by kernel_rfl) (by kernel_rfl) (by kernel_rfl) (fun _ _ _ h => h) (Or.inl ⟨by rfl, fun w' hw' => ?_⟩) (by assumption) ?_
              · clear hHeld
                go_simp
              simp only [Act.put, List.setIfInBounds_toArray, List.set_cons_zero, List.set_cons_succ]
              refine wpAnyH_take (i := 15) (oi := ⟨some 112, _, _, _, _, _⟩) (v := .bool true) rfl (by kernel_rfl) (by kernel_rfl) (by kernel_rfl) (fun _ _ _ h => h) (Or.inl ⟨by rfl, fun w' hw' => ?_⟩) (by assumption) ?_
              · clear hHeld
                go_simp
              simp only [Act.put, List.setIfInBounds_toArray, List.set_cons_zero, List.set_cons_succ]
              refine wpAnyH_ready (rs := [16]) (by kernel_rfl) (by simp) (AllReadyH.cons rfl (fun K hK => ?_) AllReadyH.nil)
              go_simp
              go_wp2_with fail
              refine (CW.out _ hHeld.1.out).mono ?_
              rintro e w41 ⟨rfl, hb41, hbb41⟩
              have hH41 : Hid (Below W9.heap.size W9 w41) ∧ Hid (Below w40.heap.size w40 w41) := ⟨Lib.hid hb41, Lib.hid (hHeld.2.out.trans (hbb41.mono hHeld.2.out.size))⟩
              go_wp2_with fail
              refine hK.out _ _ hH41 (fun hHeld2 => ?_)
              clear hH41
              clear hK K hHeld
              have hHeld := hHeld2
              clear hHeld2
              refine wpAnyH_take (i := 17) (oi := ⟨some 114, _, _, _, _, _⟩) (v := .bool true) rfl (by kernel_rfl) (by kernel_rfl) (by kernel_rfl) (fun _ _ _ h => h) (Or.inl ⟨by rfl, fun w' hw' => ?_⟩) (by assumption) ?_
              · clear hHeld
                go_simp
              simp only [Act.put, List.setIfInBounds_toArray, List.set_cons_zero, List.set_cons_succ]
              refine wpAnyH_take (i := 18) (oi := ⟨some 4, _, _, _, _, _⟩) (v := .bool true) rfl (by kernel_rfl) (by kernel_rfl) (by kernel_rfl) (fun _ _ _ h => h) (Or.inl ⟨by rfl, fun w' hw' => ?_⟩) (by assumption) ?_
              · clear hHeld
                go_simp
              simp only [Act.put, List.setIfInBounds_toArray, List.set_cons_zero, List.set_cons_succ]
              refine wpAnyH_done (by kernel_rfl) ?_ _
              have hb9 := hHeld.1.out
              have HFIN := Lib.hid (HB012.out.trans ((HH9.out.below.trans (hb9.mono HH9.out.below.size)).mono HB012.out.size))
              clear hHeld hb9
              go_wp2_with fail
              go_ret
              exact ⟨rfl, HFIN.out⟩
            · skip
              have hmath := tail_one d1 HLL.out LA LB tt
              have hcut := cut_one BW LA LB (min tt LB.length)
              rw [HBW.out] at hmath
              rw [← hcut] at hmath
              obtain ⟨m, hm⟩ : ∃ m, min tt nb = m := ⟨_, rfl⟩
              have k1 : (if (nb : Int) < (tt : Int) then (nb : Int) else (tt : Int)) = (m : Int) := by rw [← hm]; split <;> omega
              have k1n : (if nb < tt then (nb : Int) else (tt : Int)) = (m : Int) := by rw [← hm]; split <;> omega
              have k2 : min (tt : Int) (nb : Int) = (m : Int) := by rw [← hm]; omega
              obtain ⟨K, hK⟩ : ∃ K, na + m = K := ⟨_, rfl⟩
              have k5 : (na : Int) + (m : Int) = (K : Int) := by omega
              have k6 : IntKind.i64.wrap (K : Int) = (K : Int) := IntWalk.i64_in _ (by omega)
              obtain ⟨N, hN⟩ : ∃ N, nW + K = N := ⟨_, rfl⟩
              have k3 : (nW : Int) + (K : Int) = (N : Int) := by omega
              have k4 : IntKind.i64.wrap (N : Int) = (N : Int) := IntWalk.i64_in _ (by omega)
              have hNW : BW.length + (LA.length + min tt LB.length) = N := by rw [HNW.out, HLA.out, HLB.out]; omega
              rw [hNW] at hmath
              have hcr := disk_crash h3.out (by have := HT3.out; omega) (by rw [HL3.out]; omega) 1 (tt : Nat)
              have HMATH := Lib.hid hmath
              have HT4 : Hid ((d3.crash 1 (tt : Nat)).tot ≤ 12600) := Lib.hid (Nat.le_trans (crash_tot d3 1 (tt : Nat) (by have := h3.out.z_in; omega)) HT3.out)
              have HZ4 : Hid ((d3.crash 1 (tt : Nat)).z = d1.z) := Lib.hid HZ3.out
              rw [HD3.out] at HMATH
              obtain ⟨q5, q6⟩ := HAC.out W8 HW8.out
              obtain ⟨q50, q51, q52, q53, q54⟩ := q5
              obtain ⟨q60, q61, q62, q63, q64⟩ := q6
              have HNN := Lib.hid hN
              clear hmath hcut hNW hN hm hK
              generalize d3.crash 1 (tt : Nat) = d4 at *
              go_wp2_with fail
              refine hcr.mono ?_
              rintro e W9 ⟨rfl, ht9⟩
              obtain ⟨col9, _, hd9, hh9, _⟩ := HH8.out.act ht9 (by omega)
              have HD9 := Lib.hid hd9
              have HH9 := Lib.hid hh9
              have hw9 : Below W1'.heap.size W1' W9 := HB2.out.trans (hh9.below.mono HB2.out.size)
              have HW9 := Lib.hid hw9
              obtain ⟨⟨r50, r51, r52, r53, r54⟩, ⟨r60, r61, r62, r63, r64⟩⟩ := HAC.out W9 hw9
              clear hcr ht9 hd9 hh9 hw9 q50 q51 q52 q53 q54 q60 q61 q62 q63 q64
              go_wp2_with fail
              have HAB : Hid (∀ w2, Below W9.heap.size W9 w2 → (w2.cell? ⟨P5, 0, none⟩ = some (.int .u8 0) ∧ w2.cell? ⟨P5, 1, none⟩ = some (.int .i64 0) ∧ w2.cell? ⟨P5, 2, none⟩ = some (.int .i64 0) ∧ w2.cell? ⟨P5, 3, none⟩ = some (.int .i64 0) ∧ w2.cell? ⟨P5, 4, none⟩ = some (.slice pa na ca)) ∧ (w2.cell? ⟨P6, 0, none⟩ = some (.int .u8 0) ∧ w2.cell? ⟨P6, 1, none⟩ = some (.int .i64 0) ∧ w2.cell? ⟨P6, 2, none⟩ = some (.int .i64 0) ∧ w2.cell? ⟨P6, 3, none⟩ = some (.int .i64 0) ∧ w2.cell? ⟨P6, 4, none⟩ = some (.slice pb nb cb))) := Lib.hid fun w2 hb => HAC.out w2 (HW9.out.trans (hb.mono HW9.out.size))
              obtain ⟨sA, hsA⟩ : ∃ s, strOfNums LA = s := ⟨_, rfl⟩
              obtain ⟨sB, hsB⟩ : ∃ s, strOfNums LB = s := ⟨_, rfl⟩
              obtain ⟨sWA, hsWA⟩ : ∃ s, strOfNums (BW ++ LA) = s := ⟨_, rfl⟩
              obtain ⟨sWAB, hsWAB⟩ : ∃ s, strOfNums (BW ++ LA ++ LB) = s := ⟨_, rfl⟩
              obtain ⟨sX, hsX⟩ : ∃ s, strOfNums ((BW ++ LA ++ LB).take N) = s := ⟨_, rfl⟩
              have HCA : Hid (∀ w2, Below W9.heap.size W9 w2 → (convert 31 9 (.slice pa na ca)).run Try.prog w2 = .ok (.string sA) w2) := Lib.hid fun w2 hb => by rw [← hsA]; exact conv_bl (SlG.later HBA2.out (HH9.out.below.trans (hb.mono HH9.out.below.size)))
              have HCB : Hid (∀ w2, Below W9.heap.size W9 w2 → (convert 31 9 (.slice pb nb cb)).run Try.prog w2 = .ok (.string sB) w2) := Lib.hid fun w2 hb => by rw [← hsB]; exact conv_bl (SlG.later HBB2.out (HH9.out.below.trans (hb.mono HH9.out.below.size)))
              have CY : Hid (∀ w', Below W9.heap.size W9 w' → Calls Try.prog 23 #[.pointer (some ⟨B0, 0, none⟩), .int .i64 0] w' fun e w'' => ∃ p n c, e = .returned (.slice p n c) ∧ (∀ w3, Below w''.heap.size w'' w3 → (convert 31 9 (.slice p n c)).run Try.prog w3 = .ok (.string sX) w3) ∧ Below W9.heap.size W9 w'' ∧ Below w'.heap.size w' w'') := Lib.hid fun w' hb => (disk_bytes (HD9.out.later hb) (by have := d4.sT_len (by have := HD9.out.z_in; omega); have := HT4.out; omega) 0).mono fun e w'' hh => by
                obtain ⟨p', c', he, hbl, hbw, _⟩ := hh
                rw [HZ4.out, HMATH.out] at he hbl
                exact ⟨p', _, c', he, fun w3 h3 => by rw [← hsX]; exact conv_bl (SlG.later hbl h3), hb.trans (hbw.mono hb.size), hbw⟩
              have CW : Hid (∀ w', Below W9.heap.size W9 w' → Calls Try.prog 9 #[] w' fun e w'' => e = .returned (.bool true) ∧ Below W9.heap.size W9 w'' ∧ Below w'.heap.size w' w'') := Lib.hid fun w' hb => (disk_works w').mono fun e w'' hh => ⟨hh.1, hb.trans (hh.2.mono hb.size), hh.2⟩
              have hz1 : sw.size + sA.size ≤ 9223372036854775807 := by rw [← HSW.out, ← hsA, str_size, str_size, HNW.out, HLA.out]; omega
              have hz2 : sWA.size + sB.size ≤ 9223372036854775807 := by rw [← hsWA, ← hsB, str_size, str_size, List.length_append, HNW.out, HLA.out, HLB.out]; omega
              have hz3 : (N : Int) ≤ (sWAB.size : Int) := by rw [← hsWAB, str_size, List.length_append, List.length_append, HNW.out, HLA.out, HLB.out]; have := HNN.out; omega
              have he1 : sw ++ sA = sWA := by rw [← HSW.out, ← hsA, ← hsWA, str_append]
              have he2 : sWA ++ sB = sWAB := by rw [← hsWA, ← hsB, ← hsWAB, str_append]
              have he3 : sWAB.extract 0 N = sX := by rw [← hsWAB, ← hsX, str_extract, List.drop_zero, Nat.sub_zero]
              clear hszw hsA hsB hsWA hsWAB hsX r50 r51 r52 r53 r54 r60 r61 r62 r63 r64
              have hbd : Below W9.heap.size W9 W9.drew := (Below.refl _ _).drew
              refine wp_region_held_drew (S := fun w' => Hid (Below W9.heap.size W9 w')) (by kernel_rfl) (Lib.hid hbd) (fun hHeld => ?_)
              clear hbd
              refine wpAnyH_take (i := 0) (oi := ⟨some 97, _, _, _, _, _⟩) (v := .pointer (some ⟨B0, 0, none⟩)) rfl (by kernel_rfl) (by kernel_rfl) (by kernel_rfl) (fun _ _ _ h => h) (Or.inl ⟨by rfl, fun w' hw' => ?_⟩) (by assumption) ?_
              · clear hHeld
                go_simp
              simp only [Act.put, List.setIfInBounds_toArray, List.set_cons_zero, List.set_cons_succ]
              refine wpAnyH_take (i := 3) (oi := ⟨some 100, _, _, _, _, _⟩) (v := .string sw) rfl (by kernel_rfl) (by kernel_rfl) (by kernel_rfl) (fun _ _ _ h => h) (Or.inl ⟨by rfl, fun w' hw' => ?_⟩) (by assumption) ?_
              · clear hHeld
                go_simp
              simp only [Act.put, List.setIfInBounds_toArray, List.set_cons_zero, List.set_cons_succ]
              refine wpAnyH_take (i := 4) (oi := ⟨some 101, _, _, _, _, _⟩) (v := .pointer (some ⟨P5, 4, none⟩)) rfl (by kernel_rfl) (by kernel_rfl) (by kernel_rfl) (fun _ _ _ h => h) (Or.inl ⟨by rfl, fun w' hw' => ?_⟩) (by assumption) ?_
              · clear hHeld
                go_simp
              simp only [Act.put, List.setIfInBounds_toArray, List.set_cons_zero, List.set_cons_succ]
              refine wpAnyH_take (i := 5) (oi := ⟨some 102, _, _, _, _, _⟩) (v := .slice pa na ca) rfl (by kernel_rfl) (by kernel_rfl) (by kernel_rfl) (fun _ _ _ h => h) (Or.inl ⟨by rfl, fun w' hw' => ?_⟩) (by assumption) ?_
              · obtain ⟨⟨_, _, _, _, g1⟩, _⟩ := HAB.out w' hw'.out
                clear hHeld
                go_simp
              simp only [Act.put, List.setIfInBounds_toArray, List.set_cons_zero, List.set_cons_succ]
              refine wpAnyH_take (i := 6) (oi := ⟨some 103, _, _, _, _, _⟩) (v := .string sA) rfl (by kernel_rfl) (by kernel_rfl) (by kernel_rfl) (fun _ _ _ h => h) (Or.inl ⟨by rfl, fun w' hw' => ?_⟩) (by assumption) ?_
              · have g1 := HCA.out w' hw'.out
                clear hHeld
                go_simp
              simp only [Act.put, List.setIfInBounds_toArray, List.set_cons_zero, List.set_cons_succ]
              refine wpAnyH_take (i := 7) (oi := ⟨some 104, _, _, _, _, _⟩) (v := .string sWA) rfl (by kernel_rfl) (by kernel_rfl) (by kernel_rfl) (fun _ _ _ h => h) (Or.inl ⟨by rfl, fun w' hw' => ?_⟩) (by assumption) ?_
              · clear hHeld
                go_simp
              simp only [Act.put, List.setIfInBounds_toArray, List.set_cons_zero, List.set_cons_succ]
              refine wpAnyH_take (i := 8) (oi := ⟨some 105, _, _, _, _, _⟩) (v := .pointer (some ⟨P6, 4, none⟩)) rfl (by kernel_rfl) (by kernel_rfl) (by kernel_rfl) (fun _ _ _ h => h) (Or.inl ⟨by rfl, fun w' hw' => ?_⟩) (by assumption) ?_
              · clear hHeld
                go_simp
              simp only [Act.put, List.setIfInBounds_toArray, List.set_cons_zero, List.set_cons_succ]
              refine wpAnyH_take (i := 9) (oi := ⟨some 106, _, _, _, _, _⟩) (v := .slice pb nb cb) rfl (by kernel_rfl) (by kernel_rfl) (by kernel_rfl) (fun _ _ _ h => h) (Or.inl ⟨by rfl, fun w' hw' => ?_⟩) (by assumption) ?_
              · obtain ⟨_, ⟨_, _, _, _, g1⟩⟩ := HAB.out w' hw'.out
                clear hHeld
                go_simp
              simp only [Act.put, List.setIfInBounds_toArray, List.set_cons_zero, List.set_cons_succ]
              refine wpAnyH_take (i := 10) (oi := ⟨some 107, _, _, _, _, _⟩) (v := .string sB) rfl (by kernel_rfl) (by kernel_rfl) (by kernel_rfl) (fun _ _ _ h => h) (Or.inl ⟨by rfl, fun w' hw' => ?_⟩) (by assumption) ?_
              · have g1 := HCB.out w' hw'.out
                clear hHeld
                go_simp
              simp only [Act.put, List.setIfInBounds_toArray, List.set_cons_zero, List.set_cons_succ]
              refine wpAnyH_take (i := 11) (oi := ⟨some 108, _, _, _, _, _⟩) (v := .string sWAB) rfl (by kernel_rfl) (by kernel_rfl) (by kernel_rfl) (fun _ _ _ h => h) (Or.inl ⟨by rfl, fun w' hw' => ?_⟩) (by assumption) ?_
              · clear hHeld
                go_simp
              simp only [Act.put, List.setIfInBounds_toArray, List.set_cons_zero, List.set_cons_succ]
              refine wpAnyH_take (i := 12) (oi := ⟨some 109, _, _, _, _, _⟩) (v := .int .i64 (N : Nat)) rfl (by kernel_rfl) (by kernel_rfl) (by kernel_rfl) (fun _ _ _ h => h) (Or.inl ⟨by rfl, fun w' hw' => ?_⟩) (by assumption) ?_
              · clear hHeld
                go_simp
              simp only [Act.put, List.setIfInBounds_toArray, List.set_cons_zero, List.set_cons_succ]
              refine wpAnyH_take (i := 13) (oi := ⟨some 110, _, _, _, _, _⟩) (v := .string sX) rfl (by kernel_rfl) (by kernel_rfl) (by kernel_rfl) (fun _ _ _ h => h) (Or.inl ⟨by rfl, fun w' hw' => ?_⟩) (by assumption) ?_
              · clear hHeld
                go_simp
              simp only [Act.put, List.setIfInBounds_toArray, List.set_cons_zero, List.set_cons_succ]
              refine wpAnyH_ready (rs := [1]) (by kernel_rfl) (by simp) (AllReadyH.cons rfl (fun K hK => ?_) AllReadyH.nil)
              go_simp
              go_wp2_with fail
              refine (CY.out _ hHeld.out).mono ?_
              rintro e w40 ⟨p40, n40, c40, rfl, hcv40, hb40, hbb40⟩
              have hH40 : Hid (Below W9.heap.size W9 w40) := Lib.hid hb40
              have HCV40 := Lib.hid hcv40
              go_wp2_with fail
              refine hK.out _ _ hH40 (fun hHeld2 => ?_)
              clear hH40
              clear hcv40
              clear hK K hHeld
              have hHeld := hHeld2
              clear hHeld2
              refine wpAnyH_less (S2 := fun w' => Hid (Below W9.heap.size W9 w') ∧ Hid (Below w40.heap.size w40 w')) (fun _ h => h.1) _ _ _ _ ?_
              have hHeld2 : (fun w' => Hid (Below W9.heap.size W9 w') ∧ Hid (Below w40.heap.size w40 w')) w40 := ⟨hHeld, Lib.hid (Below.refl _ _)⟩
              clear hHeld
              have hHeld := hHeld2
              clear hHeld2
              refine wpAnyH_take (i := 2) (oi := ⟨some 99, _, _, _, _, _⟩) (v := .string sX) rfl (by kernel_rfl) (by kernel_rfl) (by kernel_rfl) (fun _ _ _ h => h) (Or.inl ⟨by rfl, fun w' hw' => ?_⟩) (by assumption) ?_
              · have g := HCV40.out w' hw'.2.out
                clear hHeld
                go_simp
              simp only [Act.put, List.setIfInBounds_toArray, List.set_cons_zero, List.set_cons_succ]
              refine wpAnyH_take (i := 14) (oi := ⟨some 111, _, _, _, _, _⟩) (v := .bool true) rfl (by kernel_rfl) (by kernel_rfl) (by kernel_rfl) (fun _ _ _ h => h) (Or.inl ⟨by rfl, fun w' hw' => ?_⟩) (by assumption) ?_
              · clear hHeld
                go_simp
              simp only [Act.put, List.setIfInBounds_toArray, List.set_cons_zero, List.set_cons_succ]
              refine wpAnyH_take (i := 15) (oi := ⟨some 112, _, _, _, _, _⟩) (v := .bool true) rfl (by kernel_rfl) (by kernel_rfl) (by kernel_rfl) (fun _ _ _ h => h) (Or.inl ⟨by rfl, fun w' hw' => ?_⟩) (by assumption) ?_
              · clear hHeld
                go_simp
              simp only [Act.put, List.setIfInBounds_toArray, List.set_cons_zero, List.set_cons_succ]
              refine wpAnyH_ready (rs := [16]) (by kernel_rfl) (by simp) (AllReadyH.cons rfl (fun K hK => ?_) AllReadyH.nil)
              go_simp
              go_wp2_with fail
              refine (CW.out _ hHeld.1.out).mono ?_
              rintro e w41 ⟨rfl, hb41, hbb41⟩
              have hH41 : Hid (Below W9.heap.size W9 w41) ∧ Hid (Below w40.heap.size w40 w41) := ⟨Lib.hid hb41, Lib.hid (hHeld.2.out.trans (hbb41.mono hHeld.2.out.size))⟩
              go_wp2_with fail
              refine hK.out _ _ hH41 (fun hHeld2 => ?_)
              clear hH41
              clear hK K hHeld
              have hHeld := hHeld2
              clear hHeld2
              refine wpAnyH_take (i := 17) (oi := ⟨some 114, _, _, _, _, _⟩) (v := .bool true) rfl (by kernel_rfl) (by kernel_rfl) (by kernel_rfl) (fun _ _ _ h => h) (Or.inl ⟨by rfl, fun w' hw' => ?_⟩) (by assumption) ?_
              · clear hHeld
                go_simp
              simp only [Act.put, List.setIfInBounds_toArray, List.set_cons_zero, List.set_cons_succ]
              refine wpAnyH_take (i := 18) (oi := ⟨some 4, _, _, _, _, _⟩) (v := .bool true) rfl (by kernel_rfl) (by kernel_rfl) (by kernel_rfl) (fun _ _ _ h => h) (Or.inl ⟨by rfl, fun w' hw' => ?_⟩) (by assumption) ?_
              · clear hHeld
                go_simp
              simp only [Act.put, List.setIfInBounds_toArray, List.set_cons_zero, List.set_cons_succ]
              refine wpAnyH_done (by kernel_rfl) ?_ _
              have hb9 := hHeld.1.out
              have HFIN := Lib.hid (HB012.out.trans ((HH9.out.below.trans (hb9.mono HH9.out.below.size)).mono HB012.out.size))
              clear hHeld hb9
              go_wp2_with fail
              go_ret
              exact ⟨rfl, HFIN.out⟩
            · skip
              have hmath := tail_two d1 HLL.out LA LB tt
              have hcut := cut_two BW LA LB
              rw [HBW.out] at hmath
              rw [← hcut] at hmath
              obtain ⟨K, hK⟩ : ∃ K, na + nb = K := ⟨_, rfl⟩
              have k5 : (na : Int) + (nb : Int) = (K : Int) := by omega
              have k6 : IntKind.i64.wrap (K : Int) = (K : Int) := IntWalk.i64_in _ (by omega)
              obtain ⟨N, hN⟩ : ∃ N, nW + K = N := ⟨_, rfl⟩
              have k3 : (nW : Int) + (K : Int) = (N : Int) := by omega
              have k4 : IntKind.i64.wrap (N : Int) = (N : Int) := IntWalk.i64_in _ (by omega)
              have hNW : BW.length + (LA.length + LB.length) = N := by rw [HNW.out, HLA.out, HLB.out]; omega
              rw [hNW] at hmath
              have hcr := disk_crash h3.out (by have := HT3.out; omega) (by rw [HL3.out]; omega) 2 (tt : Nat)
              have HMATH := Lib.hid hmath
              have HT4 : Hid ((d3.crash 2 (tt : Nat)).tot ≤ 12600) := Lib.hid (Nat.le_trans (crash_tot d3 2 (tt : Nat) (by have := h3.out.z_in; omega)) HT3.out)
              have HZ4 : Hid ((d3.crash 2 (tt : Nat)).z = d1.z) := Lib.hid HZ3.out
              rw [HD3.out] at HMATH
              obtain ⟨q5, q6⟩ := HAC.out W8 HW8.out
              obtain ⟨q50, q51, q52, q53, q54⟩ := q5
              obtain ⟨q60, q61, q62, q63, q64⟩ := q6
              have HNN := Lib.hid hN
              clear hmath hcut hNW hN hK
              generalize d3.crash 2 (tt : Nat) = d4 at *
              go_wp2_with fail
              refine hcr.mono ?_
              rintro e W9 ⟨rfl, ht9⟩
              obtain ⟨col9, _, hd9, hh9, _⟩ := HH8.out.act ht9 (by omega)
              have HD9 := Lib.hid hd9
              have HH9 := Lib.hid hh9
              have hw9 : Below W1'.heap.size W1' W9 := HB2.out.trans (hh9.below.mono HB2.out.size)
              have HW9 := Lib.hid hw9
              obtain ⟨⟨r50, r51, r52, r53, r54⟩, ⟨r60, r61, r62, r63, r64⟩⟩ := HAC.out W9 hw9
              clear hcr ht9 hd9 hh9 hw9 q50 q51 q52 q53 q54 q60 q61 q62 q63 q64
              go_wp2_with fail
              have HAB : Hid (∀ w2, Below W9.heap.size W9 w2 → (w2.cell? ⟨P5, 0, none⟩ = some (.int .u8 0) ∧ w2.cell? ⟨P5, 1, none⟩ = some (.int .i64 0) ∧ w2.cell? ⟨P5, 2, none⟩ = some (.int .i64 0) ∧ w2.cell? ⟨P5, 3, none⟩ = some (.int .i64 0) ∧ w2.cell? ⟨P5, 4, none⟩ = some (.slice pa na ca)) ∧ (w2.cell? ⟨P6, 0, none⟩ = some (.int .u8 0) ∧ w2.cell? ⟨P6, 1, none⟩ = some (.int .i64 0) ∧ w2.cell? ⟨P6, 2, none⟩ = some (.int .i64 0) ∧ w2.cell? ⟨P6, 3, none⟩ = some (.int .i64 0) ∧ w2.cell? ⟨P6, 4, none⟩ = some (.slice pb nb cb))) := Lib.hid fun w2 hb => HAC.out w2 (HW9.out.trans (hb.mono HW9.out.size))
              obtain ⟨sA, hsA⟩ : ∃ s, strOfNums LA = s := ⟨_, rfl⟩
              obtain ⟨sB, hsB⟩ : ∃ s, strOfNums LB = s := ⟨_, rfl⟩
              obtain ⟨sWA, hsWA⟩ : ∃ s, strOfNums (BW ++ LA) = s := ⟨_, rfl⟩
              obtain ⟨sWAB, hsWAB⟩ : ∃ s, strOfNums (BW ++ LA ++ LB) = s := ⟨_, rfl⟩
              obtain ⟨sX, hsX⟩ : ∃ s, strOfNums ((BW ++ LA ++ LB).take N) = s := ⟨_, rfl⟩
              have HCA : Hid (∀ w2, Below W9.heap.size W9 w2 → (convert 31 9 (.slice pa na ca)).run Try.prog w2 = .ok (.string sA) w2) := Lib.hid fun w2 hb => by rw [← hsA]; exact conv_bl (SlG.later HBA2.out (HH9.out.below.trans (hb.mono HH9.out.below.size)))
              have HCB : Hid (∀ w2, Below W9.heap.size W9 w2 → (convert 31 9 (.slice pb nb cb)).run Try.prog w2 = .ok (.string sB) w2) := Lib.hid fun w2 hb => by rw [← hsB]; exact conv_bl (SlG.later HBB2.out (HH9.out.below.trans (hb.mono HH9.out.below.size)))
              have CY : Hid (∀ w', Below W9.heap.size W9 w' → Calls Try.prog 23 #[.pointer (some ⟨B0, 0, none⟩), .int .i64 0] w' fun e w'' => ∃ p n c, e = .returned (.slice p n c) ∧ (∀ w3, Below w''.heap.size w'' w3 → (convert 31 9 (.slice p n c)).run Try.prog w3 = .ok (.string sX) w3) ∧ Below W9.heap.size W9 w'' ∧ Below w'.heap.size w' w'') := Lib.hid fun w' hb => (disk_bytes (HD9.out.later hb) (by have := d4.sT_len (by have := HD9.out.z_in; omega); have := HT4.out; omega) 0).mono fun e w'' hh => by
                obtain ⟨p', c', he, hbl, hbw, _⟩ := hh
                rw [HZ4.out, HMATH.out] at he hbl
                exact ⟨p', _, c', he, fun w3 h3 => by rw [← hsX]; exact conv_bl (SlG.later hbl h3), hb.trans (hbw.mono hb.size), hbw⟩
              have CW : Hid (∀ w', Below W9.heap.size W9 w' → Calls Try.prog 9 #[] w' fun e w'' => e = .returned (.bool true) ∧ Below W9.heap.size W9 w'' ∧ Below w'.heap.size w' w'') := Lib.hid fun w' hb => (disk_works w').mono fun e w'' hh => ⟨hh.1, hb.trans (hh.2.mono hb.size), hh.2⟩
              have hz1 : sw.size + sA.size ≤ 9223372036854775807 := by rw [← HSW.out, ← hsA, str_size, str_size, HNW.out, HLA.out]; omega
              have hz2 : sWA.size + sB.size ≤ 9223372036854775807 := by rw [← hsWA, ← hsB, str_size, str_size, List.length_append, HNW.out, HLA.out, HLB.out]; omega
              have hz3 : (N : Int) ≤ (sWAB.size : Int) := by rw [← hsWAB, str_size, List.length_append, List.length_append, HNW.out, HLA.out, HLB.out]; have := HNN.out; omega
              have he1 : sw ++ sA = sWA := by rw [← HSW.out, ← hsA, ← hsWA, str_append]
              have he2 : sWA ++ sB = sWAB := by rw [← hsWA, ← hsB, ← hsWAB, str_append]
              have he3 : sWAB.extract 0 N = sX := by rw [← hsWAB, ← hsX, str_extract, List.drop_zero, Nat.sub_zero]
              clear hszw hsA hsB hsWA hsWAB hsX r50 r51 r52 r53 r54 r60 r61 r62 r63 r64
              have hbd : Below W9.heap.size W9 W9.drew := (Below.refl _ _).drew
              refine wp_region_held_drew (S := fun w' => Hid (Below W9.heap.size W9 w')) (by kernel_rfl) (Lib.hid hbd) (fun hHeld => ?_)
              clear hbd
              refine wpAnyH_take (i := 0) (oi := ⟨some 97, _, _, _, _, _⟩) (v := .pointer (some ⟨B0, 0, none⟩)) rfl (by kernel_rfl) (by kernel_rfl) (by kernel_rfl) (fun _ _ _ h => h) (Or.inl ⟨by rfl, fun w' hw' => ?_⟩) (by assumption) ?_
              · clear hHeld
                go_simp
              simp only [Act.put, List.setIfInBounds_toArray, List.set_cons_zero, List.set_cons_succ]
              refine wpAnyH_take (i := 3) (oi := ⟨some 100, _, _, _, _, _⟩) (v := .string sw) rfl (by kernel_rfl) (by kernel_rfl) (by kernel_rfl) (fun _ _ _ h => h) (Or.inl ⟨by rfl, fun w' hw' => ?_⟩) (by assumption) ?_
              · clear hHeld
                go_simp
              simp only [Act.put, List.setIfInBounds_toArray, List.set_cons_zero, List.set_cons_succ]
              refine wpAnyH_take (i := 4) (oi := ⟨some 101, _, _, _, _, _⟩) (v := .pointer (some ⟨P5, 4, none⟩)) rfl (by kernel_rfl) (by kernel_rfl) (by kernel_rfl) (fun _ _ _ h => h) (Or.inl ⟨by rfl, fun w' hw' => ?_⟩) (by assumption) ?_
              · clear hHeld
                go_simp
              simp only [Act.put, List.setIfInBounds_toArray, List.set_cons_zero, List.set_cons_succ]
              refine wpAnyH_take (i := 5) (oi := ⟨some 102, _, _, _, _, _⟩) (v := .slice pa na ca) rfl (by kernel_rfl) (by kernel_rfl) (by kernel_rfl) (fun _ _ _ h => h) (Or.inl ⟨by rfl, fun w' hw' => ?_⟩) (by assumption) ?_
              · obtain ⟨⟨_, _, _, _, g1⟩, _⟩ := HAB.out w' hw'.out
                clear hHeld
                go_simp
              simp only [Act.put, List.setIfInBounds_toArray, List.set_cons_zero, List.set_cons_succ]
              refine wpAnyH_take (i := 6) (oi := ⟨some 103, _, _, _, _, _⟩) (v := .string sA) rfl (by kernel_rfl) (by kernel_rfl) (by kernel_rfl) (fun _ _ _ h => h) (Or.inl ⟨by rfl, fun w' hw' => ?_⟩) (by assumption) ?_
              · have g1 := HCA.out w' hw'.out
                clear hHeld
                go_simp
              simp only [Act.put, List.setIfInBounds_toArray, List.set_cons_zero, List.set_cons_succ]
              refine wpAnyH_take (i := 7) (oi := ⟨some 104, _, _, _, _, _⟩) (v := .string sWA) rfl (by kernel_rfl) (by kernel_rfl) (by kernel_rfl) (fun _ _ _ h => h) (Or.inl ⟨by rfl, fun w' hw' => ?_⟩) (by assumption) ?_
              · clear hHeld
                go_simp
              simp only [Act.put, List.setIfInBounds_toArray, List.set_cons_zero, List.set_cons_succ]
              refine wpAnyH_take (i := 8) (oi := ⟨some 105, _, _, _, _, _⟩) (v := .pointer (some ⟨P6, 4, none⟩)) rfl (by kernel_rfl) (by kernel_rfl) (by kernel_rfl) (fun _ _ _ h => h) (Or.inl ⟨by rfl, fun w' hw' => ?_⟩) (by assumption) ?_
              · clear hHeld
                go_simp
              simp only [Act.put, List.setIfInBounds_toArray, List.set_cons_zero, List.set_cons_succ]
              refine wpAnyH_take (i := 9) (oi := ⟨some 106, _, _, _, _, _⟩) (v := .slice pb nb cb) rfl (by kernel_rfl) (by kernel_rfl) (by kernel_rfl) (fun _ _ _ h => h) (Or.inl ⟨by rfl, fun w' hw' => ?_⟩) (by assumption) ?_
              · obtain ⟨_, ⟨_, _, _, _, g1⟩⟩ := HAB.out w' hw'.out
                clear hHeld
                go_simp
              simp only [Act.put, List.setIfInBounds_toArray, List.set_cons_zero, List.set_cons_succ]
              refine wpAnyH_take (i := 10) (oi := ⟨some 107, _, _, _, _, _⟩) (v := .string sB) rfl (by kernel_rfl) (by kernel_rfl) (by kernel_rfl) (fun _ _ _ h => h) (Or.inl ⟨by rfl, fun w' hw' => ?_⟩) (by assumption) ?_
              · have g1 := HCB.out w' hw'.out
                clear hHeld
                go_simp
              simp only [Act.put, List.setIfInBounds_toArray, List.set_cons_zero, List.set_cons_succ]
              refine wpAnyH_take (i := 11) (oi := ⟨some 108, _, _, _, _, _⟩) (v := .string sWAB) rfl (by kernel_rfl) (by kernel_rfl) (by kernel_rfl) (fun _ _ _ h => h) (Or.inl ⟨by rfl, fun w' hw' => ?_⟩) (by assumption) ?_
              · clear hHeld
                go_simp
              simp only [Act.put, List.setIfInBounds_toArray, List.set_cons_zero, List.set_cons_succ]
              refine wpAnyH_take (i := 12) (oi := ⟨some 109, _, _, _, _, _⟩) (v := .int .i64 (N : Nat)) rfl (by kernel_rfl) (by kernel_rfl) (by kernel_rfl) (fun _ _ _ h => h) (Or.inl ⟨by rfl, fun w' hw' => ?_⟩) (by assumption) ?_
              · clear hHeld
                go_simp
              simp only [Act.put, List.setIfInBounds_toArray, List.set_cons_zero, List.set_cons_succ]
              refine wpAnyH_take (i := 13) (oi := ⟨some 110, _, _, _, _, _⟩) (v := .string sX) rfl (by kernel_rfl) (by kernel_rfl) (by kernel_rfl) (fun _ _ _ h => h) (Or.inl ⟨by rfl, fun w' hw' => ?_⟩) (by assumption) ?_
              · clear hHeld
                go_simp
              simp only [Act.put, List.setIfInBounds_toArray, List.set_cons_zero, List.set_cons_succ]
              refine wpAnyH_ready (rs := [1]) (by kernel_rfl) (by simp) (AllReadyH.cons rfl (fun K hK => ?_) AllReadyH.nil)
              go_simp
              go_wp2_with fail
              refine (CY.out _ hHeld.out).mono ?_
              rintro e w40 ⟨p40, n40, c40, rfl, hcv40, hb40, hbb40⟩
              have hH40 : Hid (Below W9.heap.size W9 w40) := Lib.hid hb40
              have HCV40 := Lib.hid hcv40
              go_wp2_with fail
              refine hK.out _ _ hH40 (fun hHeld2 => ?_)
              clear hH40
              clear hcv40
              clear hK K hHeld
              have hHeld := hHeld2
              clear hHeld2
              refine wpAnyH_less (S2 := fun w' => Hid (Below W9.heap.size W9 w') ∧ Hid (Below w40.heap.size w40 w')) (fun _ h => h.1) _ _ _ _ ?_
              have hHeld2 : (fun w' => Hid (Below W9.heap.size W9 w') ∧ Hid (Below w40.heap.size w40 w')) w40 := ⟨hHeld, Lib.hid (Below.refl _ _)⟩
              clear hHeld
              have hHeld := hHeld2
              clear hHeld2
              refine wpAnyH_take (i := 2) (oi := ⟨some 99, _, _, _, _, _⟩) (v := .string sX) rfl (by kernel_rfl) (by kernel_rfl) (by kernel_rfl) (fun _ _ _ h => h) (Or.inl ⟨by rfl, fun w' hw' => ?_⟩) (by assumption) ?_
              · have g := HCV40.out w' hw'.2.out
                clear hHeld
                go_simp
              simp only [Act.put, List.setIfInBounds_toArray, List.set_cons_zero, List.set_cons_succ]
              refine wpAnyH_take (i := 14) (oi := ⟨some 111, _, _, _, _, _⟩) (v := .bool true) rfl (by kernel_rfl) (by kernel_rfl) (by kernel_rfl) (fun _ _ _ h => h) (Or.inl ⟨by rfl, fun w' hw' => ?_⟩) (by assumption) ?_
              · clear hHeld
                go_simp
              simp only [Act.put, List.setIfInBounds_toArray, List.set_cons_zero, List.set_cons_succ]
              refine wpAnyH_take (i := 15) (oi := ⟨some 112, _, _, _, _, _⟩) (v := .bool true) rfl (by kernel_rfl) (by kernel_rfl) (by kernel_rfl) (fun _ _ _ h => h) (Or.inl ⟨by rfl, fun w' hw' => ?_⟩) (by assumption) ?_
              · clear hHeld
                go_simp
              simp only [Act.put, List.setIfInBounds_toArray, List.set_cons_zero, List.set_cons_succ]
              refine wpAnyH_ready (rs := [16]) (by kernel_rfl) (by simp) (AllReadyH.cons rfl (fun K hK => ?_) AllReadyH.nil)
              go_simp
              go_wp2_with fail
              refine (CW.out _ hHeld.1.out).mono ?_
              rintro e w41 ⟨rfl, hb41, hbb41⟩
              have hH41 : Hid (Below W9.heap.size W9 w41) ∧ Hid (Below w40.heap.size w40 w41) := ⟨Lib.hid hb41, Lib.hid (hHeld.2.out.trans (hbb41.mono hHeld.2.out.size))⟩
              go_wp2_with fail
              refine hK.out _ _ hH41 (fun hHeld2 => ?_)
              clear hH41
              clear hK K hHeld
              have hHeld := hHeld2
              clear hHeld2
              refine wpAnyH_take (i := 17) (oi := ⟨some 114, _, _, _, _, _⟩) (v := .bool true) rfl (by kernel_rfl) (by kernel_rfl) (by kernel_rfl) (fun _ _ _ h => h) (Or.inl ⟨by rfl, fun w' hw' => ?_⟩) (by assumption) ?_
              · clear hHeld
                go_simp
              simp only [Act.put, List.setIfInBounds_toArray, List.set_cons_zero, List.set_cons_succ]
              refine wpAnyH_take (i := 18) (oi := ⟨some 4, _, _, _, _, _⟩) (v := .bool true) rfl (by kernel_rfl) (by kernel_rfl) (by kernel_rfl) (fun _ _ _ h => h) (Or.inl ⟨by rfl, fun w' hw' => ?_⟩) (by assumption) ?_
              · clear hHeld
                go_simp
              simp only [Act.put, List.setIfInBounds_toArray, List.set_cons_zero, List.set_cons_succ]
              refine wpAnyH_done (by kernel_rfl) ?_ _
              have hb9 := hHeld.1.out
              have HFIN := Lib.hid (HB012.out.trans ((HH9.out.below.trans (hb9.mono HH9.out.below.size)).mono HB012.out.size))
              clear hHeld hb9
              go_wp2_with fail
              go_ret
              exact ⟨rfl, HFIN.out⟩
          · have hne : (e2 == 0) = false := by simpa using he2
            have hne2 : (e2 != 0) = true := by simpa using he2
            go_wp2_with fail
            refine (disk_works _).mono ?_
            rintro e W9 ⟨rfl, hb9⟩
            have HB9 := Lib.hid (HB012.out.trans ((HH8.out.later hb9).below.mono HB012.out.size))
            clear hb9
            go_wp2_with fail
            go_ret
            exact ⟨rfl, HB9.out⟩
        · have hne : (e1 == 0) = false := by simpa using he1
          have hne2 : (e1 != 0) = true := by simpa using he1
          go_wp2_with fail
          refine (disk_works _).mono ?_
          rintro e W9 ⟨rfl, hb9⟩
          have HB9 := Lib.hid (HB012.out.trans ((HH6.out.later hb9).below.mono HB012.out.size))
          clear hb9
          go_wp2_with fail
          go_ret
          exact ⟨rfl, HB9.out⟩

set_option maxRecDepth 100000 in
theorem lifted (os : Os) (started : os.Started) (H : Type) (enc : TypeId × Value → H) :
    ReturnsInHanded {} Try.checked os 6 .any (Rows.diskTailSpec.pre6 enc Try.prog Try.f6 Rows.diskTailRow.domain false) (Rows.diskTailSpec.post enc Try.prog Try.f6 false true false false) := by
  refine returnsInHanded_of_change (C := Try.checked) own started (by kernel_rfl) Try.func6
    (ChangeSpec.witness6 (enc := enc) (C := Try.checked) false ⟨#[], #[.slice none 0 0, .agg #[.slice none 0 0, .slice none 0 0, .int .u8 0, .int .u8 0]], []⟩ 8 (by kernel_rfl) (by kernel_rfl) (by kernel_rfl) (by kernel_rfl)) ?_
  intro W base args ds gs before hval0 hW hcnd _
  have hval : ∀ (j : Nat) t v, Try.f6.params[j]? = some t → args[j]? = some v → Value.okWide Try.prog W .any base t v := hval0
  have hW' := hW
  obtain ⟨p, q, hA0, hV, rfl, hfz, hnd⟩ := hW
  have hA : DataW.TrodAll enc Try.prog W 0 (fun _ => true) true Try.f6.params.toList args.toList ds p := hA0
  rw [Try.params6] at hA hval
  obtain ⟨v0, vs0, d0, ds0, p0, q0, hargs, rfl, rfl, h0, r0⟩ := trodAll_cons hA
  obtain ⟨v1, vs1, d1, ds1, p1, q1, rfl, rfl, rfl, h1, r1⟩ := trodAll_cons r0
  obtain ⟨rfl, rfl, rfl⟩ := trodAll_nil r1
  obtain rfl : args = #[v0, v1] := by cases args; simp_all
  obtain ⟨rfl, rfl⟩ := trodVars_none hV
  obtain ⟨a0, len0, cap0, rfl⟩ := okWide_slice Try.underlying23 (hval 0 23 v0 rfl rfl)
  have k0 := h0
  have lt0 : ∀ x ∈ p0, x.block < W.heap.size := by obtain ⟨m, hm⟩ := k0; exact DataW.trod_lt m _ _ _ hm
  obtain ⟨L0, w0⟩ : ∃ L, AL W a0 len0 cap0 L ∧ ∀ y ∈ L, AnyA y := by
    obtain ⟨fuel, hf⟩ := h0
    exact open_acts hf
  have k1 := h1
  have lt1 : ∀ x ∈ p1, x.block < W.heap.size := by obtain ⟨m, hm⟩ := k1; exact DataW.trod_lt m _ _ _ hm
  obtain ⟨a1, rfl, w1⟩ := open_tail (hval 1 56 v1 rfl rfl) h1
  clear hA0 hval0
  refine (walk a0 len0 cap0 L0 a1 W w0 w1).mono fun e W' ⟨he, bel⟩ => ?_
  subst he
  exact ⟨_, rfl, _, _, _, [], _, [], hW', trodAll_mk1 (shut_bool Try.underlying4 _), (trodAll_cons_mk (Below.trod laidOut (by kernel_rfl) (of_decide_eq_true (by kernel_rfl)) k0 bel lt0) (trodAll_cons_mk (Below.trod laidOut (by kernel_rfl) (of_decide_eq_true (by kernel_rfl)) k1 bel lt1) trodAll_mk0)), rfl, bel.frame _, fun h => by cases h⟩

theorem over : Rows.diskTailRow.holds Try.pinned (OpenSpec.ofChange Rows.diskTailSpec) :=
  OpenClaim.holds_of_wide 6 Try.f6 rfl rfl rfl rfl rfl rfl rfl ⟨rfl, rfl, rfl, rfl, rfl⟩ rfl rfl rfl rfl rfl (by kernel_rfl) Try.func6 (by kernel_rfl)
    (of_decide_eq_true (by kernel_rfl)) (by unfold Func.isWrapper; first | (rw [if_pos (by decide +kernel)]; kernel_rfl) | (rw [if_neg (by decide +kernel)]; exact ⟨rfl, rfl⟩))
    (fun os started H enc _ => lifted os started H enc)

theorem proved : Rows.DiskTailSaid := over
#print axioms proved
end Go.Proofs.Ytnciihekbbmiaaa.diskTail
