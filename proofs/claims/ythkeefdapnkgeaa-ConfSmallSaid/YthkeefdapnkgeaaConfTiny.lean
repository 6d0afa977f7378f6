/- A configuration by small numbers, as the statement makes it. -/
import Derived.Test.YthkeefdapnkgeaaConfTurn
import Derived.RegionTactic
import Derived.IntWalk
import Derived.Deep.RegionHeld
namespace Go.Proofs.Ythkeefdapnkgeaa
open Go.RowKit Go.ChangeShapes Go.WideShapes
set_option linter.unusedVariables false
set_option linter.unusedSimpArgs false

/-- A configuration of small numbers. -/
def tcf (s w : Nat) (p : Option Addr) (n c : Nat) (f : Nat → Int) (sg od rt se cp bk bs : Int) : Cf := ⟨s, w, p, n, c, f, sg, od, rt, se, cp, bk, bs⟩
theorem held3_set {w : World} {X B j : Nat} {v u0 u1 u2 : Value} (hne : X ≠ B) (hS : w.cell? ⟨X, 6, none⟩ = some u0 ∧ w.cell? ⟨X, 7, none⟩ = some u1 ∧ w.cell? ⟨X, 8, none⟩ = some u2) :
    (w.setCell ⟨B, j, none⟩ v).cell? ⟨X, 6, none⟩ = some u0 ∧ (w.setCell ⟨B, j, none⟩ v).cell? ⟨X, 7, none⟩ = some u1 ∧ (w.setCell ⟨B, j, none⟩ v).cell? ⟨X, 8, none⟩ = some u2 :=
  ⟨(World.cell?_setCell_other _ _ _ _ (fun e => hne (by cases e; rfl))).trans hS.1, (World.cell?_setCell_other _ _ _ _ (fun e => hne (by cases e; rfl))).trans hS.2.1, (World.cell?_setCell_other _ _ _ _ (fun e => hne (by cases e; rfl))).trans hS.2.2⟩
theorem held2_set {w : World} {X B j : Nat} {v u0 u1 : Value} (hne : X ≠ B) (hS : w.cell? ⟨X, 9, none⟩ = some u0 ∧ w.cell? ⟨X, 11, none⟩ = some u1) :
    (w.setCell ⟨B, j, none⟩ v).cell? ⟨X, 9, none⟩ = some u0 ∧ (w.setCell ⟨B, j, none⟩ v).cell? ⟨X, 11, none⟩ = some u1 :=
  ⟨(World.cell?_setCell_other _ _ _ _ (fun e => hne (by cases e; rfl))).trans hS.1, (World.cell?_setCell_other _ _ _ _ (fun e => hne (by cases e; rfl))).trans hS.2⟩
def needT (n : Nat) (sg od : Int) (b : Nat) : Nat := 2 * (piecesN n (b / 16) + piecesN (mostI sg od).toNat b) + 2
theorem SInv.cg {W wr : World} {X R B : Nat} {sb : Array Value} {C : Cf} {M : List D} (h : SInv W wr X R B sb C M) (C' : Cf) (he : cc C = cc C') (h1 : C'.fp = C.fp) (h2 : C'.fn = C.fn) (h3 : C'.fc = C.fc) : SInv W wr X R B sb C' M := by
  refine ⟨h.cb.congr he, h.ret, h.box, ?_, ?_, h.below, h.xB, h.rB, h.geB, h.geR, ?_, ?_, ?_, ?_⟩
  · rw [h1, h2, h3]; exact h.row
  · rw [h1]; exact h.fz
  · rw [h1]; exact h.pB
  · rw [h1]; exact h.pR
  · rw [h1]; exact h.pX
  · rw [h1]; exact h.pW
theorem need_tcf (s w : Nat) (p : Option Addr) (n c : Nat) (f : Nat → Int) (sg od rt se cp bk bs : Int) (b : Nat) : 2 * areaN (tcf s w p n c f sg od rt se cp bk bs) b + 2 = needT n sg od b := rfl
/-- A small configuration, made. -/
def MadeS (W : World) (s w t l : Nat) (lo hi : Int) (sg od rt se cp bk : Nat) (e : Ending) (w' : World) : Prop := ∃ p c n, n = (plainL s w lo hi).length ∧ e = .returned (.agg (cc (tcf s w p n c (prM w s t s 0) sg od rt se cp bk (needT n sg od bk : Nat)))) ∧ DL w' p n c (mix (-(l : Int)) n n (plainL s w lo hi)) ∧ Below W.heap.size W w'
set_option maxHeartbeats 4000000 in
theorem config_any (n0 n1 n2 n3 n4 n5 n6 n7 n8 n9 n10 n11 : Nat) (b0 : n0 < 256) (b1 : n1 < 256) (b2 : n2 < 256) (b3 : n3 < 65536) (b4 : n4 < 256) (b5 : n5 < 256) (b6 : n6 < 256) (b7 : n7 < 256) (b8 : n8 < 256) (b9 : n9 < 256) (b10 : n10 < 65536) (b11 : n11 < 256) (W : World) : Calls Try.prog 16 #[.agg #[.int .u8 n0, .int .u8 n1, .int .u8 n2, .int .u16 n3, .int .u8 n4, .int .u8 n5, .int .u8 n6, .int .u8 n7, .int .u8 n8, .int .u8 n9, .int .u16 n10, .int .u8 n11]] W (MadeS W (1 + n0 % 3) (1 + n1 % 3) n5 (n4 % 4) n2 (highI n2 n3) (1 + n6 % 8) (1 + n7 % 32) (n8 % 5) (64 + n9) (64 + n9 + 1 + n10) (64 + 2 * n11)) := by
  obtain ⟨m0, e0⟩ : ∃ m, n0 % 3 = m := ⟨_, rfl⟩
  obtain ⟨m1, e1⟩ : ∃ m, n1 % 3 = m := ⟨_, rfl⟩
  obtain ⟨m4, e4⟩ : ∃ m, n4 % 4 = m := ⟨_, rfl⟩
  obtain ⟨m6, e6⟩ : ∃ m, n6 % 8 = m := ⟨_, rfl⟩
  obtain ⟨m7, e7⟩ : ∃ m, n7 % 32 = m := ⟨_, rfl⟩
  obtain ⟨m8, e8⟩ : ∃ m, n8 % 5 = m := ⟨_, rfl⟩
  have l0 : m0 ≤ 2 := by omega
  have l1 : m1 ≤ 2 := by omega
  have l4 : m4 ≤ 3 := by omega
  have l6 : m6 ≤ 7 := by omega
  have l7 : m7 ≤ 31 := by omega
  have l8 : m8 ≤ 4 := by omega
  have T0 : Hid ((n0 : Int).tmod 3 = (m0 : Int) ∧ (n0 : Int) % 3 = (m0 : Int)) := Lib.hid ⟨by rw [← e0]; rfl, by omega⟩
  have T1 : Hid ((n1 : Int).tmod 3 = (m1 : Int) ∧ (n1 : Int) % 3 = (m1 : Int)) := Lib.hid ⟨by rw [← e1]; rfl, by omega⟩
  have T4 : Hid ((n4 : Int).tmod 4 = (m4 : Int) ∧ (n4 : Int) % 4 = (m4 : Int)) := Lib.hid ⟨by rw [← e4]; rfl, by omega⟩
  have T6 : Hid ((n6 : Int).tmod 8 = (m6 : Int) ∧ (n6 : Int) % 8 = (m6 : Int)) := Lib.hid ⟨by rw [← e6]; rfl, by omega⟩
  have T7 : Hid ((n7 : Int).tmod 32 = (m7 : Int) ∧ (n7 : Int) % 32 = (m7 : Int)) := Lib.hid ⟨by rw [← e7]; rfl, by omega⟩
  have T8 : Hid ((n8 : Int).tmod 5 = (m8 : Int) ∧ (n8 : Int) % 5 = (m8 : Int)) := Lib.hid ⟨by rw [← e8]; rfl, by omega⟩
  rw [e0, e1, e4, e6, e7, e8]
  obtain ⟨g6, hg6⟩ : ∃ g, 1 + m6 = g := ⟨_, rfl⟩
  obtain ⟨g7, hg7⟩ : ∃ g, 1 + m7 = g := ⟨_, rfl⟩
  obtain ⟨g9, hg9⟩ : ∃ g, 64 + n9 = g := ⟨_, rfl⟩
  obtain ⟨g10, hg10⟩ : ∃ g, g9 + 1 + n10 = g := ⟨_, rfl⟩
  obtain ⟨k11, hk11⟩ : ∃ g, 2 * n11 = g := ⟨_, rfl⟩
  obtain ⟨g11, hg11⟩ : ∃ g, 64 + k11 = g := ⟨_, rfl⟩
  have W6 : Hid (IntKind.i64.wrap (m6 : Int) = m6 ∧ IntKind.i64.wrap (1 + (m6 : Int)) = g6) := Lib.hid ⟨IntWalk.i64_in _ (by omega), by rw [IntWalk.i64_in _ (by omega)]; omega⟩
  have W7 : Hid (IntKind.i64.wrap (m7 : Int) = m7 ∧ IntKind.i64.wrap (1 + (m7 : Int)) = g7) := Lib.hid ⟨IntWalk.i64_in _ (by omega), by rw [IntWalk.i64_in _ (by omega)]; omega⟩
  have W8 : Hid (IntKind.i64.wrap (m8 : Int) = m8) := Lib.hid (IntWalk.i64_in _ (by omega))
  have W9 : Hid (IntKind.i64.wrap (n9 : Int) = n9 ∧ IntKind.i64.wrap (64 + (n9 : Int)) = g9) := Lib.hid ⟨IntWalk.i64_in _ (by omega), by rw [IntWalk.i64_in _ (by omega)]; omega⟩
  have W11 : Hid (IntKind.i64.wrap (n11 : Int) = n11 ∧ IntKind.i64.wrap (2 * (n11 : Int)) = k11 ∧ IntKind.i64.wrap (64 + (k11 : Int)) = g11) := Lib.hid ⟨IntWalk.i64_in _ (by omega), by rw [IntWalk.i64_in _ (by omega)]; omega, by rw [IntWalk.i64_in _ (by omega)]; omega⟩
  have W10 : Hid ((g9 : Int) + 1 + (n10 : Int) = g10) := Lib.hid (by omega)
  have W5 : Hid (IntKind.i64.wrap (n5 : Int) = n5) := Lib.hid (IntWalk.i64_in _ (by omega))
  have lg9 : g9 ≤ 400 := by omega
  have lg11 : 64 ≤ g11 ∧ g11 ≤ 600 := by omega
  rw [hg6, hg7, hg9, hg10, hk11, hg11]
  clear hg6 hg7 hg9 hg10 hk11 hg11
  clear e0 e1 e4 e6 e7 e8
  obtain ⟨s, hs⟩ : ∃ s, 1 + m0 = s := ⟨_, rfl⟩
  obtain ⟨w, hw⟩ : ∃ w, 1 + m1 = w := ⟨_, rfl⟩
  rw [hs, hw]
  have hs3 : 1 ≤ s ∧ s ≤ 3 := by omega
  have hw3 : 1 ≤ w ∧ w ≤ 3 := by omega
  have HK1 : keptI (1 + (m0 : Int)) 1 4 = s := by
    unfold keptI
    repeat' split
    all_goals omega
  have HK2 : keptI (1 + (m1 : Int)) 1 4 = w := by
    unfold keptI
    repeat' split
    all_goals omega
  have HP := Lib.hid fun W => refplainf_any (1 + (m0 : Int)) (1 + (m1 : Int)) n2 n3 s w HK1 HK2 (by omega) (by omega) (by omega) W
  have HML := Lib.hid (plain_len s w n2 (highI n2 n3))
  have hl := all_len s w (by omega) (by omega)
  have HKY : Hid (∀ p n c f sg od rt se cp bk bs, n = (allQ s w 5).length → Keys (tcf s w p n c f sg od rt se cp bk bs) s w) := Lib.hid fun p n c f sg od rt se cp bk bs e => ⟨by omega, by omega, by omega, by omega, rfl, rfl, e⟩
  unfold MadeF at HP
  unfold MadeS
  clear HK1 HK2 hs hw
  generalize plainL s w n2 (highI n2 n3) = M at *
  generalize (allQ s w 5).length = N at *
  have hb0 : Below W.heap.size W ((W.alloc (.cells #[.int .u8 n0, .int .u8 n1, .int .u8 n2, .int .u16 n3, .int .u8 n4, .int .u8 n5, .int .u8 n6, .int .u8 n7, .int .u8 n8, .int .u8 n9, .int .u16 n10, .int .u8 n11] 45)).alloc (.cells #[.int .i64 0, .int .i64 0, .slice none 0 0, .int .u8 0, .int .u8 0, .int .u8 0, .int .u8 0, .int .u8 0, .int .u8 0, .int .u8 0, .int .u8 0, .int .u8 0, .int .u8 0, .int .u8 0, .int .u8 0, .int .u8 0, .int .u8 0, .int .u8 0, .int .u8 0, .int .i64 0, .int .i64 0, .int .i64 0, .int .i64 0, .int .i64 0, .int .i64 0, .int .i64 0] 30)) := ((Below.refl W.heap.size W).alloc (Nat.le_refl _) _).alloc (by simp) _
  have HX0 := Lib.hid (block_later (alloc_block W (.cells #[.int .u8 n0, .int .u8 n1, .int .u8 n2, .int .u16 n3, .int .u8 n4, .int .u8 n5, .int .u8 n6, .int .u8 n7, .int .u8 n8, .int .u8 n9, .int .u16 n10, .int .u8 n11] 45)) ((Below.refl _ _).alloc (Nat.le_refl _) (.cells #[.int .i64 0, .int .i64 0, .slice none 0 0, .int .u8 0, .int .u8 0, .int .u8 0, .int .u8 0, .int .u8 0, .int .u8 0, .int .u8 0, .int .u8 0, .int .u8 0, .int .u8 0, .int .u8 0, .int .u8 0, .int .u8 0, .int .u8 0, .int .u8 0, .int .u8 0, .int .i64 0, .int .i64 0, .int .i64 0, .int .i64 0, .int .i64 0, .int .i64 0, .int .i64 0] 30)))
  have HR0 : Hid (((W.alloc (.cells #[.int .u8 n0, .int .u8 n1, .int .u8 n2, .int .u16 n3, .int .u8 n4, .int .u8 n5, .int .u8 n6, .int .u8 n7, .int .u8 n8, .int .u8 n9, .int .u16 n10, .int .u8 n11] 45)).alloc (.cells #[.int .i64 0, .int .i64 0, .slice none 0 0, .int .u8 0, .int .u8 0, .int .u8 0, .int .u8 0, .int .u8 0, .int .u8 0, .int .u8 0, .int .u8 0, .int .u8 0, .int .u8 0, .int .u8 0, .int .u8 0, .int .u8 0, .int .u8 0, .int .u8 0, .int .u8 0, .int .i64 0, .int .i64 0, .int .i64 0, .int .i64 0, .int .i64 0, .int .i64 0, .int .i64 0] 30)).heap[W.heap.size + 1]? = some (.cells #[.int .i64 0, .int .i64 0, .slice none 0 0, .int .u8 0, .int .u8 0, .int .u8 0, .int .u8 0, .int .u8 0, .int .u8 0, .int .u8 0, .int .u8 0, .int .u8 0, .int .u8 0, .int .u8 0, .int .u8 0, .int .u8 0, .int .u8 0, .int .u8 0, .int .u8 0, .int .i64 0, .int .i64 0, .int .i64 0, .int .i64 0, .int .i64 0, .int .i64 0, .int .i64 0] 30 (0, 0))) := by
    have h := alloc_block (W.alloc (.cells #[.int .u8 n0, .int .u8 n1, .int .u8 n2, .int .u16 n3, .int .u8 n4, .int .u8 n5, .int .u8 n6, .int .u8 n7, .int .u8 n8, .int .u8 n9, .int .u16 n10, .int .u8 n11] 45)) (.cells #[.int .i64 0, .int .i64 0, .slice none 0 0, .int .u8 0, .int .u8 0, .int .u8 0, .int .u8 0, .int .u8 0, .int .u8 0, .int .u8 0, .int .u8 0, .int .u8 0, .int .u8 0, .int .u8 0, .int .u8 0, .int .u8 0, .int .u8 0, .int .u8 0, .int .u8 0, .int .i64 0, .int .i64 0, .int .i64 0, .int .i64 0, .int .i64 0, .int .i64 0, .int .i64 0] 30)
    simpa using Lib.hid h
  have HB0 := Lib.hid hb0
  clear hb0
  go_enter Try.func16, Try.ntmps16
  go_upto_region 1 with (fail)
  generalize (W.alloc (.cells #[.int .u8 n0, .int .u8 n1, .int .u8 n2, .int .u16 n3, .int .u8 n4, .int .u8 n5, .int .u8 n6, .int .u8 n7, .int .u8 n8, .int .u8 n9, .int .u16 n10, .int .u8 n11] 45)).alloc (.cells #[.int .i64 0, .int .i64 0, .slice none 0 0, .int .u8 0, .int .u8 0, .int .u8 0, .int .u8 0, .int .u8 0, .int .u8 0, .int .u8 0, .int .u8 0, .int .u8 0, .int .u8 0, .int .u8 0, .int .u8 0, .int .u8 0, .int .u8 0, .int .u8 0, .int .u8 0, .int .i64 0, .int .i64 0, .int .i64 0, .int .i64 0, .int .i64 0, .int .i64 0, .int .i64 0] 30) = W0 at *
  have x0 := block_cell (j := 0) HX0.out (v := .int .u8 n0) rfl
  have x1 := block_cell (j := 1) HX0.out (v := .int .u8 n1) rfl
  have x2 := block_cell (j := 2) HX0.out (v := .int .u8 n2) rfl
  have x3 := block_cell (j := 3) HX0.out (v := .int .u16 n3) rfl
  obtain ⟨t0, t0'⟩ := T0.out
  obtain ⟨t1, t1'⟩ := T1.out
  go_wp2_with fail
  refine (HP.out _).mono ?_
  rintro e W2 ⟨p, c, n, hn, rfl, hd, hb, hpw, hfz⟩
  have HN := Lib.hid (hn.trans HML.out)
  have HNM := Lib.hid hn
  have hnl : n ≤ 80 := by rw [HN.out]; exact hl
  have hi0 : SInv W (W2.alloc (.cells (cc (tcf s w p n c (prK w s 0) 8 32 2 256 65536 256 (needN n : Nat))) 30)) W.heap.size (W.heap.size + 1) W2.heap.size #[.int .u8 n0, .int .u8 n1, .int .u8 n2, .int .u16 n3, .int .u8 n4, .int .u8 n5, .int .u8 n6, .int .u8 n7, .int .u8 n8, .int .u8 n9, .int .u16 n10, .int .u8 n11] (tcf s w p n c (prK w s 0) 8 32 2 256 65536 256 (needN n : Nat)) (mix (-(m4 : Int)) 0 n M) := by
    have hb2 := (Below.refl W2.heap.size W2).alloc (Nat.le_refl _) (.cells (cc (tcf s w p n c (prK w s 0) 8 32 2 256 65536 256 (needN n : Nat))) 30)
    have h1 := HB0.out.size
    have h2 := hb.size
    have h3 := block_lt HX0.out
    have h4 := block_lt HR0.out
    have hBB := (HB0.out.trans (hb.mono h1)).trans (hb2.mono (by omega))
    refine ⟨CB.new W2 (tcf s w p n c (prK w s 0) 8 32 2 256 65536 256 (needN n : Nat)), ⟨_, block_later (block_later HR0.out hb) hb2, rfl⟩, block_later (block_later HX0.out hb) hb2, ?_, fun q hq => free_later (hfz q hq) hb2, hBB, by omega, by omega, by omega, by omega, fun q hq => ?_, fun q hq => ?_, fun q hq => ?_, fun q hq => ?_⟩
    · rw [mix_zero _ _ _ hn.symm]; exact hd.later hb2
    · obtain ⟨cur, tt, hz⟩ := hfz q hq
      have := block_lt hz
      omega
    · have := hpw q hq
      omega
    · have := hpw q hq
      omega
    · have := hpw q hq
      omega
  have HI0 := Lib.hid hi0
  clear hn hd hb hpw hfz hi0 HP HML HX0 HR0 HB0 x0 x1 x2 x3 t0 t0' t1 t1' T0 T1
  go_upto_region 2 with ((with_reducible refine wpList_store_new (C := (tcf s w p n c (prK w s 0) 8 32 2 256 65536 256 (needN n : Nat))) ?_ ?_ ?_ ?_); rfl; rfl; rfl)
  generalize W2.alloc (.cells (cc (tcf s w p n c (prK w s 0) 8 32 2 256 65536 256 (needN n : Nat))) 30) = W3 at *
  generalize W2.heap.size = B at *
  go_wp2_with fail
  go_loopw [4] (fun iv wr => ∃ j : Nat, j ≤ n ∧ iv = .int .i64 j ∧ Hid (SInv W wr W.heap.size (W.heap.size + 1) B #[.int .u8 n0, .int .u8 n1, .int .u8 n2, .int .u16 n3, .int .u8 n4, .int .u8 n5, .int .u8 n6, .int .u8 n7, .int .u8 n8, .int .u8 n9, .int .u16 n10, .int .u8 n11] (tcf s w p n c (prK w s 0) 8 32 2 256 65536 256 (needN n : Nat)) (mix (-(m4 : Int)) j n M))) (fun iv _ => n - (intOf iv).toNat)
  case atStart => exact ⟨0, Nat.zero_le _, rfl, HI0⟩
  case round =>
    clear HI0
    obtain ⟨j, hj, rfl, HI⟩ := hrel
    have z2 := block_cell (j := 2) HI.out.cb (v := .slice p n c) rfl
    by_cases hlt : j < n
    · have hlt' : (j : Int) < n := by omega
      obtain ⟨b, off, hp', hbl, hcell⟩ := HI.out.row.cell (by show 0 < n; omega)
      have hp : p = some ⟨b, off, none⟩ := hp'
      have c3 := hcell j hlt 3 _ rfl
      obtain ⟨cur, tt, hz⟩ := HI.out.fz _ hp'
      have zf := block_free (off + j * 6 + 3) hz
      have y4 := block_cell (j := 4) HI.out.box (v := .int .u8 n4) rfl
      obtain ⟨t4, t4'⟩ := T4.out
      have HNX := Lib.hid (HI.out.lo hp' hlt)
      rw [hp] at z2
      have hnl' : (n : Int) ≤ 80 := by omega
      clear hp hp' hcell hz
      go_wp2_with fail
      go_roundw
      case rel => exact ⟨j + 1, by omega, by go_num, HNX⟩
      case measure => simp [intOf]; omega
    · obtain rfl : n = j := by omega
      have HI2 : Hid (SInv W wr W.heap.size (W.heap.size + 1) B #[.int .u8 n0, .int .u8 n1, .int .u8 n2, .int .u16 n3, .int .u8 n4, .int .u8 n5, .int .u8 n6, .int .u8 n7, .int .u8 n8, .int .u8 n9, .int .u16 n10, .int .u8 n11] (tcf s w p n c (prM w s n5 0 0) 8 32 2 256 65536 256 (needN n : Nat)) (mix (-(m4 : Int)) n n M)) := Lib.hid (HI.out.cg _ (cc_pr (tcf s w p n c (prK w s 0) 8 32 2 256 65536 256 (needN n : Nat)) _ _ fun q _ => prM_zero w s n5 q) rfl rfl rfl)
      go_wp2_with fail
      clear z2 HI
      go_loopw [5] (fun iv wr => ∃ a : Nat, a ≤ s ∧ iv = .int .i64 a ∧ Hid (SInv W wr W.heap.size (W.heap.size + 1) B #[.int .u8 n0, .int .u8 n1, .int .u8 n2, .int .u16 n3, .int .u8 n4, .int .u8 n5, .int .u8 n6, .int .u8 n7, .int .u8 n8, .int .u8 n9, .int .u16 n10, .int .u8 n11] (tcf s w p n c (prM w s n5 a 0) 8 32 2 256 65536 256 (needN n : Nat)) (mix (-(m4 : Int)) n n M))) (fun iv _ => s - (intOf iv).toNat)
      case atStart => exact ⟨0, Nat.zero_le _, rfl, HI2⟩
      case round =>
        clear HI2
        obtain ⟨a, ha, rfl, HI⟩ := hrel
        have z0 := block_cell (j := 0) HI.out.cb (v := .int .i64 s) rfl
        by_cases hlt : a < s
        · have hlt' : (a : Int) < s := by omega
          have ha4 : a < 4 := by omega
          have ha4' : (a : Int) < 4 := by omega
          go_wp2_with fail
          clear z0
          go_loopw [6] (fun iv wr => ∃ b : Nat, b ≤ w ∧ iv = .int .i64 b ∧ Hid (SInv W wr W.heap.size (W.heap.size + 1) B #[.int .u8 n0, .int .u8 n1, .int .u8 n2, .int .u16 n3, .int .u8 n4, .int .u8 n5, .int .u8 n6, .int .u8 n7, .int .u8 n8, .int .u8 n9, .int .u16 n10, .int .u8 n11] (tcf s w p n c (prM w s n5 a b) 8 32 2 256 65536 256 (needN n : Nat)) (mix (-(m4 : Int)) n n M))) (fun iv _ => w - (intOf iv).toNat)
          case atStart => exact ⟨0, Nat.zero_le _, rfl, HI⟩
          case round =>
            clear HI
            obtain ⟨b, hb, rfl, HI⟩ := hrel
            have z1 := block_cell (j := 1) HI.out.cb (v := .int .i64 w) rfl
            by_cases hlt2 : b < w
            · have hlt2' : (b : Int) < w := by omega
              have hb4 : b < 4 := by omega
              have hb4' : (b : Int) < 4 := by omega
              obtain ⟨r, hr⟩ : ∃ r, (b + a + n5) % w = r := ⟨_, rfl⟩
              have hrl : r < w := by rw [← hr]; exact Nat.mod_lt _ (by omega)
              have hcell := HI.out.cb.prio (a * 4 + b) (by omega)
              have hfz := block_free (3 + a * 4 + b) HI.out.cb
              rw [← Nat.add_assoc] at hcell
              have HNX : Hid (SInv W (wr.drew.setCell ⟨B, 3 + a * 4 + b, none⟩ (.int .u8 r)) W.heap.size (W.heap.size + 1) B #[.int .u8 n0, .int .u8 n1, .int .u8 n2, .int .u16 n3, .int .u8 n4, .int .u8 n5, .int .u8 n6, .int .u8 n7, .int .u8 n8, .int .u8 n9, .int .u16 n10, .int .u8 n11] (tcf s w p n c (prM w s n5 a (b + 1)) 8 32 2 256 65536 256 (needN n : Nat)) (mix (-(m4 : Int)) n n M)) := by
                have h1 := HI.out.drew
                have h2 := (h1.cb.put (a * 4 + b) r (by omega)).congr (C' := (tcf s w p n c (prM w s n5 a (b + 1)) 8 32 2 256 65536 256 (needN n : Nat))) (cc_pr (tcf s w p n c (prM w s n5 a b) 8 32 2 256 65536 256 (needN n : Nat)) _ _ fun q _ => by rw [← hr]; exact prM_put w s n5 a b hb4 q)
                rw [← Nat.add_assoc] at h2
                exact Lib.hid (h1.set _ _ _ h2 rfl rfl rfl)
              have y5 := block_cell (j := 5) HI.out.box (v := .int .u8 n5) rfl
              have w5 := W5.out
              obtain ⟨u, hu⟩ : ∃ u, b + a = u := ⟨_, rfl⟩
              obtain ⟨v, hv⟩ : ∃ v, u + n5 = v := ⟨_, rfl⟩
              have d1 : ((w : Int) == 0) = false := by rw [beq_eq_false_iff_ne]; omega
              have d2 : ((w : Int) == -1) = false := by rw [beq_eq_false_iff_ne]; omega
              have d3 : ¬ (w : Int) = 0 := by omega
              have d4 : ¬ w = 0 := by omega
              have q1 : IntKind.i64.wrap ((b : Int) + a) = u := by rw [IntWalk.i64_in _ (by omega)]; omega
              have q2 : IntKind.i64.wrap ((u : Int) + n5) = v := by rw [IntWalk.i64_in _ (by omega)]; omega
              have q3 : (v : Int).tmod w = r := by rw [← hr, hu, hv]; rfl
              have q4 : IntKind.u8.wrap (r : Int) = r := IntWalk.u8_in _ (by omega)
              have q5 : IntKind.i64.wrap (r : Int) = r := IntWalk.i64_in _ (by omega)
              clear hr hu hv
              go_upto_region 12 with (fail)
              refine wp_region_still_tail 16 (by kernel_rfl) (by kernel_rfl) ?_
              simp only [List.take_succ_cons, List.take_zero, List.drop_succ_cons, List.drop_zero]
              repeat still_step
              refine wpStill_nil ?_
              change wpList _ _ _ _ _ wr.drew
              clear q1 q2 q3 q4 q5 d1 d2 d3 d4
              go_wp2_with fail
              go_roundw
              case rel => exact ⟨b + 1, by omega, by go_num, HNX⟩
              case measure => simp [intOf]; omega
            · obtain rfl : w = b := by omega
              have HNX : Hid (SInv W wr W.heap.size (W.heap.size + 1) B #[.int .u8 n0, .int .u8 n1, .int .u8 n2, .int .u16 n3, .int .u8 n4, .int .u8 n5, .int .u8 n6, .int .u8 n7, .int .u8 n8, .int .u8 n9, .int .u16 n10, .int .u8 n11] (tcf s w p n c (prM w s n5 (a + 1) 0) 8 32 2 256 65536 256 (needN n : Nat)) (mix (-(m4 : Int)) n n M)) := Lib.hid (HI.out.cg _ (cc_pr (tcf s w p n c (prM w s n5 a w) 8 32 2 256 65536 256 (needN n : Nat)) _ _ fun q _ => prM_row w s n5 a q) rfl rfl rfl)
              go_wp2_with fail
              go_roundw
              case rel => exact ⟨a + 1, by omega, by go_num, HNX⟩
              case measure => simp [intOf]; omega
        · obtain rfl : s = a := by omega
          have hBX : W.heap.size ≠ B := HI.out.xB
          have y6 := block_cell (j := 6) HI.out.box (v := .int .u8 n6) rfl
          have y7 := block_cell (j := 7) HI.out.box (v := .int .u8 n7) rfl
          have y8 := block_cell (j := 8) HI.out.box (v := .int .u8 n8) rfl
          have z19 := block_cell (j := 19) HI.out.cb (v := .int .i64 8) rfl
          have z20 := block_cell (j := 20) HI.out.cb (v := .int .i64 32) rfl
          have z21 := block_cell (j := 21) HI.out.cb (v := .int .i64 2) rfl
          have f19 := block_free 19 HI.out.cb
          have f20 := block_free 20 HI.out.cb
          have f21 := block_free 21 HI.out.cb
          have hS0 : (fun w' => w'.cell? ⟨W.heap.size, 6, none⟩ = some (.int .u8 n6) ∧ w'.cell? ⟨W.heap.size, 7, none⟩ = some (.int .u8 n7) ∧ w'.cell? ⟨W.heap.size, 8, none⟩ = some (.int .u8 n8)) wr.drew := ⟨y6, y7, y8⟩
          have H3 : Hid (SInv W (((wr.setCell ⟨B, 19, none⟩ (.int .i64 g6)).setCell ⟨B, 20, none⟩ (.int .i64 g7)).setCell ⟨B, 21, none⟩ (.int .i64 m8)).drew W.heap.size (W.heap.size + 1) B #[.int .u8 n0, .int .u8 n1, .int .u8 n2, .int .u16 n3, .int .u8 n4, .int .u8 n5, .int .u8 n6, .int .u8 n7, .int .u8 n8, .int .u8 n9, .int .u16 n10, .int .u8 n11] (tcf s w p n c (prM w s n5 s 0) g6 g7 m8 256 65536 256 (needN n : Nat)) (mix (-(m4 : Int)) n n M)) := by
            have h1 := HI.out
            have h2 := h1.set 19 (.int .i64 g6) (tcf s w p n c (prM w s n5 s 0) g6 32 2 256 65536 256 (needN n : Nat)) (block_put 19 _ h1.cb) rfl rfl rfl
            have h3 := h2.set 20 (.int .i64 g7) (tcf s w p n c (prM w s n5 s 0) g6 g7 2 256 65536 256 (needN n : Nat)) (block_put 20 _ h2.cb) rfl rfl rfl
            exact Lib.hid (h3.set 21 (.int .i64 m8) (tcf s w p n c (prM w s n5 s 0) g6 g7 m8 256 65536 256 (needN n : Nat)) (block_put 21 _ h3.cb) rfl rfl rfl).drew
          obtain ⟨t6, t6'⟩ := T6.out
          obtain ⟨t7, t7'⟩ := T7.out
          obtain ⟨t8, t8'⟩ := T8.out
          obtain ⟨w6, w6'⟩ := W6.out
          obtain ⟨w7, w7'⟩ := W7.out
          have w8 := W8.out
          go_upto_region 13 with (fail)
          clear z0
          go_region_held (fun w' => w'.cell? ⟨W.heap.size, 6, none⟩ = some (.int .u8 n6) ∧ w'.cell? ⟨W.heap.size, 7, none⟩ = some (.int .u8 n7) ∧ w'.cell? ⟨W.heap.size, 8, none⟩ = some (.int .u8 n8)) (first | exact hS0 | exact held3_set hBX (by assumption)) (fail)
          clear hS0 y6 y7 y8 z19 z20 z21 f19 f20 f21 t6 t6' t7 t7' t8 t8' w6 w6' w7 w7' w8 HI
          go_upto_region 14 with (fail)
          generalize (((wr.setCell ⟨B, 19, none⟩ (.int .i64 g6)).setCell ⟨B, 20, none⟩ (.int .i64 g7)).setCell ⟨B, 21, none⟩ (.int .i64 m8)).drew = w4 at *
          have y9 := block_cell (j := 9) H3.out.box (v := .int .u8 n9) rfl
          have y11 := block_cell (j := 11) H3.out.box (v := .int .u8 n11) rfl
          have z22 := block_cell (j := 22) H3.out.cb (v := .int .i64 256) rfl
          have z24 := block_cell (j := 24) H3.out.cb (v := .int .i64 256) rfl
          have f22 := block_free 22 H3.out.cb
          have f24 := block_free 24 H3.out.cb
          have hS0 : (fun w' => w'.cell? ⟨W.heap.size, 9, none⟩ = some (.int .u8 n9) ∧ w'.cell? ⟨W.heap.size, 11, none⟩ = some (.int .u8 n11)) w4.drew := ⟨y9, y11⟩
          have H4 : Hid (SInv W ((w4.setCell ⟨B, 22, none⟩ (.int .i64 g9)).setCell ⟨B, 24, none⟩ (.int .i64 g11)).drew W.heap.size (W.heap.size + 1) B #[.int .u8 n0, .int .u8 n1, .int .u8 n2, .int .u16 n3, .int .u8 n4, .int .u8 n5, .int .u8 n6, .int .u8 n7, .int .u8 n8, .int .u8 n9, .int .u16 n10, .int .u8 n11] (tcf s w p n c (prM w s n5 s 0) g6 g7 m8 g9 65536 g11 (needN n : Nat)) (mix (-(m4 : Int)) n n M)) := by
            have h1 := H3.out
            have h2 := h1.set 22 (.int .i64 g9) (tcf s w p n c (prM w s n5 s 0) g6 g7 m8 g9 65536 256 (needN n : Nat)) (block_put 22 _ h1.cb) rfl rfl rfl
            exact Lib.hid (h2.set 24 (.int .i64 g11) (tcf s w p n c (prM w s n5 s 0) g6 g7 m8 g9 65536 g11 (needN n : Nat)) (block_put 24 _ h2.cb) rfl rfl rfl).drew
          obtain ⟨w9, w9'⟩ := W9.out
          obtain ⟨w11, w11', w11''⟩ := W11.out
          go_region_held (fun w' => w'.cell? ⟨W.heap.size, 9, none⟩ = some (.int .u8 n9) ∧ w'.cell? ⟨W.heap.size, 11, none⟩ = some (.int .u8 n11)) (first | exact hS0 | exact held2_set hBX (by assumption)) (fail)
          clear hS0 y9 y11 z22 z24 f22 f24 w9 w9' w11 w11' w11'' H3
          go_upto_region 15 with (fail)
          generalize ((w4.setCell ⟨B, 22, none⟩ (.int .i64 g9)).setCell ⟨B, 24, none⟩ (.int .i64 g11)).drew = w5 at *
          have y10 := block_cell (j := 10) H4.out.box (v := .int .u16 n10) rfl
          have z22 := block_cell (j := 22) H4.out.cb (v := .int .i64 g9) rfl
          have z23 := block_cell (j := 23) H4.out.cb (v := .int .i64 65536) rfl
          have f23 := block_free 23 H4.out.cb
          have w10 := W10.out
          have H5 : Hid (SInv W (w5.setCell ⟨B, 23, none⟩ (.int .i64 g10)) W.heap.size (W.heap.size + 1) B #[.int .u8 n0, .int .u8 n1, .int .u8 n2, .int .u16 n3, .int .u8 n4, .int .u8 n5, .int .u8 n6, .int .u8 n7, .int .u8 n8, .int .u8 n9, .int .u16 n10, .int .u8 n11] (tcf s w p n c (prM w s n5 s 0) g6 g7 m8 g9 g10 g11 (needN n : Nat)) (mix (-(m4 : Int)) n n M)) := Lib.hid (H4.out.set 23 (.int .i64 g10) (tcf s w p n c (prM w s n5 s 0) g6 g7 m8 g9 g10 g11 (needN n : Nat)) (block_put 23 _ H4.out.cb) rfl rfl rfl)
          go_upto_region 16 with (fail)
          generalize w5.setCell ⟨B, 23, none⟩ (.int .i64 g10) = w6 at *
          clear y10 z22 z23 f23 w10 H4
          have HND := Lib.hid fun W => refneed_any (tcf s w p n c (prM w s n5 s 0) g6 g7 m8 g9 g10 g11 (needN n : Nat)) s w g11 (HKY.out p n c _ _ _ _ _ _ _ _ HN.out) rfl (by omega) (by omega) (by show n ≤ 1000000; omega) W
          rw [need_tcf] at HND
          go_wp2_with (first | ((with_reducible refine wpList_load_cf H5.out.cb ?_ ?_); rfl))
          refine (HND.out _).mono ?_
          rintro e w7 ⟨rfl, hb⟩
          have H6 := Lib.hid (H5.out.later hb)
          have H7 : Hid (SInv W (w7.setCell ⟨B, 25, none⟩ (.int .i64 (needT n g6 g7 g11 : Nat))) W.heap.size (W.heap.size + 1) B #[.int .u8 n0, .int .u8 n1, .int .u8 n2, .int .u16 n3, .int .u8 n4, .int .u8 n5, .int .u8 n6, .int .u8 n7, .int .u8 n8, .int .u8 n9, .int .u16 n10, .int .u8 n11] (tcf s w p n c (prM w s n5 s 0) g6 g7 m8 g9 g10 g11 (needT n g6 g7 g11 : Nat)) (mix (-(m4 : Int)) n n M)) := Lib.hid (H6.out.set 25 (.int .i64 (needT n g6 g7 g11 : Nat)) (tcf s w p n c (prM w s n5 s 0) g6 g7 m8 g9 g10 g11 (needT n g6 g7 g11 : Nat)) (block_put 25 _ H6.out.cb) rfl rfl rfl)
          have z25 := block_cell (j := 25) H6.out.cb (v := .int .i64 (needN n : Nat)) rfl
          have f25 := block_free 25 H6.out.cb
          clear hb H5
          go_upto_region 17 with (fail)
          generalize w7.setCell ⟨B, 25, none⟩ (.int .i64 (needT n g6 g7 g11 : Nat)) = w8 at *
          clear z25 f25 H6
          obtain ⟨old, ho1, ho2⟩ := H7.out.ret
          have HO := Lib.hid ho1
          have HO2 := Lib.hid ho2
          have HC8 : Hid (CB (w8.setRow (W.heap.size + 1) (cc (tcf s w p n c (prM w s n5 s 0) g6 g7 m8 g9 g10 g11 (needT n g6 g7 g11 : Nat)))) (W.heap.size + 1) (tcf s w p n c (prM w s n5 s 0) g6 g7 m8 g9 g10 g11 (needT n g6 g7 g11 : Nat))) := Lib.hid (CB.setRow _ HO.out)
          have HB8 := Lib.hid (below_setRow H7.out.below H7.out.geR (cc (tcf s w p n c (prM w s n5 s 0) g6 g7 m8 g9 g10 g11 (needT n g6 g7 g11 : Nat))))
          have HR8 := Lib.hid (H7.out.row.setRow (W.heap.size + 1) (cc (tcf s w p n c (prM w s n5 s 0) g6 g7 m8 g9 g10 g11 (needT n g6 g7 g11 : Nat))) H7.out.pR)
          clear ho1 ho2
          go_wp2_with (first | ((with_reducible refine wpList_load_cf H7.out.cb ?_ ?_); rfl) | ((with_reducible refine wpList_store_cf (C := (tcf s w p n c (prM w s n5 s 0) g6 g7 m8 g9 g10 g11 (needT n g6 g7 g11 : Nat))) HO.out HO2.out ?_ ?_ ?_); rfl; rfl))
          (try simp only [Exit.inBlock, Exit.then]); refine bodyPost_ret (v := .agg (cc (tcf s w p n c (prM w s n5 s 0) g6 g7 m8 g9 g10 g11 (needT n g6 g7 g11 : Nat)))) ?_ rfl ?_
          · exact results_cell_row rfl _ _ (W.heap.size + 1) 30 _ (0, 0) _ rfl HC8.out Try.underlying30 rfl (by kernel_rfl)
          exact ⟨p, c, n, HNM.out, rfl, HR8.out, HB8.out⟩
end Go.Proofs.Ythkeefdapnkgeaa
