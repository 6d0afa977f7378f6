/- conf.Plain. -/
import Derived.Test.YthkeefdapnkgeaaConfMade
namespace Go.Proofs.Ythkeefdapnkgeaa
open Go.RowKit Go.ChangeShapes Go.WideShapes
set_option linter.unusedVariables false
set_option linter.unusedSimpArgs false

/-- What a configuration with so many fields needs, with the most sagas and orders, in blocks of 256 bytes. -/
def needN (n : Nat) : Nat := 2 * (piecesN n 16 + 51) + 2
theorem most_max : (mostI 8 32).toNat = 12932 := by kernel_rfl
theorem pieces_max : piecesN 12932 256 = 51 := by kernel_rfl
theorem need_pcf (s w : Nat) (p : Option Addr) (n c : Nat) (f : Nat → Int) (bs : Int) : 2 * areaN (pcf s w p n c f bs) 256 + 2 = needN n := by
  show 2 * (piecesN n 16 + piecesN (mostI 8 32).toNat 256) + 2 = _
  rw [most_max, pieces_max]
  rfl
/-- A plain configuration, made. -/
def Made (W : World) (s w : Nat) (lo hi : Int) (e : Ending) (w' : World) : Prop := ∃ p c n, n = (plainL s w lo hi).length ∧ e = .returned (.agg (cc (pcf s w p n c (prK w s 0) (needN n : Nat)))) ∧ DL w' p n c (plainL s w lo hi) ∧ Below W.heap.size W w' ∧ ∀ a, p = some a → W.heap.size ≤ a.block
/-- While it is being made: the block B holds it, R the place of the answer. -/
structure PInv (W wr : World) (R B s w : Nat) (p : Option Addr) (n c : Nat) (M : List D) (a b : Nat) : Prop where
  cb : CB wr B (pcf s w p n c (prK w a b) 0)
  ret : ∃ old, wr.heap[R]? = some (.cells old 30 (0, 0)) ∧ old.size = 26
  row : DL wr p n c M
  below : Below W.heap.size W wr
  rB : R ≠ B
  geB : W.heap.size ≤ B
  geR : W.heap.size ≤ R
  pB : ∀ q, p = some q → q.block ≠ B
  pR : ∀ q, p = some q → q.block ≠ R
  pW : ∀ q, p = some q → W.heap.size ≤ q.block
theorem PInv.step {W wr : World} {R B s w : Nat} {p : Option Addr} {n c : Nat} {M : List D} {a b : Nat} (h : PInv W wr R B s w p n c M a b) (ha : a < 4) (hb : b < 4) : PInv W (wr.setCell ⟨B, 3 + a * 4 + b, none⟩ (.int .u8 b)) R B s w p n c M a (b + 1) := by
  rw [Nat.add_assoc]
  obtain ⟨old, h1, h2⟩ := h.ret
  exact ⟨(h.cb.put (a * 4 + b) b (by omega)).congr (cc_pr (pcf s w p n c (prK w a b) 0) _ _ fun q _ => prK_put w a b hb q), ⟨old, (Below.heap_setCell _ _ _ _ h.rB).trans h1, h2⟩, h.row.put B _ _ h.pB, h.below.setCell h.geB _, h.rB, h.geB, h.geR, h.pB, h.pR, h.pW⟩
theorem PInv.turn {W wr : World} {R B s w : Nat} {p : Option Addr} {n c : Nat} {M : List D} {a : Nat} (h : PInv W wr R B s w p n c M a w) : PInv W wr R B s w p n c M (a + 1) 0 :=
  ⟨h.cb.congr (cc_pr (pcf s w p n c (prK w a w) 0) _ _ fun q _ => prK_row w a q), h.ret, h.row, h.below, h.rB, h.geB, h.geR, h.pB, h.pR, h.pW⟩
set_option maxHeartbeats 4000000 in
theorem plain_any (x y i h : Int) (s w : Nat) (hx : keptI x 1 4 = s) (hy : keptI y 1 4 = w) (hs : 1 ≤ s ∧ s ≤ 4) (hw : 1 ≤ w ∧ w ≤ 4) (W : World) : Calls Try.prog 10 #[.int .i64 x, .int .i64 y, .int .i64 i, .int .i64 h] W (Made W s w (lowI i) (highI (lowI i) h)) := by
  have HK1 := Lib.hid fun W => kept_any x 1 4 W
  have HK2 := Lib.hid fun W => kept_any y 1 4 W
  rw [hx] at HK1
  rw [hy] at HK2
  have HPF := Lib.hid fun W => pfields_any s w hs hw i h W
  have HL : Hid ((plainL s w (lowI i) (highI (lowI i) h)).length ≤ 80) := Lib.hid (by unfold plainL; rw [List.length_map]; exact all_len s w hs hw)
  obtain ⟨hs1, hs4⟩ := hs
  obtain ⟨hw1, hw4⟩ := hw
  clear hx hy
  unfold Made
  generalize plainL s w (lowI i) (highI (lowI i) h) = M at *
  generalize hn : M.length = n at *
  have HN := Lib.hid hn
  clear hn
  have HB0 := Lib.hid ((Below.refl W.heap.size W).alloc (Nat.le_refl _) (.cells #[.int .i64 0, .int .i64 0, .slice none 0 0, .int .u8 0, .int .u8 0, .int .u8 0, .int .u8 0, .int .u8 0, .int .u8 0, .int .u8 0, .int .u8 0, .int .u8 0, .int .u8 0, .int .u8 0, .int .u8 0, .int .u8 0, .int .u8 0, .int .u8 0, .int .u8 0, .int .i64 0, .int .i64 0, .int .i64 0, .int .i64 0, .int .i64 0, .int .i64 0, .int .i64 0] 30))
  have HR0 := Lib.hid (alloc_block W (.cells #[.int .i64 0, .int .i64 0, .slice none 0 0, .int .u8 0, .int .u8 0, .int .u8 0, .int .u8 0, .int .u8 0, .int .u8 0, .int .u8 0, .int .u8 0, .int .u8 0, .int .u8 0, .int .u8 0, .int .u8 0, .int .u8 0, .int .u8 0, .int .u8 0, .int .u8 0, .int .i64 0, .int .i64 0, .int .i64 0, .int .i64 0, .int .i64 0, .int .i64 0, .int .i64 0] 30))
  go_enter Try.func10, Try.ntmps10
  go_upto_region 1 with (fail)
  generalize W.alloc (.cells #[.int .i64 0, .int .i64 0, .slice none 0 0, .int .u8 0, .int .u8 0, .int .u8 0, .int .u8 0, .int .u8 0, .int .u8 0, .int .u8 0, .int .u8 0, .int .u8 0, .int .u8 0, .int .u8 0, .int .u8 0, .int .u8 0, .int .u8 0, .int .u8 0, .int .u8 0, .int .i64 0, .int .i64 0, .int .i64 0, .int .i64 0, .int .i64 0, .int .i64 0, .int .i64 0] 30) = W0 at *
  have HRB := Lib.hid (block_lt HR0.out)
  go_wp2_with fail
  refine (HK1.out _).mono ?_
  rintro e w' ⟨rfl, rfl⟩
  go_wp2_with fail
  refine (HK2.out _).mono ?_
  rintro e w' ⟨rfl, rfl⟩
  clear HK1 HK2
  go_upto_region 2 with ((with_reducible refine wpList_store_new (C := pcf s w none 0 0 (fun _ => 0) 0) ?_ ?_ ?_ ?_); rfl; rfl; rfl)
  have HC1 := Lib.hid (CB.new w' (pcf s w none 0 0 (fun _ => 0) 0))
  have HB1 := Lib.hid (HB0.out.alloc HB0.out.size (.cells (cc (pcf s w none 0 0 (fun _ => 0) 0)) 30))
  have HR1 := Lib.hid (block_later HR0.out ((Below.refl _ _).alloc (Nat.le_refl _) (.cells (cc (pcf s w none 0 0 (fun _ => 0) 0)) 30)))
  generalize w'.alloc (.cells (cc (pcf s w none 0 0 (fun _ => 0) 0)) 30) = W1 at *
  have HGB := Lib.hid HB0.out.size
  generalize w'.heap.size = B at *
  clear HB0 HR0
  have z0 := block_cell (j := 0) HC1.out (v := .int .i64 s) rfl
  have z1 := block_cell (j := 1) HC1.out (v := .int .i64 w) rfl
  go_wp2_with fail
  refine (HPF.out _).mono ?_
  rintro e W2 ⟨p, c, rfl, hd, hb, hp⟩
  rw [HN.out] at hd ⊢
  have HC2 := Lib.hid (HC1.out.later hb)
  have HPI : Hid (PInv W (W2.setCell ⟨B, 2, none⟩ (.slice p n c)) W.heap.size B s w p n c M 0 0) := by
    have hBlt := HC1.out.lt
    have hRlt := block_lt HR1.out
    have hpB : ∀ q, p = some q → q.block ≠ B := fun q hq => by have := hp q hq; omega
    have hpR : ∀ q, p = some q → q.block ≠ W.heap.size := fun q hq => by have := hp q hq; omega
    refine Lib.hid ⟨(HC2.out.putF p n c).congr (cc_pr (pcf s w p n c (fun _ => 0) 0) _ _ fun q _ => ?_), ⟨_, (Below.heap_setCell _ _ _ _ (by have := HRB.out; simp; omega)).trans (block_later HR1.out hb), rfl⟩, hd.put B _ _ hpB, (HB1.out.trans (hb.mono HB1.out.size)).setCell HGB.out _, by have := HRB.out; omega, HGB.out, Nat.le_refl _, hpB, hpR, fun q hq => by have := hp q hq; have := HB1.out.size; omega⟩
    unfold prK
    rw [if_neg (by omega)]
    rfl
  have z2 := block_cell (j := 2) HC2.out (v := .slice none 0 0) rfl
  have zf := block_free 2 HC2.out
  clear z0 z1 hd hb hp HC1 HB1 HR1 HPF HC2 HRB HGB
  go_upto_region 3 with (fail)
  generalize W2.setCell ⟨B, 2, none⟩ (.slice p n c) = W3 at *
  clear z2 zf
  have z0 := block_cell (j := 0) HPI.out.cb (v := .int .i64 s) rfl
  go_wp2_with fail
  go_loopw [27] (fun i wr => ∃ a : Nat, a ≤ s ∧ i = .int .i64 a ∧ Hid (PInv W wr W.heap.size B s w p n c M a 0)) (fun i _ => s - (intOf i).toNat)
  case atStart => exact ⟨0, Nat.zero_le _, rfl, HPI⟩
  case round =>
    clear HPI z0
    obtain ⟨a, ha, rfl, HPI⟩ := hrel
    by_cases hlt : a < s
    · have hlt' : (a : Int) < s := by omega
      have ha4 : a < 4 := by omega
      have ha4' : (a : Int) < 4 := by omega
      have z1 := block_cell (j := 1) HPI.out.cb (v := .int .i64 w) rfl
      go_wp2_with fail
      go_loopw [32] (fun i wr => ∃ b : Nat, b ≤ w ∧ i = .int .i64 b ∧ Hid (PInv W wr W.heap.size B s w p n c M a b)) (fun i _ => w - (intOf i).toNat)
      case atStart => exact ⟨0, Nat.zero_le _, rfl, HPI⟩
      case round =>
        clear HPI z1
        obtain ⟨b, hb, rfl, HPI⟩ := hrel
        by_cases hlt2 : b < w
        · have hlt2' : (b : Int) < w := by omega
          have hb4 : b < 4 := by omega
          have hb4' : (b : Int) < 4 := by omega
          have hcell := HPI.out.cb.prio (a * 4 + b) (by omega)
          have hfz := block_free (3 + a * 4 + b) HPI.out.cb
          rw [← Nat.add_assoc] at hcell
          have HNX := Lib.hid (HPI.out.step ha4 hb4)
          go_wp2_with fail
          go_roundw
          case rel => exact ⟨b + 1, by omega, by go_num, HNX⟩
          case measure => simp [intOf]; omega
        · obtain rfl : w = b := by omega
          have HNX := Lib.hid HPI.out.turn
          go_wp2_with fail
          go_roundw
          case rel => exact ⟨a + 1, by omega, by go_num, HNX⟩
          case measure => simp [intOf]; omega
    · obtain rfl : s = a := by omega
      have HND := Lib.hid fun W => need_any (pcf s w p n c (prK w s 0) 0) 256 rfl (by omega) (by omega) (by have := HL.out; show n ≤ 1000000; omega) W
      rw [need_pcf] at HND
      go_wp2_with (first | ((with_reducible refine wpList_load_cf HPI.out.cb ?_ ?_); rfl))
      refine (HND.out _).mono ?_
      rintro e W5 ⟨rfl, hb⟩
      have HC5 := Lib.hid (HPI.out.cb.later hb)
      have HB5 := Lib.hid (HPI.out.below.trans (hb.mono HPI.out.below.size))
      obtain ⟨old, ho1, ho2⟩ := HPI.out.ret
      have HO5 := Lib.hid (block_later ho1 hb)
      have HO2 := Lib.hid ho2
      have HR5 := Lib.hid (HPI.out.row.later hb)
      have HC6 := Lib.hid (HC5.out.putS (needN n : Nat))
      have HB6 := Lib.hid (HB5.out.setCell (p := ⟨B, 25, none⟩) HPI.out.geB (.int .i64 (needN n : Nat)))
      have HO6 := Lib.hid ((Below.heap_setCell W5 ⟨B, 25, none⟩ (.int .i64 (needN n : Nat)) _ HPI.out.rB).trans HO5.out)
      have HR6 := Lib.hid (HR5.out.put B 25 (.int .i64 (needN n : Nat)) HPI.out.pB)
      have z25 := block_cell (j := 25) HC5.out (v := .int .i64 0) rfl
      have zf := block_free 25 HC5.out
      clear hb ho1 ho2
      go_upto_region 13 with (fail)
      generalize W5.setCell ⟨B, 25, none⟩ (.int .i64 (needN n : Nat)) = W6 at *
      have HC7 : Hid (CB (W6.setRow W.heap.size (cc (pcf s w p n c (prK w s 0) (needN n : Nat)))) W.heap.size (pcf s w p n c (prK w s 0) (needN n : Nat))) := Lib.hid (CB.setRow _ HO6.out)
      have HB7 := Lib.hid (below_setRow HB6.out (Nat.le_refl _) (cc (pcf s w p n c (prK w s 0) (needN n : Nat))))
      have HR7 := Lib.hid (HR6.out.setRow W.heap.size (cc (pcf s w p n c (prK w s 0) (needN n : Nat))) HPI.out.pR)
      clear z25 zf HC5 HB5 HO5 HR5
      go_wp2_with (first | ((with_reducible refine wpList_load_cf HC6.out ?_ ?_); rfl) | ((with_reducible refine wpList_store_cf (C := pcf s w p n c (prK w s 0) (needN n : Nat)) HO6.out HO2.out ?_ ?_ ?_); rfl; rfl))
      (try simp only [Exit.inBlock, Exit.then]); refine bodyPost_ret (v := .agg (cc (pcf s w p n c (prK w s 0) (needN n : Nat)))) ?_ rfl ?_
      · exact results_cell_row rfl _ _ W.heap.size 30 _ (0, 0) _ rfl HC7.out Try.underlying30 rfl (by kernel_rfl)
      exact ⟨p, c, n, rfl, rfl, HR7.out, HB7.out, HPI.out.pW⟩
end Go.Proofs.Ythkeefdapnkgeaa
