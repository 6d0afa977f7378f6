import Derived.Test.YtccgjdmbongbaaaGreatDoorPA36
namespace Go.Proofs.YtccgjdmbongbaaaGreatDoor
open Go.RowKit Go.ChangeShapes Go.WideShapes
set_option linter.unusedVariables false
set_option linter.unusedSimpArgs false
set_option maxRecDepth 10000
set_option maxHeartbeats 4000000 in
theorem rec_good (r : Rv) (L : List Ln) (T : List Tk) (M : List Ln) (W : World) (hw : Words W) (hP : RvM W r L T M) (hok : Rxok (r.x L T M)) (h1 : r.ln ≤ 400 ∧ r.tn ≤ 400 ∧ r.wn ≤ 400) : Calls Tryz.prog 32 #[.agg (rcs r)] W fun e w' => e = .returned (.bool (goodX (r.x L T M))) ∧ Below W.heap.size W w' := by
 obtain ⟨W1, hW1, hb1⟩ : ∃ W1, W.alloc (.cells (rcs r) 40) = W1 ∧ Below W.heap.size W W1 := ⟨_, rfl, (Below.refl _ _).alloc (Nat.le_refl _) _⟩
 obtain ⟨B, hB⟩ : ∃ B, W.heap.size = B := ⟨_, rfl⟩
 have hrb := RB.new W r
 rw [hW1, hB] at hrb
 have HX1 := Lib.hid hrb
 have HW1 := Lib.hid hW1
 have HB1 := Lib.hid hb1
 have HRE := Lib.hid hB
 have c0 : W1.cell? ⟨B, 0, none⟩ = some (.int .u8 r.k) := block_cell hrb rfl
 clear hW1 hb1 hB hrb
 obtain ⟨b0, hb0⟩ : ∃ b, kOk r.k = b := ⟨_, rfl⟩
 obtain ⟨b1, hb1⟩ : ∃ b, kS r.k = b := ⟨_, rfl⟩
 obtain ⟨b2, hb2⟩ : ∃ b, kT r.k = b := ⟨_, rfl⟩
 obtain ⟨b3, hb3⟩ : ∃ b, kB r.k = b := ⟨_, rfl⟩
 obtain ⟨b4, hb4⟩ : ∃ b, kA r.k = b := ⟨_, rfl⟩
 obtain ⟨b5, hb5⟩ : ∃ b, kO r.k = b := ⟨_, rfl⟩
 obtain ⟨b6, hb6⟩ : ∃ b, kP r.k = b := ⟨_, rfl⟩
 have hpt : ptc r.k = #[.bool b1, .bool b2, .bool b3, .bool b4, .bool b5, .bool b6] := by unfold ptc; rw [hb1, hb2, hb3, hb4, hb5, hb6]
 have hpa := parts_any r.k W1
 unfold GivesPt at hpa
 rw [hpt, hb0] at hpa
 obtain ⟨s, hs⟩ : ∃ y, stepB b3 r.st r.cp = y := ⟨_, rfl⟩
 obtain ⟨a, ha⟩ : ∃ y, addB b4 (r.ka, r.kb, r.kc) r.d = y := ⟨_, rfl⟩
 obtain ⟨o, ho⟩ : ∃ y, outB b5 r.o = y := ⟨_, rfl⟩
 obtain ⟨p, hp⟩ : ∃ y, progB b6 (r.pg L T M) = y := ⟨_, rfl⟩
 have HR : Hid (goodX (r.x L T M) = (b0 && (b1 == (r.sg != 0)) && (b2 == (r.tx != 0)) && s && a && o && p)) := Lib.hid (by
  rw [← hs, ← ha, ← ho, ← hp, ← hb0, ← hb1, ← hb2, ← hb3, ← hb4, ← hb5, ← hb6]
  rfl)
 have HCS := Lib.hid (fun W => gstep_any b3 r W)
 have HCA := Lib.hid (fun W => gadd_any b4 r ⟨hok.key.2.1, hok.key.2.2⟩ W)
 have HCO := Lib.hid (fun W => gout_any b5 r W)
 have HCP := Lib.hid (fun W' (hb : Below W.heap.size W W') => gprog_any b6 r L T M W' (hw.later hb) (hP.later hb) hok.pg h1)
 rw [hs] at HCS
 rw [ha] at HCA
 rw [ho] at HCO
 rw [hp] at HCP
 clear hpt hb0 hb1 hb2 hb3 hb4 hb5 hb6 hs ha ho hp hw hP hok h1
 go_enter Tryz.func32, Tryz.ntmps32
 go_upto_region 1 with (fail)
 rw [HW1.out, HRE.out]
 go_wp2_with fail
 refine hpa.mono ?_
 rintro e w2 ⟨rfl, h2⟩
 have HB2 := Lib.hid (HB1.out.trans (h2.mono HB1.out.size))
 have HX2 := Lib.hid (HX1.out.later h2)
 clear h2 hpa c0
 obtain ⟨N2, hN2⟩ : ∃ n, w2.heap.size = n := ⟨_, rfl⟩
 obtain ⟨w3, hwn, hxn, hbn⟩ : ∃ w3, (w2.alloc (.cells pz 89)).setRow N2 #[.bool b1, .bool b2, .bool b3, .bool b4, .bool b5, .bool b6] = w3 ∧ w3.heap[N2]? = some (.cells #[.bool b1, .bool b2, .bool b3, .bool b4, .bool b5, .bool b6] 89 (0, 0)) ∧ Below w2.heap.size w2 w3 := ⟨_, rfl, by rw [← hN2]; exact setRow_heap _ _ _ _ _ _ (alloc_block w2 _), below_setRow ((Below.refl _ _).alloc (Nat.le_refl _) _) (by omega) _⟩
 have hx2 := alloc_block w2 (.cells pz 89)
 rw [hN2] at hx2
 have HPX := Lib.hid hxn
 have HPZ := Lib.hid hx2
 have HBN := Lib.hid hbn
 have HWN := Lib.hid hwn
 have HNN := Lib.hid hN2
 have HS6 : Hid ((#[.bool b1, .bool b2, .bool b3, .bool b4, .bool b5, .bool b6] : Array Value).size = 6) := Lib.hid rfl
 have HA6 : Hid ((#[.bool b1, .bool b2, .bool b3, .bool b4, .bool b5, .bool b6] : Array Value).all (·.oneCell') = true) := Lib.hid (by simp [Value.oneCell'])
 clear hx2 hxn hbn hwn hN2
 have HB3 := Lib.hid (HB2.out.trans (HBN.out.mono HB2.out.size))
 have HX3 := Lib.hid (HX2.out.later HBN.out)
 have gp := block_later HPX.out (Below.refl _ _)
 have gx := HX3.out.later (Below.refl _ _)
 have p0 : w3.cell? ⟨N2, 0, none⟩ = some (.bool b1) := block_cell gp rfl
 have p1 : w3.cell? ⟨N2, 1, none⟩ = some (.bool b2) := block_cell gp rfl
 have p2 : w3.cell? ⟨N2, 2, none⟩ = some (.bool b3) := block_cell gp rfl
 have p3 : w3.cell? ⟨N2, 3, none⟩ = some (.bool b4) := block_cell gp rfl
 have p4 : w3.cell? ⟨N2, 4, none⟩ = some (.bool b5) := block_cell gp rfl
 have p5 : w3.cell? ⟨N2, 5, none⟩ = some (.bool b6) := block_cell gp rfl
 have c1 : w3.cell? ⟨B, 1, none⟩ = some (.int .u32 r.sg) := block_cell gx rfl
 have c2 : w3.cell? ⟨B, 2, none⟩ = some (.int .u32 r.tx) := block_cell gx rfl
 have HGX := Lib.hid gx
 clear gp gx
 cases b0
 case false =>
  go_wp2_with (first | ((try rw [HNN.out]); (with_reducible refine wpList_store_pt #[.bool b1, .bool b2, .bool b3, .bool b4, .bool b5, .bool b6] HS6.out HA6.out HPZ.out ?_ ?_ ?_); rfl; rfl; rw [HWN.out]) | ((with_reducible refine wpList_load_rcg HGX.out ?_ ?_ ?_); rfl; rfl))
  go_ret
  exact ⟨by rw [HR.out]; rfl, HB3.out⟩
 cases hq1 : (b1 == (r.sg != 0))
 case false =>
  go_wp2_with (first | ((try rw [HNN.out]); (with_reducible refine wpList_store_pt #[.bool b1, .bool b2, .bool b3, .bool b4, .bool b5, .bool b6] HS6.out HA6.out HPZ.out ?_ ?_ ?_); rfl; rfl; rw [HWN.out]) | ((with_reducible refine wpList_load_rcg HGX.out ?_ ?_ ?_); rfl; rfl))
  go_ret
  exact ⟨by rw [HR.out, hq1]; rfl, HB3.out⟩
 cases hq2 : (b2 == (r.tx != 0))
 case false =>
  go_wp2_with (first | ((try rw [HNN.out]); (with_reducible refine wpList_store_pt #[.bool b1, .bool b2, .bool b3, .bool b4, .bool b5, .bool b6] HS6.out HA6.out HPZ.out ?_ ?_ ?_); rfl; rfl; rw [HWN.out]) | ((with_reducible refine wpList_load_rcg HGX.out ?_ ?_ ?_); rfl; rfl))
  go_ret
  exact ⟨by rw [HR.out, hq1, hq2]; rfl, HB3.out⟩
 have HQ := Lib.hid (And.intro hq1 hq2)
 go_wp2_with (first | ((try rw [HNN.out]); (with_reducible refine wpList_store_pt #[.bool b1, .bool b2, .bool b3, .bool b4, .bool b5, .bool b6] HS6.out HA6.out HPZ.out ?_ ?_ ?_); rfl; rfl; rw [HWN.out]) | ((with_reducible refine wpList_load_rcg HGX.out ?_ ?_ ?_); rfl; rfl))
 refine (HCS.out _).mono ?_
 rintro e w4 ⟨rfl, h4⟩
 have HB4 := Lib.hid (HB3.out.trans (h4.mono HB3.out.size))
 have HD4 : Hid (Below w3.heap.size w3 w4) := Lib.hid h4
 clear h4
 clear p0 p1 p2 p3 p4 p5 c1 c2
 clear HGX
 have gp := block_later HPX.out HD4.out
 have gx := HX3.out.later HD4.out
 have p0 : w4.cell? ⟨N2, 0, none⟩ = some (.bool b1) := block_cell gp rfl
 have p1 : w4.cell? ⟨N2, 1, none⟩ = some (.bool b2) := block_cell gp rfl
 have p2 : w4.cell? ⟨N2, 2, none⟩ = some (.bool b3) := block_cell gp rfl
 have p3 : w4.cell? ⟨N2, 3, none⟩ = some (.bool b4) := block_cell gp rfl
 have p4 : w4.cell? ⟨N2, 4, none⟩ = some (.bool b5) := block_cell gp rfl
 have p5 : w4.cell? ⟨N2, 5, none⟩ = some (.bool b6) := block_cell gp rfl
 have c1 : w4.cell? ⟨B, 1, none⟩ = some (.int .u32 r.sg) := block_cell gx rfl
 have c2 : w4.cell? ⟨B, 2, none⟩ = some (.int .u32 r.tx) := block_cell gx rfl
 have HGX := Lib.hid gx
 clear gp gx
 clear hq1 hq2
 cases s
 case false =>
  go_wp2_with ((with_reducible refine wpList_load_rcg HGX.out ?_ ?_ ?_); rfl; rfl)
  go_ret
  exact ⟨by rw [HR.out, HQ.out.1, HQ.out.2]; rfl, HB4.out⟩
 go_wp2_with ((with_reducible refine wpList_load_rcg HGX.out ?_ ?_ ?_); rfl; rfl)
 refine (HCA.out _).mono ?_
 rintro e w5 ⟨rfl, h5⟩
 have HB5 := Lib.hid (HB4.out.trans (h5.mono HB4.out.size))
 have HD5 : Hid (Below w3.heap.size w3 w5) := Lib.hid (HD4.out.trans (h5.mono HD4.out.size))
 clear h5
 clear p0 p1 p2 p3 p4 p5 c1 c2
 clear HGX
 have gp := block_later HPX.out HD5.out
 have gx := HX3.out.later HD5.out
 have p0 : w5.cell? ⟨N2, 0, none⟩ = some (.bool b1) := block_cell gp rfl
 have p1 : w5.cell? ⟨N2, 1, none⟩ = some (.bool b2) := block_cell gp rfl
 have p2 : w5.cell? ⟨N2, 2, none⟩ = some (.bool b3) := block_cell gp rfl
 have p3 : w5.cell? ⟨N2, 3, none⟩ = some (.bool b4) := block_cell gp rfl
 have p4 : w5.cell? ⟨N2, 4, none⟩ = some (.bool b5) := block_cell gp rfl
 have p5 : w5.cell? ⟨N2, 5, none⟩ = some (.bool b6) := block_cell gp rfl
 have c1 : w5.cell? ⟨B, 1, none⟩ = some (.int .u32 r.sg) := block_cell gx rfl
 have c2 : w5.cell? ⟨B, 2, none⟩ = some (.int .u32 r.tx) := block_cell gx rfl
 have HGX := Lib.hid gx
 clear gp gx
 cases a
 case false =>
  go_wp2_with ((with_reducible refine wpList_load_rcg HGX.out ?_ ?_ ?_); rfl; rfl)
  go_ret
  exact ⟨by rw [HR.out, HQ.out.1, HQ.out.2]; rfl, HB5.out⟩
 go_wp2_with ((with_reducible refine wpList_load_rcg HGX.out ?_ ?_ ?_); rfl; rfl)
 refine (HCO.out _).mono ?_
 rintro e w6 ⟨rfl, h6⟩
 have HB6 := Lib.hid (HB5.out.trans (h6.mono HB5.out.size))
 have HD6 : Hid (Below w3.heap.size w3 w6) := Lib.hid (HD5.out.trans (h6.mono HD5.out.size))
 clear h6
 clear p0 p1 p2 p3 p4 p5 c1 c2
 clear HGX
 have gp := block_later HPX.out HD6.out
 have gx := HX3.out.later HD6.out
 have p0 : w6.cell? ⟨N2, 0, none⟩ = some (.bool b1) := block_cell gp rfl
 have p1 : w6.cell? ⟨N2, 1, none⟩ = some (.bool b2) := block_cell gp rfl
 have p2 : w6.cell? ⟨N2, 2, none⟩ = some (.bool b3) := block_cell gp rfl
 have p3 : w6.cell? ⟨N2, 3, none⟩ = some (.bool b4) := block_cell gp rfl
 have p4 : w6.cell? ⟨N2, 4, none⟩ = some (.bool b5) := block_cell gp rfl
 have p5 : w6.cell? ⟨N2, 5, none⟩ = some (.bool b6) := block_cell gp rfl
 have c1 : w6.cell? ⟨B, 1, none⟩ = some (.int .u32 r.sg) := block_cell gx rfl
 have c2 : w6.cell? ⟨B, 2, none⟩ = some (.int .u32 r.tx) := block_cell gx rfl
 have HGX := Lib.hid gx
 clear gp gx
 cases o
 case false =>
  go_wp2_with ((with_reducible refine wpList_load_rcg HGX.out ?_ ?_ ?_); rfl; rfl)
  go_ret
  exact ⟨by rw [HR.out, HQ.out.1, HQ.out.2]; rfl, HB6.out⟩
 go_wp2_with ((with_reducible refine wpList_load_rcg HGX.out ?_ ?_ ?_); rfl; rfl)
 refine (HCP.out _ HB6.out).mono ?_
 rintro e w7 ⟨rfl, h7⟩
 have HB7 := Lib.hid (HB6.out.trans (h7.mono HB6.out.size))
 clear h7
 clear p0 p1 p2 p3 p4 p5 c1 c2
 go_wp2_with fail
 go_ret
 exact ⟨by rw [HR.out, HQ.out.1, HQ.out.2]; rfl, HB7.out⟩
def GivesB (W : World) (Y : List Nat) (e : Ending) (w' : World) : Prop := ∃ p c, e = .returned (.tuple #[.slice p Y.length c, .int .i64 0]) ∧ Sl w' p Y.length c Y ∧ Below W.heap.size W w'
theorem wo_num1 {W w : World} {B : Nat} {L : List Nat} (h : WrOk W w B 512 (0, L)) (x : Int) (h0 : 0 ≤ x ∧ x ≤ 255) (hl : L.length + 1 ≤ 512) : Calls Tryz.prog 111 #[.pointer (some ⟨B, 0, none⟩), .int .u64 x, .int .i64 1] w (WrotOk W B 512 (0, L ++ le x.toNat 1)) := by
 refine h.step fun v hv => ?_
 have := num_w B v L x.toNat 1 w hv (by omega) (by omega) (by omega) hl
 rw [Int.toNat_of_nonneg h0.1] at this
 exact this
theorem wo_num4 {W w : World} {B : Nat} {L : List Nat} (h : WrOk W w B 512 (0, L)) (x : Int) (h0 : 0 ≤ x ∧ x ≤ 4294967295) (hl : L.length + 4 ≤ 512) : Calls Tryz.prog 111 #[.pointer (some ⟨B, 0, none⟩), .int .u64 x, .int .i64 4] w (WrotOk W B 512 (0, L ++ le x.toNat 4)) := by
 refine h.step fun v hv => ?_
 have := num_w B v L x.toNat 4 w hv (by omega) (by omega) (by omega) hl
 rw [Int.toNat_of_nonneg h0.1] at this
 exact this
theorem wo_int {W w : World} {B : Nat} {L : List Nat} (h : WrOk W w B 512 (0, L)) (q : Int) (hq : In64 q) (hl : L.length + 8 ≤ 512) : Calls Tryz.prog 114 #[.pointer (some ⟨B, 0, none⟩), .int .i64 q] w (WrotOk W B 512 (0, L ++ le (u64 q) 8)) :=
 h.step fun v hv => int_w B v L q w hv hq hl
theorem bit_bitN (b : Bool) : bit b = bitN b := rfl
theorem wo_bool {W w : World} {B : Nat} {L : List Nat} (h : WrOk W w B 512 (0, L)) (b : Bool) (hl : L.length + 1 ≤ 512) : Calls Tryz.prog 112 #[.pointer (some ⟨B, 0, none⟩), .bool b] w (WrotOk W B 512 (0, L ++ [bitN b])) := by
 refine h.step fun v hv => ?_
 have := bool_wr B v 512 (0, L) b w hv (by omega) (by omega) (by dsimp only; omega)
 rwa [rawW_fit (by simpa using hl), bit_bitN] at this
theorem wo_raw {W w : World} {B : Nat} {L : List Nat} (h : WrOk W w B 512 (0, L)) (p : Option Addr) (m c : Nat) (M : List Nat) (hs : Sl w p m c M) (hl : L.length + m ≤ 512) : Calls Tryz.prog 113 #[.pointer (some ⟨B, 0, none⟩), .slice p m c] w (WrotOk W B 512 (0, L ++ M)) := by
 refine h.step fun v hv => ?_
 have := raw_any B v 512 (0, L) w hv p m c M hs (by omega) (by omega) (by dsimp only; omega)
 rwa [rawW_fit (by rw [hs.len]; exact hl)] at this
theorem wo_bytes {W w : World} {B : Nat} {L : List Nat} (h : WrOk W w B 512 (0, L)) (p : Option Addr) (m c : Nat) (M : List Nat) (hs : Sl w p m c M) (hl : L.length + (m + 2) ≤ 512) : Calls Tryz.prog 116 #[.pointer (some ⟨B, 0, none⟩), .slice p m c] w (WrotOk W B 512 (0, L ++ (le M.length 2 ++ M))) := by
 refine h.step fun v hv => ?_
 have := bytes_wr B v 512 (0, L) p m c M w hv hs (by omega) (by omega) (by dsimp only; omega) (by omega)
 have e : bytesW 512 (0, L) M = (0, L ++ (le M.length 2 ++ M)) := by
  unfold bytesW
  have := hs.len
  rw [if_neg (by omega), rawW_fit (by rw [List.length_append, le_len]; omega)]
 rwa [e] at this
theorem sl_three (x y z : Int) (hx : 0 ≤ x ∧ x ≤ 255) (hy : 0 ≤ y ∧ y ≤ 255) (hz : 0 ≤ z ∧ z ≤ 255) (w : World) : Sl (w.alloc (.cells #[.int .u8 x, .int .u8 y, .int .u8 z] 5)) (some ⟨w.heap.size, 0, none⟩) 3 3 (keyB (x, y, z)) :=
 ⟨rfl, Nat.le_refl _, (fun h => by cases h), (fun u hu => by simp [keyB] at hu; omega), fun _ => ⟨_, 0, rfl, fun j hj => by
  match j, hj with
  | 0, _ => simp [keyB]; omega
  | 1, _ => simp [keyB]; omega
  | 2, _ => simp [keyB]; omega⟩⟩
theorem wrap_u64 {x : Int} (h : 0 ≤ x ∧ x ≤ 4294967295) : IntKind.u64.wrap x = x := by simp [IntKind.wrap, IntKind.bits, IntKind.signed]; omega
set_option maxHeartbeats 8000000 in
theorem rec_write1 (r : Rv) (L : List Ln) (T : List Tk) (M : List Ln) (W : World) (hok : Rxok (r.x L T M)) (hk : r.k = 1) (hw : Words W) (hP : RvM W r L T M) (h1 : r.ln ≤ 400 ∧ r.tn ≤ 400 ∧ r.wn ≤ 400) (hg : goodP 4 4 (r.pg L T M) = true) : Calls Tryz.prog 91 #[.agg (rcs r)] W (GivesB W (bytesX (r.x L T M))) := by
 obtain ⟨W1, hW1, hb1⟩ : ∃ W1, W.alloc (.cells (rcs r) 40) = W1 ∧ Below W.heap.size W W1 := ⟨_, rfl, (Below.refl _ _).alloc (Nat.le_refl _) _⟩
 obtain ⟨B, hB⟩ : ∃ B, W.heap.size = B := ⟨_, rfl⟩
 have hrb := RB.new W r
 rw [hW1, hB] at hrb
 have HX1 := Lib.hid hrb
 have HW1 := Lib.hid hW1
 have HB1 := Lib.hid hb1
 have HRE := Lib.hid hB
 have c0 : W1.cell? ⟨B, 0, none⟩ = some (.int .u8 r.k) := block_cell hrb rfl
 rw [hk] at c0
 clear hW1 hb1 hB hrb
 have HOK := Lib.hid hok
 have u1 := wrap_u64 hok.sg
 have u2 := wrap_u64 hok.tx
 have u3 : IntKind.u64.wrap r.st = r.st := wrap_u64 ⟨hok.st.1, Int.le_trans hok.st.2 (by decide)⟩
 have u4 : IntKind.u64.wrap r.o = r.o := wrap_u64 ⟨hok.o.1, Int.le_trans hok.o.2 (by decide)⟩
 change IntKind.u64.wrap r.sg = r.sg at u1
 change IntKind.u64.wrap r.tx = r.tx at u2
 have hpa := parts_any 1 W1
 unfold GivesPt at hpa
 rw [show ptc 1 = #[.bool true, .bool false, .bool false, .bool false, .bool false, .bool true] from rfl] at hpa
 have HEN := Lib.hid (fun W' (hb : Below W.heap.size W W') => encode_p r.pk r.od r.po r.lp r.ln r.lcp r.tp r.tn r.tcp r.wp r.wn r.wcp r.sk r.fr r.to r.q L T M W' (hw.later hb) (hP.later hb) hok.pg h1)
 have HPF := Lib.hid (pg_few hg)
 have HGG := Lib.hid hg
 clear hw hP h1 hg
 clear hok
 go_enter Tryz.func91, Tryz.ntmps91
 go_upto_region 1 with (fail)
 rw [HW1.out, HRE.out]
 go_wp2_with fail
 refine hpa.mono ?_
 rintro e w2 ⟨rfl, h2⟩
 have HB2 := Lib.hid (HB1.out.trans (h2.mono HB1.out.size))
 have HX2 := Lib.hid (HX1.out.later h2)
 clear h2 hpa c0
 obtain ⟨N2, hN2⟩ : ∃ n, w2.heap.size = n := ⟨_, rfl⟩
 obtain ⟨w3, hwn, hxn, hbn⟩ : ∃ w3, (w2.alloc (.cells pz 89)).setRow N2 #[.bool true, .bool false, .bool false, .bool false, .bool false, .bool true] = w3 ∧ w3.heap[N2]? = some (.cells #[.bool true, .bool false, .bool false, .bool false, .bool false, .bool true] 89 (0, 0)) ∧ Below w2.heap.size w2 w3 := ⟨_, rfl, by rw [← hN2]; exact setRow_heap _ _ _ _ _ _ (alloc_block w2 _), below_setRow ((Below.refl _ _).alloc (Nat.le_refl _) _) (by omega) _⟩
 have hx2 := alloc_block w2 (.cells pz 89)
 rw [hN2] at hx2
 have HPX := Lib.hid hxn
 have HPZ := Lib.hid hx2
 have HBN := Lib.hid hbn
 have HWN := Lib.hid hwn
 have HNN := Lib.hid hN2
 have HS6 : Hid ((#[.bool true, .bool false, .bool false, .bool false, .bool false, .bool true] : Array Value).size = 6) := Lib.hid rfl
 have HA6 : Hid ((#[.bool true, .bool false, .bool false, .bool false, .bool false, .bool true] : Array Value).all (·.oneCell') = true) := Lib.hid (by simp [Value.oneCell'])
 clear hx2 hxn hbn hwn hN2
 have HB3 := Lib.hid (HB2.out.trans (HBN.out.mono HB2.out.size))
 have HX3 := Lib.hid (HX2.out.later HBN.out)
 go_wp2_with ((try rw [HNN.out]); (with_reducible refine wpList_store_pt #[.bool true, .bool false, .bool false, .bool false, .bool false, .bool true] HS6.out HA6.out HPZ.out ?_ ?_ ?_); rfl; rfl; rw [HWN.out])
 refine (new_ok w3 w3 512 (Below.refl _ _)).mono ?_
 rintro e w4 ⟨Bw, rfl, hkk⟩
 rw [show lim 512 = 512 from rfl] at hkk
 have HK4 := Lib.hid hkk
 clear hkk
 have gp := block_later HPX.out HK4.out.below
 have HGX := Lib.hid (HX3.out.later HK4.out.below)
 have p0 : w4.cell? ⟨N2, 0, none⟩ = some (.bool true) := block_cell gp rfl
 have p1 : w4.cell? ⟨N2, 1, none⟩ = some (.bool false) := block_cell gp rfl
 have p2 : w4.cell? ⟨N2, 2, none⟩ = some (.bool false) := block_cell gp rfl
 have p3 : w4.cell? ⟨N2, 3, none⟩ = some (.bool false) := block_cell gp rfl
 have p4 : w4.cell? ⟨N2, 4, none⟩ = some (.bool false) := block_cell gp rfl
 have p5 : w4.cell? ⟨N2, 5, none⟩ = some (.bool true) := block_cell gp rfl
 obtain ⟨c0, c1, c2, c3, c4, c5, c6, c7, c8, c9⟩ := HGX.out.at
 rw [hk] at c0
 clear gp
 go_wp2_with fail
 refine (wo_num1 HK4.out 1 (by omega) (by simp)).mono ?_
 rintro e w5 ⟨rfl, hkk⟩
 have HK5 := Lib.hid hkk
 clear hkk HK4
 clear p0 p1 p2 p3 p4 p5 c0 c1 c2 c3 c4 c5 c6 c7 c8 c9 HGX
 have gp := block_later HPX.out HK5.out.below
 have HGX := Lib.hid (HX3.out.later HK5.out.below)
 have p0 : w5.cell? ⟨N2, 0, none⟩ = some (.bool true) := block_cell gp rfl
 have p1 : w5.cell? ⟨N2, 1, none⟩ = some (.bool false) := block_cell gp rfl
 have p2 : w5.cell? ⟨N2, 2, none⟩ = some (.bool false) := block_cell gp rfl
 have p3 : w5.cell? ⟨N2, 3, none⟩ = some (.bool false) := block_cell gp rfl
 have p4 : w5.cell? ⟨N2, 4, none⟩ = some (.bool false) := block_cell gp rfl
 have p5 : w5.cell? ⟨N2, 5, none⟩ = some (.bool true) := block_cell gp rfl
 obtain ⟨c0, c1, c2, c3, c4, c5, c6, c7, c8, c9⟩ := HGX.out.at
 rw [hk] at c0
 clear gp
 go_wp2_with fail
 refine (wo_num4 HK5.out r.sg HOK.out.sg (by simp only [List.length_append, List.length_nil, le_len]; omega)).mono ?_
 rintro e w6 ⟨rfl, hkk⟩
 have HK6 := Lib.hid hkk
 clear hkk HK5
 clear p0 p1 p2 p3 p4 p5 c0 c1 c2 c3 c4 c5 c6 c7 c8 c9 HGX
 have gp := block_later HPX.out HK6.out.below
 have HGX := Lib.hid (HX3.out.later HK6.out.below)
 have p0 : w6.cell? ⟨N2, 0, none⟩ = some (.bool true) := block_cell gp rfl
 have p1 : w6.cell? ⟨N2, 1, none⟩ = some (.bool false) := block_cell gp rfl
 have p2 : w6.cell? ⟨N2, 2, none⟩ = some (.bool false) := block_cell gp rfl
 have p3 : w6.cell? ⟨N2, 3, none⟩ = some (.bool false) := block_cell gp rfl
 have p4 : w6.cell? ⟨N2, 4, none⟩ = some (.bool false) := block_cell gp rfl
 have p5 : w6.cell? ⟨N2, 5, none⟩ = some (.bool true) := block_cell gp rfl
 obtain ⟨c0, c1, c2, c3, c4, c5, c6, c7, c8, c9⟩ := HGX.out.at
 rw [hk] at c0
 clear gp
 go_wp2_with ((with_reducible refine wpList_load_pr HGX.out ?_ ?_); rfl)
 refine (HEN.out w6 (HB3.out.trans (HK6.out.below.mono HB3.out.size))).mono ?_
 rintro e w7 ⟨hbe, hy⟩
 have hgg : goodP 4 4 ⟨r.pk, r.od, r.po, L, T, M, r.sk, r.fr, r.to, r.q⟩ = true := HGG.out
 rw [if_pos hgg] at hy
 obtain ⟨py, cy, rfl, hsy, _, _⟩ := hy
 have HSY := Lib.hid hsy
 have HK7 := Lib.hid (HK6.out.later (Chg.of_below (S := fun _ => False) hbe))
 have hpf : (bytesP ⟨r.pk, r.od, r.po, L, T, M, r.sk, r.fr, r.to, r.q⟩).length ≤ 400 := HPF.out
 have HBP : Hid (bytesP (r.pg L T M) = bytesP ⟨r.pk, r.od, r.po, L, T, M, r.sk, r.fr, r.to, r.q⟩) := Lib.hid rfl
 generalize bytesP ⟨r.pk, r.od, r.po, L, T, M, r.sk, r.fr, r.to, r.q⟩ = Y at *
 generalize hny : Y.length = ny at *
 clear hsy hbe hgg HK6
 clear p0 p1 p2 p3 p4 p5 c0 c1 c2 c3 c4 c5 c6 c7 c8 c9 HGX
 have gp := block_later HPX.out HK7.out.below
 have HGX := Lib.hid (HX3.out.later HK7.out.below)
 have p0 : w7.cell? ⟨N2, 0, none⟩ = some (.bool true) := block_cell gp rfl
 have p1 : w7.cell? ⟨N2, 1, none⟩ = some (.bool false) := block_cell gp rfl
 have p2 : w7.cell? ⟨N2, 2, none⟩ = some (.bool false) := block_cell gp rfl
 have p3 : w7.cell? ⟨N2, 3, none⟩ = some (.bool false) := block_cell gp rfl
 have p4 : w7.cell? ⟨N2, 4, none⟩ = some (.bool false) := block_cell gp rfl
 have p5 : w7.cell? ⟨N2, 5, none⟩ = some (.bool true) := block_cell gp rfl
 obtain ⟨c0, c1, c2, c3, c4, c5, c6, c7, c8, c9⟩ := HGX.out.at
 rw [hk] at c0
 clear gp
 go_wp2_with fail
 have HNY := Lib.hid hny
 clear hny
 refine (wo_bytes HK7.out py ny cy Y HSY.out (by simp only [List.length_append, List.length_nil, le_len]; omega)).mono ?_
 rintro e w8 ⟨rfl, hkk⟩
 have HK8 := Lib.hid hkk
 clear hkk HK7
 clear p0 p1 p2 p3 p4 p5 c0 c1 c2 c3 c4 c5 c6 c7 c8 c9 HGX
 have gp := block_later HPX.out HK8.out.below
 have HGX := Lib.hid (HX3.out.later HK8.out.below)
 have p0 : w8.cell? ⟨N2, 0, none⟩ = some (.bool true) := block_cell gp rfl
 have p1 : w8.cell? ⟨N2, 1, none⟩ = some (.bool false) := block_cell gp rfl
 have p2 : w8.cell? ⟨N2, 2, none⟩ = some (.bool false) := block_cell gp rfl
 have p3 : w8.cell? ⟨N2, 3, none⟩ = some (.bool false) := block_cell gp rfl
 have p4 : w8.cell? ⟨N2, 4, none⟩ = some (.bool false) := block_cell gp rfl
 have p5 : w8.cell? ⟨N2, 5, none⟩ = some (.bool true) := block_cell gp rfl
 obtain ⟨c0, c1, c2, c3, c4, c5, c6, c7, c8, c9⟩ := HGX.out.at
 rw [hk] at c0
 clear gp
 go_wp2_with fail
 have hbx : (((([] : List Nat) ++ le ((1 : Int)).toNat 1) ++ le r.sg.toNat 4) ++ (le Y.length 2 ++ Y)) = bytesX (r.x L T M) := by
  unfold bytesX
  rw [show ((r.x L T M)).k = 1 from hk]
  simp [kS, kT, kB, kA, kO, kP, Rv.x, List.append_assoc, HBP.out]
 have hlx : (bytesX (r.x L T M)).length ≤ 100000 := by rw [← hbx]; simp only [List.length_append, List.length_nil, le_len]; have := HNY.out; omega
 have HKz : Hid (WrOk w3 w8 Bw 512 (0, bytesX (r.x L T M))) := Lib.hid (by rw [← hbx]; exact HK8.out)
 clear hbx HK8
 generalize bytesX (r.x L T M) = Z at *
 refine (done_good w3 w8 Bw 512 Z HKz.out hlx).mono ?_
 rintro e w9 ⟨pz', cz, rfl, hbz, hsz, _⟩
 have HF : Hid (GivesB W Z (.returned (.tuple #[.slice pz' Z.length cz, .int .i64 0])) w9) := Lib.hid ⟨pz', cz, rfl, hsz, HB3.out.trans (hbz.mono HB3.out.size)⟩
 clear hbz hsz hlx
 generalize Z.length = nz at *
 clear p0 p1 p2 p3 p4 p5 c0 c1 c2 c3 c4 c5 c6 c7 c8 c9 HGX
 go_wp2_with fail
 go_ret2
 exact HF.out
set_option maxHeartbeats 8000000 in
theorem rec_write2 (r : Rv) (L : List Ln) (T : List Tk) (M : List Ln) (W : World) (hok : Rxok (r.x L T M)) (hk : r.k = 2) : Calls Tryz.prog 91 #[.agg (rcs r)] W (GivesB W (bytesX (r.x L T M))) := by
 obtain ⟨W1, hW1, hb1⟩ : ∃ W1, W.alloc (.cells (rcs r) 40) = W1 ∧ Below W.heap.size W W1 := ⟨_, rfl, (Below.refl _ _).alloc (Nat.le_refl _) _⟩
 obtain ⟨B, hB⟩ : ∃ B, W.heap.size = B := ⟨_, rfl⟩
 have hrb := RB.new W r
 rw [hW1, hB] at hrb
 have HX1 := Lib.hid hrb
 have HW1 := Lib.hid hW1
 have HB1 := Lib.hid hb1
 have HRE := Lib.hid hB
 have c0 : W1.cell? ⟨B, 0, none⟩ = some (.int .u8 r.k) := block_cell hrb rfl
 rw [hk] at c0
 clear hW1 hb1 hB hrb
 have HOK := Lib.hid hok
 have u1 := wrap_u64 hok.sg
 have u2 := wrap_u64 hok.tx
 have u3 : IntKind.u64.wrap r.st = r.st := wrap_u64 ⟨hok.st.1, Int.le_trans hok.st.2 (by decide)⟩
 have u4 : IntKind.u64.wrap r.o = r.o := wrap_u64 ⟨hok.o.1, Int.le_trans hok.o.2 (by decide)⟩
 change IntKind.u64.wrap r.sg = r.sg at u1
 change IntKind.u64.wrap r.tx = r.tx at u2
 have hpa := parts_any 2 W1
 unfold GivesPt at hpa
 rw [show ptc 2 = #[.bool true, .bool true, .bool true, .bool false, .bool false, .bool false] from rfl] at hpa
 clear hok
 go_enter Tryz.func91, Tryz.ntmps91
 go_upto_region 1 with (fail)
 rw [HW1.out, HRE.out]
 go_wp2_with fail
 refine hpa.mono ?_
 rintro e w2 ⟨rfl, h2⟩
 have HB2 := Lib.hid (HB1.out.trans (h2.mono HB1.out.size))
 have HX2 := Lib.hid (HX1.out.later h2)
 clear h2 hpa c0
 obtain ⟨N2, hN2⟩ : ∃ n, w2.heap.size = n := ⟨_, rfl⟩
 obtain ⟨w3, hwn, hxn, hbn⟩ : ∃ w3, (w2.alloc (.cells pz 89)).setRow N2 #[.bool true, .bool true, .bool true, .bool false, .bool false, .bool false] = w3 ∧ w3.heap[N2]? = some (.cells #[.bool true, .bool true, .bool true, .bool false, .bool false, .bool false] 89 (0, 0)) ∧ Below w2.heap.size w2 w3 := ⟨_, rfl, by rw [← hN2]; exact setRow_heap _ _ _ _ _ _ (alloc_block w2 _), below_setRow ((Below.refl _ _).alloc (Nat.le_refl _) _) (by omega) _⟩
 have hx2 := alloc_block w2 (.cells pz 89)
 rw [hN2] at hx2
 have HPX := Lib.hid hxn
 have HPZ := Lib.hid hx2
 have HBN := Lib.hid hbn
 have HWN := Lib.hid hwn
 have HNN := Lib.hid hN2
 have HS6 : Hid ((#[.bool true, .bool true, .bool true, .bool false, .bool false, .bool false] : Array Value).size = 6) := Lib.hid rfl
 have HA6 : Hid ((#[.bool true, .bool true, .bool true, .bool false, .bool false, .bool false] : Array Value).all (·.oneCell') = true) := Lib.hid (by simp [Value.oneCell'])
 clear hx2 hxn hbn hwn hN2
 have HB3 := Lib.hid (HB2.out.trans (HBN.out.mono HB2.out.size))
 have HX3 := Lib.hid (HX2.out.later HBN.out)
 go_wp2_with ((try rw [HNN.out]); (with_reducible refine wpList_store_pt #[.bool true, .bool true, .bool true, .bool false, .bool false, .bool false] HS6.out HA6.out HPZ.out ?_ ?_ ?_); rfl; rfl; rw [HWN.out])
 refine (new_ok w3 w3 512 (Below.refl _ _)).mono ?_
 rintro e w4 ⟨Bw, rfl, hkk⟩
 rw [show lim 512 = 512 from rfl] at hkk
 have HK4 := Lib.hid hkk
 clear hkk
 have gp := block_later HPX.out HK4.out.below
 have HGX := Lib.hid (HX3.out.later HK4.out.below)
 have p0 : w4.cell? ⟨N2, 0, none⟩ = some (.bool true) := block_cell gp rfl
 have p1 : w4.cell? ⟨N2, 1, none⟩ = some (.bool true) := block_cell gp rfl
 have p2 : w4.cell? ⟨N2, 2, none⟩ = some (.bool true) := block_cell gp rfl
 have p3 : w4.cell? ⟨N2, 3, none⟩ = some (.bool false) := block_cell gp rfl
 have p4 : w4.cell? ⟨N2, 4, none⟩ = some (.bool false) := block_cell gp rfl
 have p5 : w4.cell? ⟨N2, 5, none⟩ = some (.bool false) := block_cell gp rfl
 obtain ⟨c0, c1, c2, c3, c4, c5, c6, c7, c8, c9⟩ := HGX.out.at
 rw [hk] at c0
 clear gp
 go_wp2_with fail
 refine (wo_num1 HK4.out 2 (by omega) (by simp)).mono ?_
 rintro e w5 ⟨rfl, hkk⟩
 have HK5 := Lib.hid hkk
 clear hkk HK4
 clear p0 p1 p2 p3 p4 p5 c0 c1 c2 c3 c4 c5 c6 c7 c8 c9 HGX
 have gp := block_later HPX.out HK5.out.below
 have HGX := Lib.hid (HX3.out.later HK5.out.below)
 have p0 : w5.cell? ⟨N2, 0, none⟩ = some (.bool true) := block_cell gp rfl
 have p1 : w5.cell? ⟨N2, 1, none⟩ = some (.bool true) := block_cell gp rfl
 have p2 : w5.cell? ⟨N2, 2, none⟩ = some (.bool true) := block_cell gp rfl
 have p3 : w5.cell? ⟨N2, 3, none⟩ = some (.bool false) := block_cell gp rfl
 have p4 : w5.cell? ⟨N2, 4, none⟩ = some (.bool false) := block_cell gp rfl
 have p5 : w5.cell? ⟨N2, 5, none⟩ = some (.bool false) := block_cell gp rfl
 obtain ⟨c0, c1, c2, c3, c4, c5, c6, c7, c8, c9⟩ := HGX.out.at
 rw [hk] at c0
 clear gp
 go_wp2_with fail
 refine (wo_num4 HK5.out r.sg HOK.out.sg (by simp only [List.length_append, List.length_nil, le_len]; omega)).mono ?_
 rintro e w6 ⟨rfl, hkk⟩
 have HK6 := Lib.hid hkk
 clear hkk HK5
 clear p0 p1 p2 p3 p4 p5 c0 c1 c2 c3 c4 c5 c6 c7 c8 c9 HGX
 have gp := block_later HPX.out HK6.out.below
 have HGX := Lib.hid (HX3.out.later HK6.out.below)
 have p0 : w6.cell? ⟨N2, 0, none⟩ = some (.bool true) := block_cell gp rfl
 have p1 : w6.cell? ⟨N2, 1, none⟩ = some (.bool true) := block_cell gp rfl
 have p2 : w6.cell? ⟨N2, 2, none⟩ = some (.bool true) := block_cell gp rfl
 have p3 : w6.cell? ⟨N2, 3, none⟩ = some (.bool false) := block_cell gp rfl
 have p4 : w6.cell? ⟨N2, 4, none⟩ = some (.bool false) := block_cell gp rfl
 have p5 : w6.cell? ⟨N2, 5, none⟩ = some (.bool false) := block_cell gp rfl
 obtain ⟨c0, c1, c2, c3, c4, c5, c6, c7, c8, c9⟩ := HGX.out.at
 rw [hk] at c0
 clear gp
 go_wp2_with fail
 refine (wo_num4 HK6.out r.tx HOK.out.tx (by simp only [List.length_append, List.length_nil, le_len]; omega)).mono ?_
 rintro e w7 ⟨rfl, hkk⟩
 have HK7 := Lib.hid hkk
 clear hkk HK6
 clear p0 p1 p2 p3 p4 p5 c0 c1 c2 c3 c4 c5 c6 c7 c8 c9 HGX
 have gp := block_later HPX.out HK7.out.below
 have HGX := Lib.hid (HX3.out.later HK7.out.below)
 have p0 : w7.cell? ⟨N2, 0, none⟩ = some (.bool true) := block_cell gp rfl
 have p1 : w7.cell? ⟨N2, 1, none⟩ = some (.bool true) := block_cell gp rfl
 have p2 : w7.cell? ⟨N2, 2, none⟩ = some (.bool true) := block_cell gp rfl
 have p3 : w7.cell? ⟨N2, 3, none⟩ = some (.bool false) := block_cell gp rfl
 have p4 : w7.cell? ⟨N2, 4, none⟩ = some (.bool false) := block_cell gp rfl
 have p5 : w7.cell? ⟨N2, 5, none⟩ = some (.bool false) := block_cell gp rfl
 obtain ⟨c0, c1, c2, c3, c4, c5, c6, c7, c8, c9⟩ := HGX.out.at
 rw [hk] at c0
 clear gp
 go_wp2_with fail
 refine (wo_num1 HK7.out r.st HOK.out.st (by simp only [List.length_append, List.length_nil, le_len]; omega)).mono ?_
 rintro e w8 ⟨rfl, hkk⟩
 have HK8 := Lib.hid hkk
 clear hkk HK7
 clear p0 p1 p2 p3 p4 p5 c0 c1 c2 c3 c4 c5 c6 c7 c8 c9 HGX
 have gp := block_later HPX.out HK8.out.below
 have HGX := Lib.hid (HX3.out.later HK8.out.below)
 have p0 : w8.cell? ⟨N2, 0, none⟩ = some (.bool true) := block_cell gp rfl
 have p1 : w8.cell? ⟨N2, 1, none⟩ = some (.bool true) := block_cell gp rfl
 have p2 : w8.cell? ⟨N2, 2, none⟩ = some (.bool true) := block_cell gp rfl
 have p3 : w8.cell? ⟨N2, 3, none⟩ = some (.bool false) := block_cell gp rfl
 have p4 : w8.cell? ⟨N2, 4, none⟩ = some (.bool false) := block_cell gp rfl
 have p5 : w8.cell? ⟨N2, 5, none⟩ = some (.bool false) := block_cell gp rfl
 obtain ⟨c0, c1, c2, c3, c4, c5, c6, c7, c8, c9⟩ := HGX.out.at
 rw [hk] at c0
 clear gp
 go_wp2_with fail
 refine (wo_bool HK8.out r.cp (by simp only [List.length_append, List.length_nil, le_len]; omega)).mono ?_
 rintro e w9 ⟨rfl, hkk⟩
 have HK9 := Lib.hid hkk
 clear hkk HK8
 clear p0 p1 p2 p3 p4 p5 c0 c1 c2 c3 c4 c5 c6 c7 c8 c9 HGX
 have gp := block_later HPX.out HK9.out.below
 have HGX := Lib.hid (HX3.out.later HK9.out.below)
 have p0 : w9.cell? ⟨N2, 0, none⟩ = some (.bool true) := block_cell gp rfl
 have p1 : w9.cell? ⟨N2, 1, none⟩ = some (.bool true) := block_cell gp rfl
 have p2 : w9.cell? ⟨N2, 2, none⟩ = some (.bool true) := block_cell gp rfl
 have p3 : w9.cell? ⟨N2, 3, none⟩ = some (.bool false) := block_cell gp rfl
 have p4 : w9.cell? ⟨N2, 4, none⟩ = some (.bool false) := block_cell gp rfl
 have p5 : w9.cell? ⟨N2, 5, none⟩ = some (.bool false) := block_cell gp rfl
 obtain ⟨c0, c1, c2, c3, c4, c5, c6, c7, c8, c9⟩ := HGX.out.at
 rw [hk] at c0
 clear gp
 go_wp2_with fail
 have hbx : (((((([] : List Nat) ++ le ((2 : Int)).toNat 1) ++ le r.sg.toNat 4) ++ le r.tx.toNat 4) ++ le r.st.toNat 1) ++ [bitN r.cp]) = bytesX (r.x L T M) := by
  unfold bytesX
  rw [show ((r.x L T M)).k = 2 from hk]
  simp [kS, kT, kB, kA, kO, kP, Rv.x, List.append_assoc]
 have hlx : (bytesX (r.x L T M)).length ≤ 100000 := by rw [← hbx]; simp only [List.length_append, List.length_nil, List.length_cons, le_len, keyB]; omega
 have HKz : Hid (WrOk w3 w9 Bw 512 (0, bytesX (r.x L T M))) := Lib.hid (by rw [← hbx]; exact HK9.out)
 clear hbx HK9
 generalize bytesX (r.x L T M) = Z at *
 refine (done_good w3 w9 Bw 512 Z HKz.out hlx).mono ?_
 rintro e w10 ⟨pz', cz, rfl, hbz, hsz, _⟩
 have HF : Hid (GivesB W Z (.returned (.tuple #[.slice pz' Z.length cz, .int .i64 0])) w10) := Lib.hid ⟨pz', cz, rfl, hsz, HB3.out.trans (hbz.mono HB3.out.size)⟩
 clear hbz hsz hlx
 generalize Z.length = nz at *
 clear p0 p1 p2 p3 p4 p5 c0 c1 c2 c3 c4 c5 c6 c7 c8 c9 HGX
 go_wp2_with fail
 go_ret2
 exact HF.out
set_option maxHeartbeats 8000000 in
theorem rec_write3 (r : Rv) (L : List Ln) (T : List Tk) (M : List Ln) (W : World) (hok : Rxok (r.x L T M)) (hk : r.k = 3) : Calls Tryz.prog 91 #[.agg (rcs r)] W (GivesB W (bytesX (r.x L T M))) := by
 obtain ⟨W1, hW1, hb1⟩ : ∃ W1, W.alloc (.cells (rcs r) 40) = W1 ∧ Below W.heap.size W W1 := ⟨_, rfl, (Below.refl _ _).alloc (Nat.le_refl _) _⟩
 obtain ⟨B, hB⟩ : ∃ B, W.heap.size = B := ⟨_, rfl⟩
 have hrb := RB.new W r
 rw [hW1, hB] at hrb
 have HX1 := Lib.hid hrb
 have HW1 := Lib.hid hW1
 have HB1 := Lib.hid hb1
 have HRE := Lib.hid hB
 have c0 : W1.cell? ⟨B, 0, none⟩ = some (.int .u8 r.k) := block_cell hrb rfl
 rw [hk] at c0
 clear hW1 hb1 hB hrb
 have HOK := Lib.hid hok
 have u1 := wrap_u64 hok.sg
 have u2 := wrap_u64 hok.tx
 have u3 : IntKind.u64.wrap r.st = r.st := wrap_u64 ⟨hok.st.1, Int.le_trans hok.st.2 (by decide)⟩
 have u4 : IntKind.u64.wrap r.o = r.o := wrap_u64 ⟨hok.o.1, Int.le_trans hok.o.2 (by decide)⟩
 change IntKind.u64.wrap r.sg = r.sg at u1
 change IntKind.u64.wrap r.tx = r.tx at u2
 have hpa := parts_any 3 W1
 unfold GivesPt at hpa
 rw [show ptc 3 = #[.bool false, .bool true, .bool false, .bool true, .bool false, .bool false] from rfl] at hpa
 clear hok
 go_enter Tryz.func91, Tryz.ntmps91
 go_upto_region 1 with (fail)
 rw [HW1.out, HRE.out]
 go_wp2_with fail
 refine hpa.mono ?_
 rintro e w2 ⟨rfl, h2⟩
 have HB2 := Lib.hid (HB1.out.trans (h2.mono HB1.out.size))
 have HX2 := Lib.hid (HX1.out.later h2)
 clear h2 hpa c0
 obtain ⟨N2, hN2⟩ : ∃ n, w2.heap.size = n := ⟨_, rfl⟩
 obtain ⟨w3, hwn, hxn, hbn⟩ : ∃ w3, (w2.alloc (.cells pz 89)).setRow N2 #[.bool false, .bool true, .bool false, .bool true, .bool false, .bool false] = w3 ∧ w3.heap[N2]? = some (.cells #[.bool false, .bool true, .bool false, .bool true, .bool false, .bool false] 89 (0, 0)) ∧ Below w2.heap.size w2 w3 := ⟨_, rfl, by rw [← hN2]; exact setRow_heap _ _ _ _ _ _ (alloc_block w2 _), below_setRow ((Below.refl _ _).alloc (Nat.le_refl _) _) (by omega) _⟩
 have hx2 := alloc_block w2 (.cells pz 89)
 rw [hN2] at hx2
 have HPX := Lib.hid hxn
 have HPZ := Lib.hid hx2
 have HBN := Lib.hid hbn
 have HWN := Lib.hid hwn
 have HNN := Lib.hid hN2
 have HS6 : Hid ((#[.bool false, .bool true, .bool false, .bool true, .bool false, .bool false] : Array Value).size = 6) := Lib.hid rfl
 have HA6 : Hid ((#[.bool false, .bool true, .bool false, .bool true, .bool false, .bool false] : Array Value).all (·.oneCell') = true) := Lib.hid (by simp [Value.oneCell'])
 clear hx2 hxn hbn hwn hN2
 have HB3 := Lib.hid (HB2.out.trans (HBN.out.mono HB2.out.size))
 have HX3 := Lib.hid (HX2.out.later HBN.out)
 go_wp2_with ((try rw [HNN.out]); (with_reducible refine wpList_store_pt #[.bool false, .bool true, .bool false, .bool true, .bool false, .bool false] HS6.out HA6.out HPZ.out ?_ ?_ ?_); rfl; rfl; rw [HWN.out])
 refine (new_ok w3 w3 512 (Below.refl _ _)).mono ?_
 rintro e w4 ⟨Bw, rfl, hkk⟩
 rw [show lim 512 = 512 from rfl] at hkk
 have HK4 := Lib.hid hkk
 clear hkk
 have gp := block_later HPX.out HK4.out.below
 have HGX := Lib.hid (HX3.out.later HK4.out.below)
 have p0 : w4.cell? ⟨N2, 0, none⟩ = some (.bool false) := block_cell gp rfl
 have p1 : w4.cell? ⟨N2, 1, none⟩ = some (.bool true) := block_cell gp rfl
 have p2 : w4.cell? ⟨N2, 2, none⟩ = some (.bool false) := block_cell gp rfl
 have p3 : w4.cell? ⟨N2, 3, none⟩ = some (.bool true) := block_cell gp rfl
 have p4 : w4.cell? ⟨N2, 4, none⟩ = some (.bool false) := block_cell gp rfl
 have p5 : w4.cell? ⟨N2, 5, none⟩ = some (.bool false) := block_cell gp rfl
 obtain ⟨c0, c1, c2, c3, c4, c5, c6, c7, c8, c9⟩ := HGX.out.at
 rw [hk] at c0
 clear gp
 go_wp2_with fail
 refine (wo_num1 HK4.out 3 (by omega) (by simp)).mono ?_
 rintro e w5 ⟨rfl, hkk⟩
 have HK5 := Lib.hid hkk
 clear hkk HK4
 clear p0 p1 p2 p3 p4 p5 c0 c1 c2 c3 c4 c5 c6 c7 c8 c9 HGX
 have gp := block_later HPX.out HK5.out.below
 have HGX := Lib.hid (HX3.out.later HK5.out.below)
 have p0 : w5.cell? ⟨N2, 0, none⟩ = some (.bool false) := block_cell gp rfl
 have p1 : w5.cell? ⟨N2, 1, none⟩ = some (.bool true) := block_cell gp rfl
 have p2 : w5.cell? ⟨N2, 2, none⟩ = some (.bool false) := block_cell gp rfl
 have p3 : w5.cell? ⟨N2, 3, none⟩ = some (.bool true) := block_cell gp rfl
 have p4 : w5.cell? ⟨N2, 4, none⟩ = some (.bool false) := block_cell gp rfl
 have p5 : w5.cell? ⟨N2, 5, none⟩ = some (.bool false) := block_cell gp rfl
 obtain ⟨c0, c1, c2, c3, c4, c5, c6, c7, c8, c9⟩ := HGX.out.at
 rw [hk] at c0
 clear gp
 go_wp2_with fail
 refine (wo_num4 HK5.out r.tx HOK.out.tx (by simp only [List.length_append, List.length_nil, le_len]; omega)).mono ?_
 rintro e w6 ⟨rfl, hkk⟩
 have HK6 := Lib.hid hkk
 clear hkk HK5
 clear p0 p1 p2 p3 p4 p5 c0 c1 c2 c3 c4 c5 c6 c7 c8 c9 HGX
 have gp := block_later HPX.out HK6.out.below
 have HGX := Lib.hid (HX3.out.later HK6.out.below)
 have p0 : w6.cell? ⟨N2, 0, none⟩ = some (.bool false) := block_cell gp rfl
 have p1 : w6.cell? ⟨N2, 1, none⟩ = some (.bool true) := block_cell gp rfl
 have p2 : w6.cell? ⟨N2, 2, none⟩ = some (.bool false) := block_cell gp rfl
 have p3 : w6.cell? ⟨N2, 3, none⟩ = some (.bool true) := block_cell gp rfl
 have p4 : w6.cell? ⟨N2, 4, none⟩ = some (.bool false) := block_cell gp rfl
 have p5 : w6.cell? ⟨N2, 5, none⟩ = some (.bool false) := block_cell gp rfl
 obtain ⟨c0, c1, c2, c3, c4, c5, c6, c7, c8, c9⟩ := HGX.out.at
 rw [hk] at c0
 clear gp
 go_wp2_with fail
 have HKb := Lib.hid (HK6.out.later (Chg.of_below (S := fun _ => False) ((Below.refl w6.heap.size w6).alloc (Nat.le_refl _) (.cells #[.int .u8 r.ka, .int .u8 r.kb, .int .u8 r.kc] 5))))
 refine (wo_raw HKb.out (some ⟨w6.heap.size, 0, none⟩) 3 3 (keyB (r.ka, r.kb, r.kc)) (sl_three r.ka r.kb r.kc HOK.out.key.1 HOK.out.key.2.1 HOK.out.key.2.2 w6) (by simp only [List.length_append, List.length_nil, le_len]; omega)).mono ?_
 rintro e w7 ⟨rfl, hkk⟩
 have HK7 := Lib.hid hkk
 clear hkk HK6 HKb
 clear p0 p1 p2 p3 p4 p5 c0 c1 c2 c3 c4 c5 c6 c7 c8 c9 HGX
 have gp := block_later HPX.out HK7.out.below
 have HGX := Lib.hid (HX3.out.later HK7.out.below)
 have p0 : w7.cell? ⟨N2, 0, none⟩ = some (.bool false) := block_cell gp rfl
 have p1 : w7.cell? ⟨N2, 1, none⟩ = some (.bool true) := block_cell gp rfl
 have p2 : w7.cell? ⟨N2, 2, none⟩ = some (.bool false) := block_cell gp rfl
 have p3 : w7.cell? ⟨N2, 3, none⟩ = some (.bool true) := block_cell gp rfl
 have p4 : w7.cell? ⟨N2, 4, none⟩ = some (.bool false) := block_cell gp rfl
 have p5 : w7.cell? ⟨N2, 5, none⟩ = some (.bool false) := block_cell gp rfl
 obtain ⟨c0, c1, c2, c3, c4, c5, c6, c7, c8, c9⟩ := HGX.out.at
 rw [hk] at c0
 clear gp
 go_wp2_with fail
 refine (wo_int HK7.out r.d HOK.out.d (by simp only [List.length_append, List.length_nil, le_len, keyB, List.length_cons]; omega)).mono ?_
 rintro e w8 ⟨rfl, hkk⟩
 have HK8 := Lib.hid hkk
 clear hkk HK7
 clear p0 p1 p2 p3 p4 p5 c0 c1 c2 c3 c4 c5 c6 c7 c8 c9 HGX
 have gp := block_later HPX.out HK8.out.below
 have HGX := Lib.hid (HX3.out.later HK8.out.below)
 have p0 : w8.cell? ⟨N2, 0, none⟩ = some (.bool false) := block_cell gp rfl
 have p1 : w8.cell? ⟨N2, 1, none⟩ = some (.bool true) := block_cell gp rfl
 have p2 : w8.cell? ⟨N2, 2, none⟩ = some (.bool false) := block_cell gp rfl
 have p3 : w8.cell? ⟨N2, 3, none⟩ = some (.bool true) := block_cell gp rfl
 have p4 : w8.cell? ⟨N2, 4, none⟩ = some (.bool false) := block_cell gp rfl
 have p5 : w8.cell? ⟨N2, 5, none⟩ = some (.bool false) := block_cell gp rfl
 obtain ⟨c0, c1, c2, c3, c4, c5, c6, c7, c8, c9⟩ := HGX.out.at
 rw [hk] at c0
 clear gp
 go_wp2_with fail
 have hbx : ((((([] : List Nat) ++ le ((3 : Int)).toNat 1) ++ le r.tx.toNat 4) ++ keyB (r.ka, r.kb, r.kc)) ++ le (u64 r.d) 8) = bytesX (r.x L T M) := by
  unfold bytesX
  rw [show ((r.x L T M)).k = 3 from hk]
  simp [kS, kT, kB, kA, kO, kP, Rv.x, List.append_assoc]
 have hlx : (bytesX (r.x L T M)).length ≤ 100000 := by rw [← hbx]; simp only [List.length_append, List.length_nil, List.length_cons, le_len, keyB]; omega
 have HKz : Hid (WrOk w3 w8 Bw 512 (0, bytesX (r.x L T M))) := Lib.hid (by rw [← hbx]; exact HK8.out)
 clear hbx HK8
 generalize bytesX (r.x L T M) = Z at *
 refine (done_good w3 w8 Bw 512 Z HKz.out hlx).mono ?_
 rintro e w9 ⟨pz', cz, rfl, hbz, hsz, _⟩
 have HF : Hid (GivesB W Z (.returned (.tuple #[.slice pz' Z.length cz, .int .i64 0])) w9) := Lib.hid ⟨pz', cz, rfl, hsz, HB3.out.trans (hbz.mono HB3.out.size)⟩
 clear hbz hsz hlx
 generalize Z.length = nz at *
 clear p0 p1 p2 p3 p4 p5 c0 c1 c2 c3 c4 c5 c6 c7 c8 c9 HGX
 go_wp2_with fail
 go_ret2
 exact HF.out
set_option maxHeartbeats 8000000 in
theorem rec_write4 (r : Rv) (L : List Ln) (T : List Tk) (M : List Ln) (W : World) (hok : Rxok (r.x L T M)) (hk : r.k = 4) : Calls Tryz.prog 91 #[.agg (rcs r)] W (GivesB W (bytesX (r.x L T M))) := by
 obtain ⟨W1, hW1, hb1⟩ : ∃ W1, W.alloc (.cells (rcs r) 40) = W1 ∧ Below W.heap.size W W1 := ⟨_, rfl, (Below.refl _ _).alloc (Nat.le_refl _) _⟩
 obtain ⟨B, hB⟩ : ∃ B, W.heap.size = B := ⟨_, rfl⟩
 have hrb := RB.new W r
 rw [hW1, hB] at hrb
 have HX1 := Lib.hid hrb
 have HW1 := Lib.hid hW1
 have HB1 := Lib.hid hb1
 have HRE := Lib.hid hB
 have c0 : W1.cell? ⟨B, 0, none⟩ = some (.int .u8 r.k) := block_cell hrb rfl
 rw [hk] at c0
 clear hW1 hb1 hB hrb
 have HOK := Lib.hid hok
 have u1 := wrap_u64 hok.sg
 have u2 := wrap_u64 hok.tx
 have u3 : IntKind.u64.wrap r.st = r.st := wrap_u64 ⟨hok.st.1, Int.le_trans hok.st.2 (by decide)⟩
 have u4 : IntKind.u64.wrap r.o = r.o := wrap_u64 ⟨hok.o.1, Int.le_trans hok.o.2 (by decide)⟩
 change IntKind.u64.wrap r.sg = r.sg at u1
 change IntKind.u64.wrap r.tx = r.tx at u2
 have hpa := parts_any 4 W1
 unfold GivesPt at hpa
 rw [show ptc 4 = #[.bool false, .bool true, .bool false, .bool false, .bool false, .bool false] from rfl] at hpa
 clear hok
 go_enter Tryz.func91, Tryz.ntmps91
 go_upto_region 1 with (fail)
 rw [HW1.out, HRE.out]
 go_wp2_with fail
 refine hpa.mono ?_
 rintro e w2 ⟨rfl, h2⟩
 have HB2 := Lib.hid (HB1.out.trans (h2.mono HB1.out.size))
 have HX2 := Lib.hid (HX1.out.later h2)
 clear h2 hpa c0
 obtain ⟨N2, hN2⟩ : ∃ n, w2.heap.size = n := ⟨_, rfl⟩
 obtain ⟨w3, hwn, hxn, hbn⟩ : ∃ w3, (w2.alloc (.cells pz 89)).setRow N2 #[.bool false, .bool true, .bool false, .bool false, .bool false, .bool false] = w3 ∧ w3.heap[N2]? = some (.cells #[.bool false, .bool true, .bool false, .bool false, .bool false, .bool false] 89 (0, 0)) ∧ Below w2.heap.size w2 w3 := ⟨_, rfl, by rw [← hN2]; exact setRow_heap _ _ _ _ _ _ (alloc_block w2 _), below_setRow ((Below.refl _ _).alloc (Nat.le_refl _) _) (by omega) _⟩
 have hx2 := alloc_block w2 (.cells pz 89)
 rw [hN2] at hx2
 have HPX := Lib.hid hxn
 have HPZ := Lib.hid hx2
 have HBN := Lib.hid hbn
 have HWN := Lib.hid hwn
 have HNN := Lib.hid hN2
 have HS6 : Hid ((#[.bool false, .bool true, .bool false, .bool false, .bool false, .bool false] : Array Value).size = 6) := Lib.hid rfl
 have HA6 : Hid ((#[.bool false, .bool true, .bool false, .bool false, .bool false, .bool false] : Array Value).all (·.oneCell') = true) := Lib.hid (by simp [Value.oneCell'])
 clear hx2 hxn hbn hwn hN2
 have HB3 := Lib.hid (HB2.out.trans (HBN.out.mono HB2.out.size))
 have HX3 := Lib.hid (HX2.out.later HBN.out)
 go_wp2_with ((try rw [HNN.out]); (with_reducible refine wpList_store_pt #[.bool false, .bool true, .bool false, .bool false, .bool false, .bool false] HS6.out HA6.out HPZ.out ?_ ?_ ?_); rfl; rfl; rw [HWN.out])
 refine (new_ok w3 w3 512 (Below.refl _ _)).mono ?_
 rintro e w4 ⟨Bw, rfl, hkk⟩
 rw [show lim 512 = 512 from rfl] at hkk
 have HK4 := Lib.hid hkk
 clear hkk
 have gp := block_later HPX.out HK4.out.below
 have HGX := Lib.hid (HX3.out.later HK4.out.below)
 have p0 : w4.cell? ⟨N2, 0, none⟩ = some (.bool false) := block_cell gp rfl
 have p1 : w4.cell? ⟨N2, 1, none⟩ = some (.bool true) := block_cell gp rfl
 have p2 : w4.cell? ⟨N2, 2, none⟩ = some (.bool false) := block_cell gp rfl
 have p3 : w4.cell? ⟨N2, 3, none⟩ = some (.bool false) := block_cell gp rfl
 have p4 : w4.cell? ⟨N2, 4, none⟩ = some (.bool false) := block_cell gp rfl
 have p5 : w4.cell? ⟨N2, 5, none⟩ = some (.bool false) := block_cell gp rfl
 obtain ⟨c0, c1, c2, c3, c4, c5, c6, c7, c8, c9⟩ := HGX.out.at
 rw [hk] at c0
 clear gp
 go_wp2_with fail
 refine (wo_num1 HK4.out 4 (by omega) (by simp)).mono ?_
 rintro e w5 ⟨rfl, hkk⟩
 have HK5 := Lib.hid hkk
 clear hkk HK4
 clear p0 p1 p2 p3 p4 p5 c0 c1 c2 c3 c4 c5 c6 c7 c8 c9 HGX
 have gp := block_later HPX.out HK5.out.below
 have HGX := Lib.hid (HX3.out.later HK5.out.below)
 have p0 : w5.cell? ⟨N2, 0, none⟩ = some (.bool false) := block_cell gp rfl
 have p1 : w5.cell? ⟨N2, 1, none⟩ = some (.bool true) := block_cell gp rfl
 have p2 : w5.cell? ⟨N2, 2, none⟩ = some (.bool false) := block_cell gp rfl
 have p3 : w5.cell? ⟨N2, 3, none⟩ = some (.bool false) := block_cell gp rfl
 have p4 : w5.cell? ⟨N2, 4, none⟩ = some (.bool false) := block_cell gp rfl
 have p5 : w5.cell? ⟨N2, 5, none⟩ = some (.bool false) := block_cell gp rfl
 obtain ⟨c0, c1, c2, c3, c4, c5, c6, c7, c8, c9⟩ := HGX.out.at
 rw [hk] at c0
 clear gp
 go_wp2_with fail
 refine (wo_num4 HK5.out r.tx HOK.out.tx (by simp only [List.length_append, List.length_nil, le_len]; omega)).mono ?_
 rintro e w6 ⟨rfl, hkk⟩
 have HK6 := Lib.hid hkk
 clear hkk HK5
 clear p0 p1 p2 p3 p4 p5 c0 c1 c2 c3 c4 c5 c6 c7 c8 c9 HGX
 have gp := block_later HPX.out HK6.out.below
 have HGX := Lib.hid (HX3.out.later HK6.out.below)
 have p0 : w6.cell? ⟨N2, 0, none⟩ = some (.bool false) := block_cell gp rfl
 have p1 : w6.cell? ⟨N2, 1, none⟩ = some (.bool true) := block_cell gp rfl
 have p2 : w6.cell? ⟨N2, 2, none⟩ = some (.bool false) := block_cell gp rfl
 have p3 : w6.cell? ⟨N2, 3, none⟩ = some (.bool false) := block_cell gp rfl
 have p4 : w6.cell? ⟨N2, 4, none⟩ = some (.bool false) := block_cell gp rfl
 have p5 : w6.cell? ⟨N2, 5, none⟩ = some (.bool false) := block_cell gp rfl
 obtain ⟨c0, c1, c2, c3, c4, c5, c6, c7, c8, c9⟩ := HGX.out.at
 rw [hk] at c0
 clear gp
 go_wp2_with fail
 have hbx : ((([] : List Nat) ++ le ((4 : Int)).toNat 1) ++ le r.tx.toNat 4) = bytesX (r.x L T M) := by
  unfold bytesX
  rw [show ((r.x L T M)).k = 4 from hk]
  simp [kS, kT, kB, kA, kO, kP, Rv.x, List.append_assoc]
 have hlx : (bytesX (r.x L T M)).length ≤ 100000 := by rw [← hbx]; simp only [List.length_append, List.length_nil, List.length_cons, le_len, keyB]; omega
 have HKz : Hid (WrOk w3 w6 Bw 512 (0, bytesX (r.x L T M))) := Lib.hid (by rw [← hbx]; exact HK6.out)
 clear hbx HK6
 generalize bytesX (r.x L T M) = Z at *
 refine (done_good w3 w6 Bw 512 Z HKz.out hlx).mono ?_
 rintro e w7 ⟨pz', cz, rfl, hbz, hsz, _⟩
 have HF : Hid (GivesB W Z (.returned (.tuple #[.slice pz' Z.length cz, .int .i64 0])) w7) := Lib.hid ⟨pz', cz, rfl, hsz, HB3.out.trans (hbz.mono HB3.out.size)⟩
 clear hbz hsz hlx
 generalize Z.length = nz at *
 clear p0 p1 p2 p3 p4 p5 c0 c1 c2 c3 c4 c5 c6 c7 c8 c9 HGX
 go_wp2_with fail
 go_ret2
 exact HF.out
set_option maxHeartbeats 8000000 in
theorem rec_write5 (r : Rv) (L : List Ln) (T : List Tk) (M : List Ln) (W : World) (hok : Rxok (r.x L T M)) (hk : r.k = 5) : Calls Tryz.prog 91 #[.agg (rcs r)] W (GivesB W (bytesX (r.x L T M))) := by
 obtain ⟨W1, hW1, hb1⟩ : ∃ W1, W.alloc (.cells (rcs r) 40) = W1 ∧ Below W.heap.size W W1 := ⟨_, rfl, (Below.refl _ _).alloc (Nat.le_refl _) _⟩
 obtain ⟨B, hB⟩ : ∃ B, W.heap.size = B := ⟨_, rfl⟩
 have hrb := RB.new W r
 rw [hW1, hB] at hrb
 have HX1 := Lib.hid hrb
 have HW1 := Lib.hid hW1
 have HB1 := Lib.hid hb1
 have HRE := Lib.hid hB
 have c0 : W1.cell? ⟨B, 0, none⟩ = some (.int .u8 r.k) := block_cell hrb rfl
 rw [hk] at c0
 clear hW1 hb1 hB hrb
 have HOK := Lib.hid hok
 have u1 := wrap_u64 hok.sg
 have u2 := wrap_u64 hok.tx
 have u3 : IntKind.u64.wrap r.st = r.st := wrap_u64 ⟨hok.st.1, Int.le_trans hok.st.2 (by decide)⟩
 have u4 : IntKind.u64.wrap r.o = r.o := wrap_u64 ⟨hok.o.1, Int.le_trans hok.o.2 (by decide)⟩
 change IntKind.u64.wrap r.sg = r.sg at u1
 change IntKind.u64.wrap r.tx = r.tx at u2
 have hpa := parts_any 5 W1
 unfold GivesPt at hpa
 rw [show ptc 5 = #[.bool false, .bool true, .bool false, .bool false, .bool false, .bool false] from rfl] at hpa
 clear hok
 go_enter Tryz.func91, Tryz.ntmps91
 go_upto_region 1 with (fail)
 rw [HW1.out, HRE.out]
 go_wp2_with fail
 refine hpa.mono ?_
 rintro e w2 ⟨rfl, h2⟩
 have HB2 := Lib.hid (HB1.out.trans (h2.mono HB1.out.size))
 have HX2 := Lib.hid (HX1.out.later h2)
 clear h2 hpa c0
 obtain ⟨N2, hN2⟩ : ∃ n, w2.heap.size = n := ⟨_, rfl⟩
 obtain ⟨w3, hwn, hxn, hbn⟩ : ∃ w3, (w2.alloc (.cells pz 89)).setRow N2 #[.bool false, .bool true, .bool false, .bool false, .bool false, .bool false] = w3 ∧ w3.heap[N2]? = some (.cells #[.bool false, .bool true, .bool false, .bool false, .bool false, .bool false] 89 (0, 0)) ∧ Below w2.heap.size w2 w3 := ⟨_, rfl, by rw [← hN2]; exact setRow_heap _ _ _ _ _ _ (alloc_block w2 _), below_setRow ((Below.refl _ _).alloc (Nat.le_refl _) _) (by omega) _⟩
 have hx2 := alloc_block w2 (.cells pz 89)
 rw [hN2] at hx2
 have HPX := Lib.hid hxn
 have HPZ := Lib.hid hx2
 have HBN := Lib.hid hbn
 have HWN := Lib.hid hwn
 have HNN := Lib.hid hN2
 have HS6 : Hid ((#[.bool false, .bool true, .bool false, .bool false, .bool false, .bool false] : Array Value).size = 6) := Lib.hid rfl
 have HA6 : Hid ((#[.bool false, .bool true, .bool false, .bool false, .bool false, .bool false] : Array Value).all (·.oneCell') = true) := Lib.hid (by simp [Value.oneCell'])
 clear hx2 hxn hbn hwn hN2
 have HB3 := Lib.hid (HB2.out.trans (HBN.out.mono HB2.out.size))
 have HX3 := Lib.hid (HX2.out.later HBN.out)
 go_wp2_with ((try rw [HNN.out]); (with_reducible refine wpList_store_pt #[.bool false, .bool true, .bool false, .bool false, .bool false, .bool false] HS6.out HA6.out HPZ.out ?_ ?_ ?_); rfl; rfl; rw [HWN.out])
 refine (new_ok w3 w3 512 (Below.refl _ _)).mono ?_
 rintro e w4 ⟨Bw, rfl, hkk⟩
 rw [show lim 512 = 512 from rfl] at hkk
 have HK4 := Lib.hid hkk
 clear hkk
 have gp := block_later HPX.out HK4.out.below
 have HGX := Lib.hid (HX3.out.later HK4.out.below)
 have p0 : w4.cell? ⟨N2, 0, none⟩ = some (.bool false) := block_cell gp rfl
 have p1 : w4.cell? ⟨N2, 1, none⟩ = some (.bool true) := block_cell gp rfl
 have p2 : w4.cell? ⟨N2, 2, none⟩ = some (.bool false) := block_cell gp rfl
 have p3 : w4.cell? ⟨N2, 3, none⟩ = some (.bool false) := block_cell gp rfl
 have p4 : w4.cell? ⟨N2, 4, none⟩ = some (.bool false) := block_cell gp rfl
 have p5 : w4.cell? ⟨N2, 5, none⟩ = some (.bool false) := block_cell gp rfl
 obtain ⟨c0, c1, c2, c3, c4, c5, c6, c7, c8, c9⟩ := HGX.out.at
 rw [hk] at c0
 clear gp
 go_wp2_with fail
 refine (wo_num1 HK4.out 5 (by omega) (by simp)).mono ?_
 rintro e w5 ⟨rfl, hkk⟩
 have HK5 := Lib.hid hkk
 clear hkk HK4
 clear p0 p1 p2 p3 p4 p5 c0 c1 c2 c3 c4 c5 c6 c7 c8 c9 HGX
 have gp := block_later HPX.out HK5.out.below
 have HGX := Lib.hid (HX3.out.later HK5.out.below)
 have p0 : w5.cell? ⟨N2, 0, none⟩ = some (.bool false) := block_cell gp rfl
 have p1 : w5.cell? ⟨N2, 1, none⟩ = some (.bool true) := block_cell gp rfl
 have p2 : w5.cell? ⟨N2, 2, none⟩ = some (.bool false) := block_cell gp rfl
 have p3 : w5.cell? ⟨N2, 3, none⟩ = some (.bool false) := block_cell gp rfl
 have p4 : w5.cell? ⟨N2, 4, none⟩ = some (.bool false) := block_cell gp rfl
 have p5 : w5.cell? ⟨N2, 5, none⟩ = some (.bool false) := block_cell gp rfl
 obtain ⟨c0, c1, c2, c3, c4, c5, c6, c7, c8, c9⟩ := HGX.out.at
 rw [hk] at c0
 clear gp
 go_wp2_with fail
 refine (wo_num4 HK5.out r.tx HOK.out.tx (by simp only [List.length_append, List.length_nil, le_len]; omega)).mono ?_
 rintro e w6 ⟨rfl, hkk⟩
 have HK6 := Lib.hid hkk
 clear hkk HK5
 clear p0 p1 p2 p3 p4 p5 c0 c1 c2 c3 c4 c5 c6 c7 c8 c9 HGX
 have gp := block_later HPX.out HK6.out.below
 have HGX := Lib.hid (HX3.out.later HK6.out.below)
 have p0 : w6.cell? ⟨N2, 0, none⟩ = some (.bool false) := block_cell gp rfl
 have p1 : w6.cell? ⟨N2, 1, none⟩ = some (.bool true) := block_cell gp rfl
 have p2 : w6.cell? ⟨N2, 2, none⟩ = some (.bool false) := block_cell gp rfl
 have p3 : w6.cell? ⟨N2, 3, none⟩ = some (.bool false) := block_cell gp rfl
 have p4 : w6.cell? ⟨N2, 4, none⟩ = some (.bool false) := block_cell gp rfl
 have p5 : w6.cell? ⟨N2, 5, none⟩ = some (.bool false) := block_cell gp rfl
 obtain ⟨c0, c1, c2, c3, c4, c5, c6, c7, c8, c9⟩ := HGX.out.at
 rw [hk] at c0
 clear gp
 go_wp2_with fail
 have hbx : ((([] : List Nat) ++ le ((5 : Int)).toNat 1) ++ le r.tx.toNat 4) = bytesX (r.x L T M) := by
  unfold bytesX
  rw [show ((r.x L T M)).k = 5 from hk]
  simp [kS, kT, kB, kA, kO, kP, Rv.x, List.append_assoc]
 have hlx : (bytesX (r.x L T M)).length ≤ 100000 := by rw [← hbx]; simp only [List.length_append, List.length_nil, List.length_cons, le_len, keyB]; omega
 have HKz : Hid (WrOk w3 w6 Bw 512 (0, bytesX (r.x L T M))) := Lib.hid (by rw [← hbx]; exact HK6.out)
 clear hbx HK6
 generalize bytesX (r.x L T M) = Z at *
 refine (done_good w3 w6 Bw 512 Z HKz.out hlx).mono ?_
 rintro e w7 ⟨pz', cz, rfl, hbz, hsz, _⟩
 have HF : Hid (GivesB W Z (.returned (.tuple #[.slice pz' Z.length cz, .int .i64 0])) w7) := Lib.hid ⟨pz', cz, rfl, hsz, HB3.out.trans (hbz.mono HB3.out.size)⟩
 clear hbz hsz hlx
 generalize Z.length = nz at *
 clear p0 p1 p2 p3 p4 p5 c0 c1 c2 c3 c4 c5 c6 c7 c8 c9 HGX
 go_wp2_with fail
 go_ret2
 exact HF.out
set_option maxHeartbeats 8000000 in
theorem rec_write6 (r : Rv) (L : List Ln) (T : List Tk) (M : List Ln) (W : World) (hok : Rxok (r.x L T M)) (hk : r.k = 6) : Calls Tryz.prog 91 #[.agg (rcs r)] W (GivesB W (bytesX (r.x L T M))) := by
 obtain ⟨W1, hW1, hb1⟩ : ∃ W1, W.alloc (.cells (rcs r) 40) = W1 ∧ Below W.heap.size W W1 := ⟨_, rfl, (Below.refl _ _).alloc (Nat.le_refl _) _⟩
 obtain ⟨B, hB⟩ : ∃ B, W.heap.size = B := ⟨_, rfl⟩
 have hrb := RB.new W r
 rw [hW1, hB] at hrb
 have HX1 := Lib.hid hrb
 have HW1 := Lib.hid hW1
 have HB1 := Lib.hid hb1
 have HRE := Lib.hid hB
 have c0 : W1.cell? ⟨B, 0, none⟩ = some (.int .u8 r.k) := block_cell hrb rfl
 rw [hk] at c0
 clear hW1 hb1 hB hrb
 have HOK := Lib.hid hok
 have u1 := wrap_u64 hok.sg
 have u2 := wrap_u64 hok.tx
 have u3 : IntKind.u64.wrap r.st = r.st := wrap_u64 ⟨hok.st.1, Int.le_trans hok.st.2 (by decide)⟩
 have u4 : IntKind.u64.wrap r.o = r.o := wrap_u64 ⟨hok.o.1, Int.le_trans hok.o.2 (by decide)⟩
 change IntKind.u64.wrap r.sg = r.sg at u1
 change IntKind.u64.wrap r.tx = r.tx at u2
 have hpa := parts_any 6 W1
 unfold GivesPt at hpa
 rw [show ptc 6 = #[.bool false, .bool true, .bool false, .bool true, .bool false, .bool false] from rfl] at hpa
 clear hok
 go_enter Tryz.func91, Tryz.ntmps91
 go_upto_region 1 with (fail)
 rw [HW1.out, HRE.out]
 go_wp2_with fail
 refine hpa.mono ?_
 rintro e w2 ⟨rfl, h2⟩
 have HB2 := Lib.hid (HB1.out.trans (h2.mono HB1.out.size))
 have HX2 := Lib.hid (HX1.out.later h2)
 clear h2 hpa c0
 obtain ⟨N2, hN2⟩ : ∃ n, w2.heap.size = n := ⟨_, rfl⟩
 obtain ⟨w3, hwn, hxn, hbn⟩ : ∃ w3, (w2.alloc (.cells pz 89)).setRow N2 #[.bool false, .bool true, .bool false, .bool true, .bool false, .bool false] = w3 ∧ w3.heap[N2]? = some (.cells #[.bool false, .bool true, .bool false, .bool true, .bool false, .bool false] 89 (0, 0)) ∧ Below w2.heap.size w2 w3 := ⟨_, rfl, by rw [← hN2]; exact setRow_heap _ _ _ _ _ _ (alloc_block w2 _), below_setRow ((Below.refl _ _).alloc (Nat.le_refl _) _) (by omega) _⟩
 have hx2 := alloc_block w2 (.cells pz 89)
 rw [hN2] at hx2
 have HPX := Lib.hid hxn
 have HPZ := Lib.hid hx2
 have HBN := Lib.hid hbn
 have HWN := Lib.hid hwn
 have HNN := Lib.hid hN2
 have HS6 : Hid ((#[.bool false, .bool true, .bool false, .bool true, .bool false, .bool false] : Array Value).size = 6) := Lib.hid rfl
 have HA6 : Hid ((#[.bool false, .bool true, .bool false, .bool true, .bool false, .bool false] : Array Value).all (·.oneCell') = true) := Lib.hid (by simp [Value.oneCell'])
 clear hx2 hxn hbn hwn hN2
 have HB3 := Lib.hid (HB2.out.trans (HBN.out.mono HB2.out.size))
 have HX3 := Lib.hid (HX2.out.later HBN.out)
 go_wp2_with ((try rw [HNN.out]); (with_reducible refine wpList_store_pt #[.bool false, .bool true, .bool false, .bool true, .bool false, .bool false] HS6.out HA6.out HPZ.out ?_ ?_ ?_); rfl; rfl; rw [HWN.out])
 refine (new_ok w3 w3 512 (Below.refl _ _)).mono ?_
 rintro e w4 ⟨Bw, rfl, hkk⟩
 rw [show lim 512 = 512 from rfl] at hkk
 have HK4 := Lib.hid hkk
 clear hkk
 have gp := block_later HPX.out HK4.out.below
 have HGX := Lib.hid (HX3.out.later HK4.out.below)
 have p0 : w4.cell? ⟨N2, 0, none⟩ = some (.bool false) := block_cell gp rfl
 have p1 : w4.cell? ⟨N2, 1, none⟩ = some (.bool true) := block_cell gp rfl
 have p2 : w4.cell? ⟨N2, 2, none⟩ = some (.bool false) := block_cell gp rfl
 have p3 : w4.cell? ⟨N2, 3, none⟩ = some (.bool true) := block_cell gp rfl
 have p4 : w4.cell? ⟨N2, 4, none⟩ = some (.bool false) := block_cell gp rfl
 have p5 : w4.cell? ⟨N2, 5, none⟩ = some (.bool false) := block_cell gp rfl
 obtain ⟨c0, c1, c2, c3, c4, c5, c6, c7, c8, c9⟩ := HGX.out.at
 rw [hk] at c0
 clear gp
 go_wp2_with fail
 refine (wo_num1 HK4.out 6 (by omega) (by simp)).mono ?_
 rintro e w5 ⟨rfl, hkk⟩
 have HK5 := Lib.hid hkk
 clear hkk HK4
 clear p0 p1 p2 p3 p4 p5 c0 c1 c2 c3 c4 c5 c6 c7 c8 c9 HGX
 have gp := block_later HPX.out HK5.out.below
 have HGX := Lib.hid (HX3.out.later HK5.out.below)
 have p0 : w5.cell? ⟨N2, 0, none⟩ = some (.bool false) := block_cell gp rfl
 have p1 : w5.cell? ⟨N2, 1, none⟩ = some (.bool true) := block_cell gp rfl
 have p2 : w5.cell? ⟨N2, 2, none⟩ = some (.bool false) := block_cell gp rfl
 have p3 : w5.cell? ⟨N2, 3, none⟩ = some (.bool true) := block_cell gp rfl
 have p4 : w5.cell? ⟨N2, 4, none⟩ = some (.bool false) := block_cell gp rfl
 have p5 : w5.cell? ⟨N2, 5, none⟩ = some (.bool false) := block_cell gp rfl
 obtain ⟨c0, c1, c2, c3, c4, c5, c6, c7, c8, c9⟩ := HGX.out.at
 rw [hk] at c0
 clear gp
 go_wp2_with fail
 refine (wo_num4 HK5.out r.tx HOK.out.tx (by simp only [List.length_append, List.length_nil, le_len]; omega)).mono ?_
 rintro e w6 ⟨rfl, hkk⟩
 have HK6 := Lib.hid hkk
 clear hkk HK5
 clear p0 p1 p2 p3 p4 p5 c0 c1 c2 c3 c4 c5 c6 c7 c8 c9 HGX
 have gp := block_later HPX.out HK6.out.below
 have HGX := Lib.hid (HX3.out.later HK6.out.below)
 have p0 : w6.cell? ⟨N2, 0, none⟩ = some (.bool false) := block_cell gp rfl
 have p1 : w6.cell? ⟨N2, 1, none⟩ = some (.bool true) := block_cell gp rfl
 have p2 : w6.cell? ⟨N2, 2, none⟩ = some (.bool false) := block_cell gp rfl
 have p3 : w6.cell? ⟨N2, 3, none⟩ = some (.bool true) := block_cell gp rfl
 have p4 : w6.cell? ⟨N2, 4, none⟩ = some (.bool false) := block_cell gp rfl
 have p5 : w6.cell? ⟨N2, 5, none⟩ = some (.bool false) := block_cell gp rfl
 obtain ⟨c0, c1, c2, c3, c4, c5, c6, c7, c8, c9⟩ := HGX.out.at
 rw [hk] at c0
 clear gp
 go_wp2_with fail
 have HKb := Lib.hid (HK6.out.later (Chg.of_below (S := fun _ => False) ((Below.refl w6.heap.size w6).alloc (Nat.le_refl _) (.cells #[.int .u8 r.ka, .int .u8 r.kb, .int .u8 r.kc] 5))))
 refine (wo_raw HKb.out (some ⟨w6.heap.size, 0, none⟩) 3 3 (keyB (r.ka, r.kb, r.kc)) (sl_three r.ka r.kb r.kc HOK.out.key.1 HOK.out.key.2.1 HOK.out.key.2.2 w6) (by simp only [List.length_append, List.length_nil, le_len]; omega)).mono ?_
 rintro e w7 ⟨rfl, hkk⟩
 have HK7 := Lib.hid hkk
 clear hkk HK6 HKb
 clear p0 p1 p2 p3 p4 p5 c0 c1 c2 c3 c4 c5 c6 c7 c8 c9 HGX
 have gp := block_later HPX.out HK7.out.below
 have HGX := Lib.hid (HX3.out.later HK7.out.below)
 have p0 : w7.cell? ⟨N2, 0, none⟩ = some (.bool false) := block_cell gp rfl
 have p1 : w7.cell? ⟨N2, 1, none⟩ = some (.bool true) := block_cell gp rfl
 have p2 : w7.cell? ⟨N2, 2, none⟩ = some (.bool false) := block_cell gp rfl
 have p3 : w7.cell? ⟨N2, 3, none⟩ = some (.bool true) := block_cell gp rfl
 have p4 : w7.cell? ⟨N2, 4, none⟩ = some (.bool false) := block_cell gp rfl
 have p5 : w7.cell? ⟨N2, 5, none⟩ = some (.bool false) := block_cell gp rfl
 obtain ⟨c0, c1, c2, c3, c4, c5, c6, c7, c8, c9⟩ := HGX.out.at
 rw [hk] at c0
 clear gp
 go_wp2_with fail
 refine (wo_int HK7.out r.d HOK.out.d (by simp only [List.length_append, List.length_nil, le_len, keyB, List.length_cons]; omega)).mono ?_
 rintro e w8 ⟨rfl, hkk⟩
 have HK8 := Lib.hid hkk
 clear hkk HK7
 clear p0 p1 p2 p3 p4 p5 c0 c1 c2 c3 c4 c5 c6 c7 c8 c9 HGX
 have gp := block_later HPX.out HK8.out.below
 have HGX := Lib.hid (HX3.out.later HK8.out.below)
 have p0 : w8.cell? ⟨N2, 0, none⟩ = some (.bool false) := block_cell gp rfl
 have p1 : w8.cell? ⟨N2, 1, none⟩ = some (.bool true) := block_cell gp rfl
 have p2 : w8.cell? ⟨N2, 2, none⟩ = some (.bool false) := block_cell gp rfl
 have p3 : w8.cell? ⟨N2, 3, none⟩ = some (.bool true) := block_cell gp rfl
 have p4 : w8.cell? ⟨N2, 4, none⟩ = some (.bool false) := block_cell gp rfl
 have p5 : w8.cell? ⟨N2, 5, none⟩ = some (.bool false) := block_cell gp rfl
 obtain ⟨c0, c1, c2, c3, c4, c5, c6, c7, c8, c9⟩ := HGX.out.at
 rw [hk] at c0
 clear gp
 go_wp2_with fail
 have hbx : ((((([] : List Nat) ++ le ((6 : Int)).toNat 1) ++ le r.tx.toNat 4) ++ keyB (r.ka, r.kb, r.kc)) ++ le (u64 r.d) 8) = bytesX (r.x L T M) := by
  unfold bytesX
  rw [show ((r.x L T M)).k = 6 from hk]
  simp [kS, kT, kB, kA, kO, kP, Rv.x, List.append_assoc]
 have hlx : (bytesX (r.x L T M)).length ≤ 100000 := by rw [← hbx]; simp only [List.length_append, List.length_nil, List.length_cons, le_len, keyB]; omega
 have HKz : Hid (WrOk w3 w8 Bw 512 (0, bytesX (r.x L T M))) := Lib.hid (by rw [← hbx]; exact HK8.out)
 clear hbx HK8
 generalize bytesX (r.x L T M) = Z at *
 refine (done_good w3 w8 Bw 512 Z HKz.out hlx).mono ?_
 rintro e w9 ⟨pz', cz, rfl, hbz, hsz, _⟩
 have HF : Hid (GivesB W Z (.returned (.tuple #[.slice pz' Z.length cz, .int .i64 0])) w9) := Lib.hid ⟨pz', cz, rfl, hsz, HB3.out.trans (hbz.mono HB3.out.size)⟩
 clear hbz hsz hlx
 generalize Z.length = nz at *
 clear p0 p1 p2 p3 p4 p5 c0 c1 c2 c3 c4 c5 c6 c7 c8 c9 HGX
 go_wp2_with fail
 go_ret2
 exact HF.out
set_option maxHeartbeats 8000000 in
theorem rec_write7 (r : Rv) (L : List Ln) (T : List Tk) (M : List Ln) (W : World) (hok : Rxok (r.x L T M)) (hk : r.k = 7) : Calls Tryz.prog 91 #[.agg (rcs r)] W (GivesB W (bytesX (r.x L T M))) := by
 obtain ⟨W1, hW1, hb1⟩ : ∃ W1, W.alloc (.cells (rcs r) 40) = W1 ∧ Below W.heap.size W W1 := ⟨_, rfl, (Below.refl _ _).alloc (Nat.le_refl _) _⟩
 obtain ⟨B, hB⟩ : ∃ B, W.heap.size = B := ⟨_, rfl⟩
 have hrb := RB.new W r
 rw [hW1, hB] at hrb
 have HX1 := Lib.hid hrb
 have HW1 := Lib.hid hW1
 have HB1 := Lib.hid hb1
 have HRE := Lib.hid hB
 have c0 : W1.cell? ⟨B, 0, none⟩ = some (.int .u8 r.k) := block_cell hrb rfl
 rw [hk] at c0
 clear hW1 hb1 hB hrb
 have HOK := Lib.hid hok
 have u1 := wrap_u64 hok.sg
 have u2 := wrap_u64 hok.tx
 have u3 : IntKind.u64.wrap r.st = r.st := wrap_u64 ⟨hok.st.1, Int.le_trans hok.st.2 (by decide)⟩
 have u4 : IntKind.u64.wrap r.o = r.o := wrap_u64 ⟨hok.o.1, Int.le_trans hok.o.2 (by decide)⟩
 change IntKind.u64.wrap r.sg = r.sg at u1
 change IntKind.u64.wrap r.tx = r.tx at u2
 have hpa := parts_any 7 W1
 unfold GivesPt at hpa
 rw [show ptc 7 = #[.bool false, .bool true, .bool false, .bool false, .bool false, .bool false] from rfl] at hpa
 clear hok
 go_enter Tryz.func91, Tryz.ntmps91
 go_upto_region 1 with (fail)
 rw [HW1.out, HRE.out]
 go_wp2_with fail
 refine hpa.mono ?_
 rintro e w2 ⟨rfl, h2⟩
 have HB2 := Lib.hid (HB1.out.trans (h2.mono HB1.out.size))
 have HX2 := Lib.hid (HX1.out.later h2)
 clear h2 hpa c0
 obtain ⟨N2, hN2⟩ : ∃ n, w2.heap.size = n := ⟨_, rfl⟩
 obtain ⟨w3, hwn, hxn, hbn⟩ : ∃ w3, (w2.alloc (.cells pz 89)).setRow N2 #[.bool false, .bool true, .bool false, .bool false, .bool false, .bool false] = w3 ∧ w3.heap[N2]? = some (.cells #[.bool false, .bool true, .bool false, .bool false, .bool false, .bool false] 89 (0, 0)) ∧ Below w2.heap.size w2 w3 := ⟨_, rfl, by rw [← hN2]; exact setRow_heap _ _ _ _ _ _ (alloc_block w2 _), below_setRow ((Below.refl _ _).alloc (Nat.le_refl _) _) (by omega) _⟩
 have hx2 := alloc_block w2 (.cells pz 89)
 rw [hN2] at hx2
 have HPX := Lib.hid hxn
 have HPZ := Lib.hid hx2
 have HBN := Lib.hid hbn
 have HWN := Lib.hid hwn
 have HNN := Lib.hid hN2
 have HS6 : Hid ((#[.bool false, .bool true, .bool false, .bool false, .bool false, .bool false] : Array Value).size = 6) := Lib.hid rfl
 have HA6 : Hid ((#[.bool false, .bool true, .bool false, .bool false, .bool false, .bool false] : Array Value).all (·.oneCell') = true) := Lib.hid (by simp [Value.oneCell'])
 clear hx2 hxn hbn hwn hN2
 have HB3 := Lib.hid (HB2.out.trans (HBN.out.mono HB2.out.size))
 have HX3 := Lib.hid (HX2.out.later HBN.out)
 go_wp2_with ((try rw [HNN.out]); (with_reducible refine wpList_store_pt #[.bool false, .bool true, .bool false, .bool false, .bool false, .bool false] HS6.out HA6.out HPZ.out ?_ ?_ ?_); rfl; rfl; rw [HWN.out])
 refine (new_ok w3 w3 512 (Below.refl _ _)).mono ?_
 rintro e w4 ⟨Bw, rfl, hkk⟩
 rw [show lim 512 = 512 from rfl] at hkk
 have HK4 := Lib.hid hkk
 clear hkk
 have gp := block_later HPX.out HK4.out.below
 have HGX := Lib.hid (HX3.out.later HK4.out.below)
 have p0 : w4.cell? ⟨N2, 0, none⟩ = some (.bool false) := block_cell gp rfl
 have p1 : w4.cell? ⟨N2, 1, none⟩ = some (.bool true) := block_cell gp rfl
 have p2 : w4.cell? ⟨N2, 2, none⟩ = some (.bool false) := block_cell gp rfl
 have p3 : w4.cell? ⟨N2, 3, none⟩ = some (.bool false) := block_cell gp rfl
 have p4 : w4.cell? ⟨N2, 4, none⟩ = some (.bool false) := block_cell gp rfl
 have p5 : w4.cell? ⟨N2, 5, none⟩ = some (.bool false) := block_cell gp rfl
 obtain ⟨c0, c1, c2, c3, c4, c5, c6, c7, c8, c9⟩ := HGX.out.at
 rw [hk] at c0
 clear gp
 go_wp2_with fail
 refine (wo_num1 HK4.out 7 (by omega) (by simp)).mono ?_
 rintro e w5 ⟨rfl, hkk⟩
 have HK5 := Lib.hid hkk
 clear hkk HK4
 clear p0 p1 p2 p3 p4 p5 c0 c1 c2 c3 c4 c5 c6 c7 c8 c9 HGX
 have gp := block_later HPX.out HK5.out.below
 have HGX := Lib.hid (HX3.out.later HK5.out.below)
 have p0 : w5.cell? ⟨N2, 0, none⟩ = some (.bool false) := block_cell gp rfl
 have p1 : w5.cell? ⟨N2, 1, none⟩ = some (.bool true) := block_cell gp rfl
 have p2 : w5.cell? ⟨N2, 2, none⟩ = some (.bool false) := block_cell gp rfl
 have p3 : w5.cell? ⟨N2, 3, none⟩ = some (.bool false) := block_cell gp rfl
 have p4 : w5.cell? ⟨N2, 4, none⟩ = some (.bool false) := block_cell gp rfl
 have p5 : w5.cell? ⟨N2, 5, none⟩ = some (.bool false) := block_cell gp rfl
 obtain ⟨c0, c1, c2, c3, c4, c5, c6, c7, c8, c9⟩ := HGX.out.at
 rw [hk] at c0
 clear gp
 go_wp2_with fail
 refine (wo_num4 HK5.out r.tx HOK.out.tx (by simp only [List.length_append, List.length_nil, le_len]; omega)).mono ?_
 rintro e w6 ⟨rfl, hkk⟩
 have HK6 := Lib.hid hkk
 clear hkk HK5
 clear p0 p1 p2 p3 p4 p5 c0 c1 c2 c3 c4 c5 c6 c7 c8 c9 HGX
 have gp := block_later HPX.out HK6.out.below
 have HGX := Lib.hid (HX3.out.later HK6.out.below)
 have p0 : w6.cell? ⟨N2, 0, none⟩ = some (.bool false) := block_cell gp rfl
 have p1 : w6.cell? ⟨N2, 1, none⟩ = some (.bool true) := block_cell gp rfl
 have p2 : w6.cell? ⟨N2, 2, none⟩ = some (.bool false) := block_cell gp rfl
 have p3 : w6.cell? ⟨N2, 3, none⟩ = some (.bool false) := block_cell gp rfl
 have p4 : w6.cell? ⟨N2, 4, none⟩ = some (.bool false) := block_cell gp rfl
 have p5 : w6.cell? ⟨N2, 5, none⟩ = some (.bool false) := block_cell gp rfl
 obtain ⟨c0, c1, c2, c3, c4, c5, c6, c7, c8, c9⟩ := HGX.out.at
 rw [hk] at c0
 clear gp
 go_wp2_with fail
 have hbx : ((([] : List Nat) ++ le ((7 : Int)).toNat 1) ++ le r.tx.toNat 4) = bytesX (r.x L T M) := by
  unfold bytesX
  rw [show ((r.x L T M)).k = 7 from hk]
  simp [kS, kT, kB, kA, kO, kP, Rv.x, List.append_assoc]
 have hlx : (bytesX (r.x L T M)).length ≤ 100000 := by rw [← hbx]; simp only [List.length_append, List.length_nil, List.length_cons, le_len, keyB]; omega
 have HKz : Hid (WrOk w3 w6 Bw 512 (0, bytesX (r.x L T M))) := Lib.hid (by rw [← hbx]; exact HK6.out)
 clear hbx HK6
 generalize bytesX (r.x L T M) = Z at *
 refine (done_good w3 w6 Bw 512 Z HKz.out hlx).mono ?_
 rintro e w7 ⟨pz', cz, rfl, hbz, hsz, _⟩
 have HF : Hid (GivesB W Z (.returned (.tuple #[.slice pz' Z.length cz, .int .i64 0])) w7) := Lib.hid ⟨pz', cz, rfl, hsz, HB3.out.trans (hbz.mono HB3.out.size)⟩
 clear hbz hsz hlx
 generalize Z.length = nz at *
 clear p0 p1 p2 p3 p4 p5 c0 c1 c2 c3 c4 c5 c6 c7 c8 c9 HGX
 go_wp2_with fail
 go_ret2
 exact HF.out
set_option maxHeartbeats 8000000 in
theorem rec_write8 (r : Rv) (L : List Ln) (T : List Tk) (M : List Ln) (W : World) (hok : Rxok (r.x L T M)) (hk : r.k = 8) : Calls Tryz.prog 91 #[.agg (rcs r)] W (GivesB W (bytesX (r.x L T M))) := by
 obtain ⟨W1, hW1, hb1⟩ : ∃ W1, W.alloc (.cells (rcs r) 40) = W1 ∧ Below W.heap.size W W1 := ⟨_, rfl, (Below.refl _ _).alloc (Nat.le_refl _) _⟩
 obtain ⟨B, hB⟩ : ∃ B, W.heap.size = B := ⟨_, rfl⟩
 have hrb := RB.new W r
 rw [hW1, hB] at hrb
 have HX1 := Lib.hid hrb
 have HW1 := Lib.hid hW1
 have HB1 := Lib.hid hb1
 have HRE := Lib.hid hB
 have c0 : W1.cell? ⟨B, 0, none⟩ = some (.int .u8 r.k) := block_cell hrb rfl
 rw [hk] at c0
 clear hW1 hb1 hB hrb
 have HOK := Lib.hid hok
 have u1 := wrap_u64 hok.sg
 have u2 := wrap_u64 hok.tx
 have u3 : IntKind.u64.wrap r.st = r.st := wrap_u64 ⟨hok.st.1, Int.le_trans hok.st.2 (by decide)⟩
 have u4 : IntKind.u64.wrap r.o = r.o := wrap_u64 ⟨hok.o.1, Int.le_trans hok.o.2 (by decide)⟩
 change IntKind.u64.wrap r.sg = r.sg at u1
 change IntKind.u64.wrap r.tx = r.tx at u2
 have hpa := parts_any 8 W1
 unfold GivesPt at hpa
 rw [show ptc 8 = #[.bool true, .bool false, .bool false, .bool false, .bool false, .bool false] from rfl] at hpa
 clear hok
 go_enter Tryz.func91, Tryz.ntmps91
 go_upto_region 1 with (fail)
 rw [HW1.out, HRE.out]
 go_wp2_with fail
 refine hpa.mono ?_
 rintro e w2 ⟨rfl, h2⟩
 have HB2 := Lib.hid (HB1.out.trans (h2.mono HB1.out.size))
 have HX2 := Lib.hid (HX1.out.later h2)
 clear h2 hpa c0
 obtain ⟨N2, hN2⟩ : ∃ n, w2.heap.size = n := ⟨_, rfl⟩
 obtain ⟨w3, hwn, hxn, hbn⟩ : ∃ w3, (w2.alloc (.cells pz 89)).setRow N2 #[.bool true, .bool false, .bool false, .bool false, .bool false, .bool false] = w3 ∧ w3.heap[N2]? = some (.cells #[.bool true, .bool false, .bool false, .bool false, .bool false, .bool false] 89 (0, 0)) ∧ Below w2.heap.size w2 w3 := ⟨_, rfl, by rw [← hN2]; exact setRow_heap _ _ _ _ _ _ (alloc_block w2 _), below_setRow ((Below.refl _ _).alloc (Nat.le_refl _) _) (by omega) _⟩
 have hx2 := alloc_block w2 (.cells pz 89)
 rw [hN2] at hx2
 have HPX := Lib.hid hxn
 have HPZ := Lib.hid hx2
 have HBN := Lib.hid hbn
 have HWN := Lib.hid hwn
 have HNN := Lib.hid hN2
 have HS6 : Hid ((#[.bool true, .bool false, .bool false, .bool false, .bool false, .bool false] : Array Value).size = 6) := Lib.hid rfl
 have HA6 : Hid ((#[.bool true, .bool false, .bool false, .bool false, .bool false, .bool false] : Array Value).all (·.oneCell') = true) := Lib.hid (by simp [Value.oneCell'])
 clear hx2 hxn hbn hwn hN2
 have HB3 := Lib.hid (HB2.out.trans (HBN.out.mono HB2.out.size))
 have HX3 := Lib.hid (HX2.out.later HBN.out)
 go_wp2_with ((try rw [HNN.out]); (with_reducible refine wpList_store_pt #[.bool true, .bool false, .bool false, .bool false, .bool false, .bool false] HS6.out HA6.out HPZ.out ?_ ?_ ?_); rfl; rfl; rw [HWN.out])
 refine (new_ok w3 w3 512 (Below.refl _ _)).mono ?_
 rintro e w4 ⟨Bw, rfl, hkk⟩
 rw [show lim 512 = 512 from rfl] at hkk
 have HK4 := Lib.hid hkk
 clear hkk
 have gp := block_later HPX.out HK4.out.below
 have HGX := Lib.hid (HX3.out.later HK4.out.below)
 have p0 : w4.cell? ⟨N2, 0, none⟩ = some (.bool true) := block_cell gp rfl
 have p1 : w4.cell? ⟨N2, 1, none⟩ = some (.bool false) := block_cell gp rfl
 have p2 : w4.cell? ⟨N2, 2, none⟩ = some (.bool false) := block_cell gp rfl
 have p3 : w4.cell? ⟨N2, 3, none⟩ = some (.bool false) := block_cell gp rfl
 have p4 : w4.cell? ⟨N2, 4, none⟩ = some (.bool false) := block_cell gp rfl
 have p5 : w4.cell? ⟨N2, 5, none⟩ = some (.bool false) := block_cell gp rfl
 obtain ⟨c0, c1, c2, c3, c4, c5, c6, c7, c8, c9⟩ := HGX.out.at
 rw [hk] at c0
 clear gp
 go_wp2_with fail
 refine (wo_num1 HK4.out 8 (by omega) (by simp)).mono ?_
 rintro e w5 ⟨rfl, hkk⟩
 have HK5 := Lib.hid hkk
 clear hkk HK4
 clear p0 p1 p2 p3 p4 p5 c0 c1 c2 c3 c4 c5 c6 c7 c8 c9 HGX
 have gp := block_later HPX.out HK5.out.below
 have HGX := Lib.hid (HX3.out.later HK5.out.below)
 have p0 : w5.cell? ⟨N2, 0, none⟩ = some (.bool true) := block_cell gp rfl
 have p1 : w5.cell? ⟨N2, 1, none⟩ = some (.bool false) := block_cell gp rfl
 have p2 : w5.cell? ⟨N2, 2, none⟩ = some (.bool false) := block_cell gp rfl
 have p3 : w5.cell? ⟨N2, 3, none⟩ = some (.bool false) := block_cell gp rfl
 have p4 : w5.cell? ⟨N2, 4, none⟩ = some (.bool false) := block_cell gp rfl
 have p5 : w5.cell? ⟨N2, 5, none⟩ = some (.bool false) := block_cell gp rfl
 obtain ⟨c0, c1, c2, c3, c4, c5, c6, c7, c8, c9⟩ := HGX.out.at
 rw [hk] at c0
 clear gp
 go_wp2_with fail
 refine (wo_num4 HK5.out r.sg HOK.out.sg (by simp only [List.length_append, List.length_nil, le_len]; omega)).mono ?_
 rintro e w6 ⟨rfl, hkk⟩
 have HK6 := Lib.hid hkk
 clear hkk HK5
 clear p0 p1 p2 p3 p4 p5 c0 c1 c2 c3 c4 c5 c6 c7 c8 c9 HGX
 have gp := block_later HPX.out HK6.out.below
 have HGX := Lib.hid (HX3.out.later HK6.out.below)
 have p0 : w6.cell? ⟨N2, 0, none⟩ = some (.bool true) := block_cell gp rfl
 have p1 : w6.cell? ⟨N2, 1, none⟩ = some (.bool false) := block_cell gp rfl
 have p2 : w6.cell? ⟨N2, 2, none⟩ = some (.bool false) := block_cell gp rfl
 have p3 : w6.cell? ⟨N2, 3, none⟩ = some (.bool false) := block_cell gp rfl
 have p4 : w6.cell? ⟨N2, 4, none⟩ = some (.bool false) := block_cell gp rfl
 have p5 : w6.cell? ⟨N2, 5, none⟩ = some (.bool false) := block_cell gp rfl
 obtain ⟨c0, c1, c2, c3, c4, c5, c6, c7, c8, c9⟩ := HGX.out.at
 rw [hk] at c0
 clear gp
 go_wp2_with fail
 have hbx : ((([] : List Nat) ++ le ((8 : Int)).toNat 1) ++ le r.sg.toNat 4) = bytesX (r.x L T M) := by
  unfold bytesX
  rw [show ((r.x L T M)).k = 8 from hk]
  simp [kS, kT, kB, kA, kO, kP, Rv.x, List.append_assoc]
 have hlx : (bytesX (r.x L T M)).length ≤ 100000 := by rw [← hbx]; simp only [List.length_append, List.length_nil, List.length_cons, le_len, keyB]; omega
 have HKz : Hid (WrOk w3 w6 Bw 512 (0, bytesX (r.x L T M))) := Lib.hid (by rw [← hbx]; exact HK6.out)
 clear hbx HK6
 generalize bytesX (r.x L T M) = Z at *
 refine (done_good w3 w6 Bw 512 Z HKz.out hlx).mono ?_
 rintro e w7 ⟨pz', cz, rfl, hbz, hsz, _⟩
 have HF : Hid (GivesB W Z (.returned (.tuple #[.slice pz' Z.length cz, .int .i64 0])) w7) := Lib.hid ⟨pz', cz, rfl, hsz, HB3.out.trans (hbz.mono HB3.out.size)⟩
 clear hbz hsz hlx
 generalize Z.length = nz at *
 clear p0 p1 p2 p3 p4 p5 c0 c1 c2 c3 c4 c5 c6 c7 c8 c9 HGX
 go_wp2_with fail
 go_ret2
 exact HF.out
set_option maxHeartbeats 8000000 in
theorem rec_write9 (r : Rv) (L : List Ln) (T : List Tk) (M : List Ln) (W : World) (hok : Rxok (r.x L T M)) (hk : r.k = 9) : Calls Tryz.prog 91 #[.agg (rcs r)] W (GivesB W (bytesX (r.x L T M))) := by
 obtain ⟨W1, hW1, hb1⟩ : ∃ W1, W.alloc (.cells (rcs r) 40) = W1 ∧ Below W.heap.size W W1 := ⟨_, rfl, (Below.refl _ _).alloc (Nat.le_refl _) _⟩
 obtain ⟨B, hB⟩ : ∃ B, W.heap.size = B := ⟨_, rfl⟩
 have hrb := RB.new W r
 rw [hW1, hB] at hrb
 have HX1 := Lib.hid hrb
 have HW1 := Lib.hid hW1
 have HB1 := Lib.hid hb1
 have HRE := Lib.hid hB
 have c0 : W1.cell? ⟨B, 0, none⟩ = some (.int .u8 r.k) := block_cell hrb rfl
 rw [hk] at c0
 clear hW1 hb1 hB hrb
 have HOK := Lib.hid hok
 have u1 := wrap_u64 hok.sg
 have u2 := wrap_u64 hok.tx
 have u3 : IntKind.u64.wrap r.st = r.st := wrap_u64 ⟨hok.st.1, Int.le_trans hok.st.2 (by decide)⟩
 have u4 : IntKind.u64.wrap r.o = r.o := wrap_u64 ⟨hok.o.1, Int.le_trans hok.o.2 (by decide)⟩
 change IntKind.u64.wrap r.sg = r.sg at u1
 change IntKind.u64.wrap r.tx = r.tx at u2
 have hpa := parts_any 9 W1
 unfold GivesPt at hpa
 rw [show ptc 9 = #[.bool true, .bool false, .bool false, .bool false, .bool true, .bool false] from rfl] at hpa
 clear hok
 go_enter Tryz.func91, Tryz.ntmps91
 go_upto_region 1 with (fail)
 rw [HW1.out, HRE.out]
 go_wp2_with fail
 refine hpa.mono ?_
 rintro e w2 ⟨rfl, h2⟩
 have HB2 := Lib.hid (HB1.out.trans (h2.mono HB1.out.size))
 have HX2 := Lib.hid (HX1.out.later h2)
 clear h2 hpa c0
 obtain ⟨N2, hN2⟩ : ∃ n, w2.heap.size = n := ⟨_, rfl⟩
 obtain ⟨w3, hwn, hxn, hbn⟩ : ∃ w3, (w2.alloc (.cells pz 89)).setRow N2 #[.bool true, .bool false, .bool false, .bool false, .bool true, .bool false] = w3 ∧ w3.heap[N2]? = some (.cells #[.bool true, .bool false, .bool false, .bool false, .bool true, .bool false] 89 (0, 0)) ∧ Below w2.heap.size w2 w3 := ⟨_, rfl, by rw [← hN2]; exact setRow_heap _ _ _ _ _ _ (alloc_block w2 _), below_setRow ((Below.refl _ _).alloc (Nat.le_refl _) _) (by omega) _⟩
 have hx2 := alloc_block w2 (.cells pz 89)
 rw [hN2] at hx2
 have HPX := Lib.hid hxn
 have HPZ := Lib.hid hx2
 have HBN := Lib.hid hbn
 have HWN := Lib.hid hwn
 have HNN := Lib.hid hN2
 have HS6 : Hid ((#[.bool true, .bool false, .bool false, .bool false, .bool true, .bool false] : Array Value).size = 6) := Lib.hid rfl
 have HA6 : Hid ((#[.bool true, .bool false, .bool false, .bool false, .bool true, .bool false] : Array Value).all (·.oneCell') = true) := Lib.hid (by simp [Value.oneCell'])
 clear hx2 hxn hbn hwn hN2
 have HB3 := Lib.hid (HB2.out.trans (HBN.out.mono HB2.out.size))
 have HX3 := Lib.hid (HX2.out.later HBN.out)
 go_wp2_with ((try rw [HNN.out]); (with_reducible refine wpList_store_pt #[.bool true, .bool false, .bool false, .bool false, .bool true, .bool false] HS6.out HA6.out HPZ.out ?_ ?_ ?_); rfl; rfl; rw [HWN.out])
 refine (new_ok w3 w3 512 (Below.refl _ _)).mono ?_
 rintro e w4 ⟨Bw, rfl, hkk⟩
 rw [show lim 512 = 512 from rfl] at hkk
 have HK4 := Lib.hid hkk
 clear hkk
 have gp := block_later HPX.out HK4.out.below
 have HGX := Lib.hid (HX3.out.later HK4.out.below)
 have p0 : w4.cell? ⟨N2, 0, none⟩ = some (.bool true) := block_cell gp rfl
 have p1 : w4.cell? ⟨N2, 1, none⟩ = some (.bool false) := block_cell gp rfl
 have p2 : w4.cell? ⟨N2, 2, none⟩ = some (.bool false) := block_cell gp rfl
 have p3 : w4.cell? ⟨N2, 3, none⟩ = some (.bool false) := block_cell gp rfl
 have p4 : w4.cell? ⟨N2, 4, none⟩ = some (.bool true) := block_cell gp rfl
 have p5 : w4.cell? ⟨N2, 5, none⟩ = some (.bool false) := block_cell gp rfl
 obtain ⟨c0, c1, c2, c3, c4, c5, c6, c7, c8, c9⟩ := HGX.out.at
 rw [hk] at c0
 clear gp
 go_wp2_with fail
 refine (wo_num1 HK4.out 9 (by omega) (by simp)).mono ?_
 rintro e w5 ⟨rfl, hkk⟩
 have HK5 := Lib.hid hkk
 clear hkk HK4
 clear p0 p1 p2 p3 p4 p5 c0 c1 c2 c3 c4 c5 c6 c7 c8 c9 HGX
 have gp := block_later HPX.out HK5.out.below
 have HGX := Lib.hid (HX3.out.later HK5.out.below)
 have p0 : w5.cell? ⟨N2, 0, none⟩ = some (.bool true) := block_cell gp rfl
 have p1 : w5.cell? ⟨N2, 1, none⟩ = some (.bool false) := block_cell gp rfl
 have p2 : w5.cell? ⟨N2, 2, none⟩ = some (.bool false) := block_cell gp rfl
 have p3 : w5.cell? ⟨N2, 3, none⟩ = some (.bool false) := block_cell gp rfl
 have p4 : w5.cell? ⟨N2, 4, none⟩ = some (.bool true) := block_cell gp rfl
 have p5 : w5.cell? ⟨N2, 5, none⟩ = some (.bool false) := block_cell gp rfl
 obtain ⟨c0, c1, c2, c3, c4, c5, c6, c7, c8, c9⟩ := HGX.out.at
 rw [hk] at c0
 clear gp
 go_wp2_with fail
 refine (wo_num4 HK5.out r.sg HOK.out.sg (by simp only [List.length_append, List.length_nil, le_len]; omega)).mono ?_
 rintro e w6 ⟨rfl, hkk⟩
 have HK6 := Lib.hid hkk
 clear hkk HK5
 clear p0 p1 p2 p3 p4 p5 c0 c1 c2 c3 c4 c5 c6 c7 c8 c9 HGX
 have gp := block_later HPX.out HK6.out.below
 have HGX := Lib.hid (HX3.out.later HK6.out.below)
 have p0 : w6.cell? ⟨N2, 0, none⟩ = some (.bool true) := block_cell gp rfl
 have p1 : w6.cell? ⟨N2, 1, none⟩ = some (.bool false) := block_cell gp rfl
 have p2 : w6.cell? ⟨N2, 2, none⟩ = some (.bool false) := block_cell gp rfl
 have p3 : w6.cell? ⟨N2, 3, none⟩ = some (.bool false) := block_cell gp rfl
 have p4 : w6.cell? ⟨N2, 4, none⟩ = some (.bool true) := block_cell gp rfl
 have p5 : w6.cell? ⟨N2, 5, none⟩ = some (.bool false) := block_cell gp rfl
 obtain ⟨c0, c1, c2, c3, c4, c5, c6, c7, c8, c9⟩ := HGX.out.at
 rw [hk] at c0
 clear gp
 go_wp2_with fail
 refine (wo_num1 HK6.out r.o HOK.out.o (by simp only [List.length_append, List.length_nil, le_len]; omega)).mono ?_
 rintro e w7 ⟨rfl, hkk⟩
 have HK7 := Lib.hid hkk
 clear hkk HK6
 clear p0 p1 p2 p3 p4 p5 c0 c1 c2 c3 c4 c5 c6 c7 c8 c9 HGX
 have gp := block_later HPX.out HK7.out.below
 have HGX := Lib.hid (HX3.out.later HK7.out.below)
 have p0 : w7.cell? ⟨N2, 0, none⟩ = some (.bool true) := block_cell gp rfl
 have p1 : w7.cell? ⟨N2, 1, none⟩ = some (.bool false) := block_cell gp rfl
 have p2 : w7.cell? ⟨N2, 2, none⟩ = some (.bool false) := block_cell gp rfl
 have p3 : w7.cell? ⟨N2, 3, none⟩ = some (.bool false) := block_cell gp rfl
 have p4 : w7.cell? ⟨N2, 4, none⟩ = some (.bool true) := block_cell gp rfl
 have p5 : w7.cell? ⟨N2, 5, none⟩ = some (.bool false) := block_cell gp rfl
 obtain ⟨c0, c1, c2, c3, c4, c5, c6, c7, c8, c9⟩ := HGX.out.at
 rw [hk] at c0
 clear gp
 go_wp2_with fail
 have hbx : (((([] : List Nat) ++ le ((9 : Int)).toNat 1) ++ le r.sg.toNat 4) ++ le r.o.toNat 1) = bytesX (r.x L T M) := by
  unfold bytesX
  rw [show ((r.x L T M)).k = 9 from hk]
  simp [kS, kT, kB, kA, kO, kP, Rv.x, List.append_assoc]
 have hlx : (bytesX (r.x L T M)).length ≤ 100000 := by rw [← hbx]; simp only [List.length_append, List.length_nil, List.length_cons, le_len, keyB]; omega
 have HKz : Hid (WrOk w3 w7 Bw 512 (0, bytesX (r.x L T M))) := Lib.hid (by rw [← hbx]; exact HK7.out)
 clear hbx HK7
 generalize bytesX (r.x L T M) = Z at *
 refine (done_good w3 w7 Bw 512 Z HKz.out hlx).mono ?_
 rintro e w8 ⟨pz', cz, rfl, hbz, hsz, _⟩
 have HF : Hid (GivesB W Z (.returned (.tuple #[.slice pz' Z.length cz, .int .i64 0])) w8) := Lib.hid ⟨pz', cz, rfl, hsz, HB3.out.trans (hbz.mono HB3.out.size)⟩
 clear hbz hsz hlx
 generalize Z.length = nz at *
 clear p0 p1 p2 p3 p4 p5 c0 c1 c2 c3 c4 c5 c6 c7 c8 c9 HGX
 go_wp2_with fail
 go_ret2
 exact HF.out
end Go.Proofs.YtccgjdmbongbaaaGreatDoor
