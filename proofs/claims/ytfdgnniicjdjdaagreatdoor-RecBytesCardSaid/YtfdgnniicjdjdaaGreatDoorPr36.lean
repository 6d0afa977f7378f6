import Derived.Test.YtfdgnniicjdjdaaGreatDoorPr35
namespace Go.Proofs.YtfdgnniicjdjdaaGreatDoor
open Go.RowKit Go.ChangeShapes Go.WideShapes
set_option linter.unusedVariables false
set_option linter.unusedSimpArgs false
set_option maxRecDepth 10000
structure Qr (W w : World) (R : Nat) (p0 : Option Addr) (S : St) (r : Rv) : Prop where
 z : Rr w (R + 1) p0 S
 x : RB w (R + 2) r
 res : RB w R rz
 below : Below W.heap.size W w
 base : W.heap.size ≤ R
theorem Qr.low {W w w' : World} {R : Nat} {p0 : Option Addr} {S S' : St} {r : Rv} (h : Qr W w R p0 S r) (hz : Rr w' (R + 1) p0 S') (hc : Chg (fun k => k = R + 1) w w') : Qr W w' R p0 S' r := by
 have hb := h.base
 exact ⟨hz, h.x.chg hc (by omega), h.res.chg hc (by omega), Chg.below h.below h.below.size hc fun k hk => by omega, h.base⟩
theorem Qr.later {W w w' : World} {R : Nat} {p0 : Option Addr} {S : St} {r : Rv} (h : Qr W w R p0 S r) (hb : Below w.heap.size w w') : Qr W w' R p0 S r :=
 ⟨h.z.later hb, h.x.later hb, h.res.later hb, h.below.trans (hb.mono h.below.size), h.base⟩
theorem Qr.put {W w : World} {R : Nat} {p0 : Option Addr} {S : St} {r : Rv} (h : Qr W w R p0 S r) (j : Nat) (v : Value) (r' : Rv) (he : (rcs r).setIfInBounds j v = rcs r') : Qr W (w.setCell ⟨R + 2, j, none⟩ v) R p0 S r' := by
 have hb := h.base
 have hc : Chg (fun k => k = R + 2) w (w.setCell ⟨R + 2, j, none⟩ v) := (Chg.refl _ _).setCell ⟨R + 2, j, none⟩ _ fun _ => rfl
 exact ⟨h.z.chg hc fun k hk => by omega, h.x.put j v r' he, h.res.chg hc (by omega), Chg.below h.below h.below.size hc fun k hk => by omega, h.base⟩
theorem Qr.set {W w : World} {R : Nat} {p0 : Option Addr} {S : St} {r : Rv} (h : Qr W w R p0 S r) (r' : Rv) : Qr W (w.setRow (R + 2) (rcs r')) R p0 S r' := by
 have hb := h.base
 have hc : Chg (fun k => k = R + 2) w (w.setRow (R + 2) (rcs r')) := ⟨rfl, rfl, rfl, by simp [World.setRow], fun k _ hn => setRow_other _ _ _ _ hn⟩
 exact ⟨h.z.chg hc fun k hk => by omega, h.x.set r', h.res.chg hc (by omega), Chg.below h.below h.below.size hc fun k hk => by omega, h.base⟩
theorem Qr.cx {W w : World} {R : Nat} {p0 : Option Addr} {S : St} {r : Rv} (h : Qr W w R p0 S r) {j : Nat} {v : Value} (hj : (rcs r)[j]? = some v) : w.cell? ⟨R + 2, j, none⟩ = some v ∧ w.frozen? ⟨R + 2, j, none⟩ = false := ⟨block_cell h.x hj, block_free j h.x⟩
theorem of_lists3 {r : Rv} {L : List Ln} {T : List Tk} {M : List Ln} {w : World} (hm : RvM w r L T M) (hs : (r.x L T M).pg.lines.length ≤ 3 ∧ (r.x L T M).pg.takes.length ≤ 12 ∧ (r.x L T M).pg.owes.length ≤ 3) : r.ln ≤ 1000 ∧ r.tn ≤ 1000 ∧ r.wn ≤ 1000 := by
 have h1 := hm.l.len
 have h2 := hm.t.len
 have h3 := hm.o.len
 obtain ⟨q1, q2, q3⟩ := hs
 have g1 : L.length ≤ 3 := q1
 have g2 : T.length ≤ 12 := q2
 have g3 : M.length ≤ 3 := q3
 omega
theorem rrd_start (p : Option Addr) (n c : Nat) (Bs : List Nat) (W : World) (hS : Sl W p n c Bs) (hc : c ≤ maxLen) : ∃ R w00 w0, W.heap.size = R ∧ (W.alloc (.cells zr 51)).alloc (.cells #[.slice p n c, .int .i64 0] 162) = w00 ∧ w00.heap.size = R + 2 ∧ RB (w00.alloc (.cells zr 51)) (R + 2) rz ∧ (w00.alloc (.cells zr 51)).setRow (R + 2) (rcs rz) = w0 ∧ Qr W w0 R p (0, Bs) rz := by
 have b1 : Below W.heap.size W (W.alloc (.cells zr 51)) := (Below.refl _ _).alloc (Nat.le_refl _) _
 have b2 : Below W.heap.size W ((W.alloc (.cells zr 51)).alloc (.cells #[.slice p n c, .int .i64 0] 162)) := b1.alloc (by simp) _
 have b3 : Below W.heap.size W (((W.alloc (.cells zr 51)).alloc (.cells #[.slice p n c, .int .i64 0] 162)).alloc (.cells zr 51)) := b2.alloc (by simp; omega) _
 have k1 := alloc_block W (.cells zr 51)
 have k2 := alloc_block (W.alloc (.cells zr 51)) (.cells #[.slice p n c, .int .i64 0] 162)
 have k3 := alloc_block ((W.alloc (.cells zr 51)).alloc (.cells #[.slice p n c, .int .i64 0] 162)) (.cells zr 51)
 simp only [World.size_alloc] at k2 k3
 have hq : Qr W (((W.alloc (.cells zr 51)).alloc (.cells #[.slice p n c, .int .i64 0] 162)).alloc (.cells zr 51)) W.heap.size p (0, Bs) rz := by
  refine ⟨⟨⟨p, n, c, (Below.heap_alloc _ _ _ (by simp)).trans k2, fun _ => ⟨hS.later b3, From.refl _, hc⟩⟩, fun _ hne a ha => ?_⟩, k3, (Below.heap_alloc _ _ _ (by simp; omega)).trans ((Below.heap_alloc _ _ _ (by simp)).trans k1), b3, Nat.le_refl _⟩
  have hl := hS.len
  have h0 : 0 < n := by
   rcases Nat.eq_zero_or_pos n with h | h
   · exact absurd (List.eq_nil_of_length_eq_zero (by rw [h] at hl; exact hl)) hne
   · exact h
  obtain ⟨b, off, hp, hlt, _⟩ := hS.blk h0
  rw [hp] at ha
  cases ha
  show b < W.heap.size + 1
  omega
 exact ⟨_, _, _, rfl, rfl, by simp, k3, rfl, hq.set rz⟩
theorem err_0 {Bs : List Nat} (hk : kOk (((numR ((0, Bs) : St) 1).2 : Nat) : Int) = true) : (numR ((0, Bs) : St) 1).1.1 = 0 := by
 by_cases h : (numR ((0, Bs) : St) 1).1.1 = 0
 · exact h
 · rw [numR_err (by omega) h] at hk
   exact absurd hk (by decide)
theorem decX_ok2 {Bs : List Nat} {R0 : St × Nat} {kk : Int} {D : Rdd} (h0 : numR (0, Bs) 1 = R0) (hk : ((R0.2 : Nat) : Int) = kk) (ho : kOk kk = true) (hd : rdX kk R0.1 = D) : decX Bs = if rdE D ≠ 0 then (rdE D, noX) else if goodX D.rx = true then (0, D.rx) else (8, noX) := by
 subst h0 hk
 unfold decX
 dsimp only
 rw [if_pos ho, hd]
theorem decX_no {Bs : List Nat} {R0 : St × Nat} {kk : Int} (h0 : numR (0, Bs) 1 = R0) (hk : ((R0.2 : Nat) : Int) = kk) (ho : kOk kk = false) : decX Bs = ((if R0.1.1 ≠ 0 then R0.1.1 else 8), noX) := by
 subst h0 hk
 unfold decX
 dsimp only
 rw [if_neg (by rw [ho]; decide)]
def errD (D : Rdd) : Int := if D.er = 0 then D.st.1 else D.er
theorem rdE_err {D : Rdd} (h : errD D ≠ 0) : rdE D = errD D := by
 unfold errD at h ⊢
 unfold rdE endR
 split
 · rename_i he
   rw [if_pos he] at h
   rw [if_neg (fun hh => h hh.1)]
 · rfl
theorem rdE_long {D : Rdd} (h : errD D = 0) (hl : 0 < D.st.2.length) : rdE D = 8 := by
 unfold errD at h
 unfold rdE endR
 split
 · rename_i he
   rw [if_pos he] at h
   rw [if_pos ⟨h, hl⟩]
 · rename_i he
   rw [if_neg he] at h
   exact absurd h he
theorem rdE_end {D : Rdd} (h : errD D = 0) (hl : ¬ 0 < D.st.2.length) : rdE D = 0 := by
 unfold errD at h
 unfold rdE endR
 split
 · rename_i he
   rw [if_pos he] at h
   rw [if_neg (fun hh => hl hh.2)]
   exact h
 · rename_i he
   rw [if_neg he] at h
   exact absurd h he
set_option maxHeartbeats 16000000 in
theorem rrec_dec1 (p : Option Addr) (n c : Nat) (Bs : List Nat) (W : World) (hw : Words W) (hS : Sl W p n c Bs) (hcm : c ≤ maxLen) (hk : (((numR ((0, Bs) : St) 1).2 : Nat) : Int) = 1) : Calls Tryz.prog 50 #[.slice p n c] W (GivesXr W (decX Bs)) := by
 obtain ⟨R, w00, w0, hR, hw00, hs00, hx00, hw0, hQ0⟩ := rrd_start p n c Bs W hS hcm
 have HW00 := Lib.hid hw00
 have HS00 := Lib.hid hs00
 have HX00 := Lib.hid hx00
 have HW0 := Lib.hid hw0
 have HQ0 := Lib.hid hQ0
 have HRE := Lib.hid hR
 have HWD := Lib.hid hw
 have HBY : Hid (∀ y ∈ Bs, y < 256) := Lib.hid hS.lt
 clear hw00 hs00 hx00 hw0 hQ0 hR hw hS hcm
 obtain ⟨R0, hR0⟩ : ∃ Q, numR ((0, Bs) : St) 1 = Q := ⟨_, rfl⟩
 have hn := pgnum_any HQ0.out.z 1 (by omega)
 have hf := byte_lt HQ0.out.z
 have hz0 := err_0 (Bs := Bs) (by rw [hk]; rfl)
 rw [hR0] at hz0
 have HZ0 := Lib.hid hz0
 clear hz0
 rw [hR0] at hn hf hk
 have HR0 := Lib.hid hR0
 have hx0 : IntKind.u8.wrap ((R0.2 : Nat) : Int) = (R0.2 : Nat) := u8_keep hf
 rw [hk] at hn hx0
 have HKK := Lib.hid hk
 clear hf hR0 hk
 go_enter Tryz.func50, Tryz.ntmps50
 go_upto_region 2 with (fail)
 rw [HW00.out, HRE.out]
 go_upto_region 3 with ((try rw [HS00.out]); (with_reducible refine wpList_store_rc rz HX00.out ?_ ?_ ?_); rfl; rfl; rw [HW0.out])
 go_wp2_with fail
 refine hn.mono ?_
 rintro e y0 ⟨rfl, hz, hc⟩
 have HQb := Lib.hid (HQ0.out.low hz hc)
 clear hz hc hn
 obtain ⟨cy, cf⟩ := HQb.out.cx (j := 0) (v := .int .u8 0) rfl
 go_upto_region 4 with (fail)
 clear cy cf hx0
 have hq := HQb.out.put 0 (.int .u8 1) (rm 1 0 0 0 false 0 0 0 0 0) rfl
 generalize y0.setCell ⟨R + 2, 0, none⟩ (.int .u8 1) = w1 at *
 have HQ1 := Lib.hid hq
 clear hq HQb HQ0 HW00 HS00 HX00 HW0
 have x1 := HQ1.out.z.err
 rw [HZ0.out] at x1
 have c0 := (HQ1.out.cx (j := 0) (v := .int .u8 1) rfl).1
 go_wp2_with fail
 clear x1
 have hn := pgnum_any HQ1.out.z 4 (by omega)
 obtain ⟨Qsg, hQsg⟩ : ∃ Q, numR R0.1 4 = Q := ⟨_, rfl⟩
 have hf := num4_lt HQ1.out.z
 rw [hQsg] at hn hf
 have hxsg : IntKind.u32.wrap ((Qsg.2 : Nat) : Int) = (Qsg.2 : Nat) := u32_keep hf
 clear hf
 have HQsg := Lib.hid hQsg
 clear hQsg
 refine hn.mono ?_
 rintro e y2 ⟨rfl, hz, hc⟩
 have HQb := Lib.hid (HQ1.out.low hz hc)
 clear hz hc hn HQ1 c0
 obtain ⟨cy, cf⟩ := HQb.out.cx (j := 1) (v := .int .u32 0) rfl
 go_upto_region 8 with (fail)
 clear cy cf hxsg
 have hq := HQb.out.put 1 (.int .u32 ((Qsg.2 : Nat) : Int)) (rm 1 ((Qsg.2 : Nat) : Int) 0 0 false 0 0 0 0 0) rfl
 generalize y2.setCell ⟨R + 2, 1, none⟩ (.int .u32 ((Qsg.2 : Nat) : Int)) = w2 at *
 have HQ2 := Lib.hid hq
 clear hq HQb
 have c0 := (HQ2.out.cx (j := 0) (v := .int .u8 1) rfl).1
 go_wp2_with fail
 have hn := rprog_any HQ2.out.z (fun w' hc => HWD.out.later (HQ2.out.below.trans (Chg.below (W := w2) (B := W.heap.size) (Below.refl _ _) HQ2.out.below.size hc fun k hk => by have := HQ2.out.base; omega)))
 have hxl := block_lt HQ2.out.x
 refine hn.mono ?_
 rintro e y3 ⟨pv, L, T, M, rfl, hpg, hpm, hfr, hz, hc⟩
 have HQb := Lib.hid (HQ2.out.low hz hc)
 have HFR : Hid ((∀ a, pv.lp = some a → R + 2 < a.block) ∧ (∀ a, pv.tp = some a → R + 2 < a.block) ∧ (∀ a, pv.wp = some a → R + 2 < a.block)) := Lib.hid ⟨fun a h => by have := hfr.1 a h; omega, fun a h => by have := hfr.2.1 a h; omega, fun a h => by have := hfr.2.2 a h; omega⟩
 have HPM := Lib.hid hpm
 have HPG := Lib.hid hpg
 clear hn hz hc hpm hpg hfr hxl HQ2 c0
 obtain ⟨rr, hrr⟩ : ∃ rr, Rv.withP (rm 1 ((Qsg.2 : Nat) : Int) 0 0 false 0 0 0 0 0) pv = rr := ⟨_, rfl⟩
 have HRR := Lib.hid hrr
 obtain ⟨w3, hwx, hq⟩ : ∃ w3, y3.setRow (R + 2) (rcs rr) = w3 ∧ Qr W w3 R p (progS Qsg.1).1 rr := ⟨_, rfl, HQb.out.set _⟩
 have hm3 : RvM w3 rr L T M := by
  have hp8 := pgm_chg HPM.out (show Chg (fun k => k = R + 2) y3 w3 from by rw [← hwx]; exact ⟨rfl, rfl, rfl, by simp [World.setRow], fun k _ hn => setRow_other _ _ _ _ hn⟩) (fun a h e => by have := HFR.out.1 a h; omega) (fun a h e => by have := HFR.out.2.1 a h; omega) (fun a h e => by have := HFR.out.2.2 a h; omega)
  rw [← hrr]
  exact hp8
 have HFX : Hid ((∀ a, rr.lp = some a → R + 2 < a.block) ∧ (∀ a, rr.tp = some a → R + 2 < a.block) ∧ (∀ a, rr.wp = some a → R + 2 < a.block)) := Lib.hid (by rw [← hrr]; exact HFR.out)
 have HM3 := Lib.hid hm3
 have HWX := Lib.hid hwx
 have HQ3 := Lib.hid hq
 clear hwx hq hrr hm3
 go_upto_region 22 with ((with_reducible refine wpList_store_pr pv HQb.out.x ?_ ?_ ?_); rfl; rfl; rw [HRR.out, HWX.out])
 clear HQb HWX HPM HFR
 obtain ⟨DD, hDD⟩ : ∃ D : Rdd, D = rd1 R0.1 := ⟨_, rfl⟩
 have HRX : Hid (rdX 1 R0.1 = DD) := Lib.hid (by rw [hDD]; rfl)
 have HED : Hid (errD DD = (progS Qsg.1).1.1) := Lib.hid (by
  rw [hDD]
  unfold rd1 progS errD
  rw [HQsg.out]
  dsimp only
  by_cases hb : (bytesR Qsg.1 512).1.1 = 0
  · rw [if_pos hb, if_pos hb]
    dsimp only
    by_cases he : (decP (bytesR Qsg.1 512).2).1 = 0
    · rw [if_pos he, he, hb]
    · rw [if_neg he]
  · rw [if_neg hb, if_neg hb]
    rfl)
 have HSX : Hid ((progS Qsg.1).1.1 = 0 → DD.st.2 = (progS Qsg.1).1.2 ∧ rr.x L T M = DD.rx) := Lib.hid (by
  intro h0
  have hpg := HPG.out
  rw [hDD]
  unfold rd1
  unfold progS at h0 hpg ⊢
  rw [HQsg.out]
  dsimp only
  by_cases hb : (bytesR Qsg.1 512).1.1 = 0
  · rw [if_pos hb] at h0 hpg ⊢
    rw [if_pos hb]
    refine ⟨rfl, ?_⟩
    rw [← HRR.out]
    dsimp only
    rw [← hpg]
    rfl
  · rw [if_neg hb] at h0
    exact absurd h0 hb)
 clear hDD
 have HKO : Hid (kOk 1 = true) := Lib.hid rfl
 have HDX := Lib.hid (decX_ok2 HR0.out HKK.out HKO.out HRX.out)
 have x1 := HQ3.out.z.err
 by_cases he9 : (progS Qsg.1).1.1 = 0
 case neg =>
  have d9 : ((progS Qsg.1).1.1 != 0) = true := by simpa using he9
  have hq9 : Hid ((progS Qsg.1).1.1 ≠ 0) := Lib.hid he9
  obtain ⟨pr, nr, cr, hbx, hpr⟩ := HQ3.out.z.box
  have HQd := Lib.hid (HQ3.out.later (show Below w3.heap.size w3 w3.drew from (Below.refl _ _).drew))
  have HBX : Hid (w3.drew.heap[R + 1]? = some (.cells #[.slice pr nr cr, .int .i64 (progS Qsg.1).1.1] 162 (0, 0))) := Lib.hid hbx
  clear he9 hbx hpr
  have HRF : Hid (RB (w3.drew.setRow R (rcs rz)) R rz) := Lib.hid (HQd.out.res.set _)
  have HG : Hid (GivesXr W (decX Bs) (.returned (.tuple #[.agg zr, .int .i64 (progS Qsg.1).1.1])) (w3.drew.setRow R zr)) := Lib.hid (by
   have hp : decX Bs = ((progS Qsg.1).1.1, noX) := by
    rw [HDX.out, if_pos (by rw [rdE_err (by rw [HED.out]; exact hq9.out), HED.out]; exact hq9.out), rdE_err (by rw [HED.out]; exact hq9.out), HED.out]
   rw [hp]
   exact ⟨rz, [], [], [], rfl, rfl, rz_m _, below_setRow HQd.out.below HQd.out.base zr, nw_rz _⟩)
  go_wp2_with fail
  refine wp_region_held_drew (S := fun w' => Hid (w'.heap[R + 1]? = some (.cells #[.slice pr nr cr, .int .i64 (progS Qsg.1).1.1] 162 (0, 0)))) (by kernel_rfl) HBX (fun hHeld => ?_)
  refine wpAnyH_take (i := 0) (oi := ⟨some 113, _, _, _, _, _⟩) (v := .agg zr) rfl (by kernel_rfl) (by kernel_rfl) (by kernel_rfl) (fun _ _ _ h => h) (Or.inl ⟨by rfl, fun w' hw' => ?_⟩) (by assumption) ?_
  · clear hHeld
    go_simp
  simp only [Act.put, List.setIfInBounds_toArray, List.set_cons_zero, List.set_cons_succ]
  refine wpAnyH_take (i := 1) (oi := ⟨some 114, _, _, _, _, _⟩) (v := .pointer (some ⟨R + 1, 0, none⟩)) rfl (by kernel_rfl) (by kernel_rfl) (by kernel_rfl) (fun _ _ _ h => h) (Or.inl ⟨by rfl, fun w' hw' => ?_⟩) (by assumption) ?_
  · clear hHeld
    go_simp
  simp only [Act.put, List.setIfInBounds_toArray, List.set_cons_zero, List.set_cons_succ]
  refine wpAnyH_take (i := 2) (oi := ⟨some 115, _, _, _, _, _⟩) (v := .pointer (some ⟨R + 1, 0, none⟩)) rfl (by kernel_rfl) (by kernel_rfl) (by kernel_rfl) (fun _ _ _ h => h) (Or.inl ⟨by rfl, fun w' hw' => ?_⟩) (by assumption) ?_
  · clear hHeld
    go_simp
  simp only [Act.put, List.setIfInBounds_toArray, List.set_cons_zero, List.set_cons_succ]
  refine wpAnyH_take (i := 3) (oi := ⟨some 116, _, _, _, _, _⟩) (v := .pointer (some ⟨R + 1, 1, none⟩)) rfl (by kernel_rfl) (by kernel_rfl) (by kernel_rfl) (fun _ _ _ h => h) (Or.inl ⟨by rfl, fun w' hw' => ?_⟩) (by assumption) ?_
  · clear hHeld
    go_simp
  simp only [Act.put, List.setIfInBounds_toArray, List.set_cons_zero, List.set_cons_succ]
  refine wpAnyH_take (i := 4) (oi := ⟨some 117, _, _, _, _, _⟩) (v := .int .i64 (progS Qsg.1).1.1) rfl (by kernel_rfl) (by kernel_rfl) (by kernel_rfl) (fun _ _ _ h => h) (Or.inl ⟨by rfl, fun w' hw' => ?_⟩) (by assumption) ?_
  · have g1 := block_cell (j := 1) (v := .int .i64 (progS Qsg.1).1.1) hw'.out rfl
    clear hHeld
    go_simp
  simp only [Act.put, List.setIfInBounds_toArray, List.set_cons_zero, List.set_cons_succ]
  generalize w3.drew = Wd at *
  refine wpAnyH_ready (rs := [5]) (by kernel_rfl) (by simp) (AllReadyH.cons rfl (fun K hK => ?_) AllReadyH.nil)
  rw [if_pos (by rfl)]
  refine wp_store_row 51 _ _ rfl R zr rfl rfl 51 _ HQd.out.res (by kernel_rfl) rfl (rcs_one rz) ?_
  have HB2 : Hid ((Wd.setRow R zr).heap[R + 1]? = some (.cells #[.slice pr nr cr, .int .i64 (progS Qsg.1).1.1] 162 (0, 0))) := Lib.hid ((setRow_other _ _ _ _ (by omega)).trans HBX.out)
  refine hK.out _ _ HB2 (fun hHeld2 => ?_)
  clear hK K hHeld
  have hHeld := hHeld2
  clear hHeld2
  (try simp only [Act.put, List.setIfInBounds_toArray, List.set_cons_zero, List.set_cons_succ])
  refine wpAnyH_take (i := 6) (oi := ⟨some 3, _, _, _, _, _⟩) (v := .int .i64 (progS Qsg.1).1.1) rfl (by kernel_rfl) (by kernel_rfl) (by kernel_rfl) (fun _ _ _ h => h) (Or.inl ⟨by rfl, fun w' hw' => ?_⟩) (by assumption) ?_
  · clear hHeld
    go_simp
  simp only [Act.put, List.setIfInBounds_toArray, List.set_cons_zero, List.set_cons_succ]
  refine wpAnyH_done (by kernel_rfl) ?_ _
  clear hHeld
  (try simp only [Exit.inBlock, Exit.then])
  go_wp2_with fail
  refine bodyPost_ret (v := .tuple #[.agg zr, .int .i64 (progS Qsg.1).1.1]) ?_ rfl HG.out
  exact results_rc rfl _ _ R rz _ rfl rfl HRF.out
 have HST : Hid (DD.st.2 = (progS Qsg.1).1.2) := Lib.hid (HSX.out he9).1
 have HXX : Hid (rr.x L T M = DD.rx) := Lib.hid (HSX.out he9).2
 have d9 : ((progS Qsg.1).1.1 != 0) = false := by simp [he9]
 obtain ⟨pr, nr, cr, hbx, hpr⟩ := HQ3.out.z.box
 have hln := (hpr he9).1.len
 rw [he9] at hbx
 have HLN := Lib.hid hln
 have HZ9 : Hid (errD DD = 0) := Lib.hid (HED.out.trans he9)
 have b0 : w3.cell? ⟨R + 1, 0, none⟩ = some (.slice pr nr cr) := block_cell hbx rfl
 have b1 : w3.cell? ⟨R + 1, 1, none⟩ = some (.int .i64 0) := block_cell hbx rfl
 clear hbx hpr hln x1
 rw [he9] at d9
 clear he9
 by_cases hnr : 0 < nr
 case pos =>
  have hd : decide ((0 : Int) < (nr : Int)) = true := decide_eq_true (by omega)
  have hdn : decide (0 < nr) = true := decide_eq_true hnr
  have HNR := Lib.hid hnr
  clear hnr
  have HRF : Hid (RB (w3.setRow R (rcs rz)) R rz) := Lib.hid (HQ3.out.res.set _)
  have HG : Hid (GivesXr W (decX Bs) (.returned (.tuple #[.agg zr, .int .i64 8])) (w3.setRow R zr)) := Lib.hid (by
   have hp : decX Bs = (8, noX) := by
    have h8 := rdE_long HZ9.out (by rw [HST.out, HLN.out]; exact HNR.out)
    rw [HDX.out, if_pos (by rw [h8]; decide), h8]
   rw [hp]
   exact ⟨rz, [], [], [], rfl, rfl, rz_m _, below_setRow HQ3.out.below HQ3.out.base zr, nw_rz _⟩)
  go_wp2_with ((with_reducible refine wpList_store_rc rz HQ3.out.res ?_ ?_ ?_); rfl; rfl)
  (try simp only [Exit.inBlock, Exit.then])
  refine bodyPost_ret (v := .tuple #[.agg zr, .int .i64 8]) ?_ rfl HG.out
  exact results_rc rfl _ _ R rz _ rfl rfl HRF.out
 have hd : decide ((0 : Int) < (nr : Int)) = false := decide_eq_false (by omega)
 have hdn : decide (0 < nr) = false := decide_eq_false hnr
 have HNR := Lib.hid hnr
 clear hnr
 have h0 : rdE DD = 0 := rdE_end HZ9.out (by rw [HST.out, HLN.out]; exact HNR.out)
 have HDY : Hid (decX Bs = if goodX DD.rx = true then (0, DD.rx) else (8, noX)) := Lib.hid (by rw [HDX.out, if_neg (fun h => h h0)])
 have HMM := Lib.hid (HM3.out)
 have hokk := rdX_ok (k := 1) HKO.out (S := R0.1) (by rw [← HR0.out]; exact numR_bytes (S := (0, Bs)) HBY.out 1)
 rw [HRX.out, ← HXX.out] at hokk
 obtain ⟨hok, hs1, hs2, hs3⟩ := hokk
 have hgd := rrec_good rr L T M w3 HMM.out hok (of_lists3 HMM.out ⟨hs1, hs2, hs3⟩)
 clear h0 hok hs1 hs2 hs3
 go_wp2_with (first | ((with_reducible refine wpList_load_rcg HQ3.out.x ?_ ?_ ?_); rfl; rfl))
 refine hgd.mono ?_
 rintro e w90 ⟨rfl, hb90⟩
 have HQ90 := Lib.hid (HQ3.out.later hb90)
 have HM90 := Lib.hid (HMM.out.later hb90)
 clear hb90 hgd b0 b1
 cases hg : goodX (rr.x L T M)
 case false =>
  have HRF : Hid (RB (w90.setRow R (rcs rz)) R rz) := Lib.hid (HQ90.out.res.set _)
  have HG : Hid (GivesXr W (decX Bs) (.returned (.tuple #[.agg zr, .int .i64 8])) (w90.setRow R zr)) := Lib.hid (by
   have hp : decX Bs = (8, noX) := by
    rw [HDY.out, ← HXX.out, if_neg (by rw [hg]; decide)]
   rw [hp]
   exact ⟨rz, [], [], [], rfl, rfl, rz_m _, below_setRow HQ90.out.below HQ90.out.base zr, nw_rz _⟩)
  go_wp2_with ((with_reducible refine wpList_store_rc rz HQ90.out.res ?_ ?_ ?_); rfl; rfl)
  (try simp only [Exit.inBlock, Exit.then])
  refine bodyPost_ret (v := .tuple #[.agg zr, .int .i64 8]) ?_ rfl HG.out
  exact results_rc rfl _ _ R rz _ rfl rfl HRF.out
 have HRF : Hid (RB (w90.setRow R (rcs rr)) R rr) := Lib.hid (HQ90.out.res.set _)
 have HG : Hid (GivesXr W (decX Bs) (.returned (.tuple #[.agg (rcs rr), .int .i64 0])) (w90.setRow R (rcs rr))) := Lib.hid (by
  have hp : decX Bs = (0, rr.x L T M) := by rw [HDY.out, ← HXX.out, if_pos hg]
  rw [hp]
  exact ⟨rr, L, T, M, rfl, rfl, pgm_chg HM90.out (S := fun k => k = R) ⟨rfl, rfl, rfl, by simp [World.setRow], fun k _ hn => setRow_other _ _ _ _ hn⟩ (fun a h e => by have := HFX.out.1 a h; omega) (fun a h e => by have := HFX.out.2.1 a h; omega) (fun a h e => by have := HFX.out.2.2 a h; omega), below_setRow HQ90.out.below HQ90.out.base (rcs rr), (fun a h => by have := HFX.out.1 a h; have := HRE.out; omega), (fun a h => by have := HFX.out.2.1 a h; have := HRE.out; omega), fun a h => by have := HFX.out.2.2 a h; have := HRE.out; omega⟩)
 clear hg
 go_wp2_with (first | ((with_reducible refine wpList_load_rc HQ90.out.x ?_ ?_); rfl) | ((with_reducible refine wpList_store_rc rr HQ90.out.res ?_ ?_ ?_); rfl; rfl))
 (try simp only [Exit.inBlock, Exit.then])
 refine bodyPost_ret (v := .tuple #[.agg (rcs rr), .int .i64 0]) ?_ rfl HG.out
 exact results_rc rfl _ _ R rr _ rfl rfl HRF.out
set_option maxHeartbeats 16000000 in
theorem rrec_dec2 (p : Option Addr) (n c : Nat) (Bs : List Nat) (W : World) (hw : Words W) (hS : Sl W p n c Bs) (hcm : c ≤ maxLen) (hk : (((numR ((0, Bs) : St) 1).2 : Nat) : Int) = 2) : Calls Tryz.prog 50 #[.slice p n c] W (GivesXr W (decX Bs)) := by
 obtain ⟨R, w00, w0, hR, hw00, hs00, hx00, hw0, hQ0⟩ := rrd_start p n c Bs W hS hcm
 have HW00 := Lib.hid hw00
 have HS00 := Lib.hid hs00
 have HX00 := Lib.hid hx00
 have HW0 := Lib.hid hw0
 have HQ0 := Lib.hid hQ0
 have HRE := Lib.hid hR
 have HWD := Lib.hid hw
 have HBY : Hid (∀ y ∈ Bs, y < 256) := Lib.hid hS.lt
 clear hw00 hs00 hx00 hw0 hQ0 hR hw hS hcm
 obtain ⟨R0, hR0⟩ : ∃ Q, numR ((0, Bs) : St) 1 = Q := ⟨_, rfl⟩
 have hn := pgnum_any HQ0.out.z 1 (by omega)
 have hf := byte_lt HQ0.out.z
 have hz0 := err_0 (Bs := Bs) (by rw [hk]; rfl)
 rw [hR0] at hz0
 have HZ0 := Lib.hid hz0
 clear hz0
 rw [hR0] at hn hf hk
 have HR0 := Lib.hid hR0
 have hx0 : IntKind.u8.wrap ((R0.2 : Nat) : Int) = (R0.2 : Nat) := u8_keep hf
 rw [hk] at hn hx0
 have HKK := Lib.hid hk
 clear hf hR0 hk
 go_enter Tryz.func50, Tryz.ntmps50
 go_upto_region 2 with (fail)
 rw [HW00.out, HRE.out]
 go_upto_region 3 with ((try rw [HS00.out]); (with_reducible refine wpList_store_rc rz HX00.out ?_ ?_ ?_); rfl; rfl; rw [HW0.out])
 go_wp2_with fail
 refine hn.mono ?_
 rintro e y0 ⟨rfl, hz, hc⟩
 have HQb := Lib.hid (HQ0.out.low hz hc)
 clear hz hc hn
 obtain ⟨cy, cf⟩ := HQb.out.cx (j := 0) (v := .int .u8 0) rfl
 go_upto_region 4 with (fail)
 clear cy cf hx0
 have hq := HQb.out.put 0 (.int .u8 2) (rm 2 0 0 0 false 0 0 0 0 0) rfl
 generalize y0.setCell ⟨R + 2, 0, none⟩ (.int .u8 2) = w1 at *
 have HQ1 := Lib.hid hq
 clear hq HQb HQ0 HW00 HS00 HX00 HW0
 have x1 := HQ1.out.z.err
 rw [HZ0.out] at x1
 have c0 := (HQ1.out.cx (j := 0) (v := .int .u8 2) rfl).1
 go_wp2_with fail
 clear x1
 have hn := pgnum_any HQ1.out.z 4 (by omega)
 obtain ⟨Qsg, hQsg⟩ : ∃ Q, numR R0.1 4 = Q := ⟨_, rfl⟩
 have hf := num4_lt HQ1.out.z
 rw [hQsg] at hn hf
 have hxsg : IntKind.u32.wrap ((Qsg.2 : Nat) : Int) = (Qsg.2 : Nat) := u32_keep hf
 clear hf
 have HQsg := Lib.hid hQsg
 clear hQsg
 refine hn.mono ?_
 rintro e y2 ⟨rfl, hz, hc⟩
 have HQb := Lib.hid (HQ1.out.low hz hc)
 clear hz hc hn HQ1 c0
 obtain ⟨cy, cf⟩ := HQb.out.cx (j := 1) (v := .int .u32 0) rfl
 go_upto_region 8 with (fail)
 clear cy cf hxsg
 have hq := HQb.out.put 1 (.int .u32 ((Qsg.2 : Nat) : Int)) (rm 2 ((Qsg.2 : Nat) : Int) 0 0 false 0 0 0 0 0) rfl
 generalize y2.setCell ⟨R + 2, 1, none⟩ (.int .u32 ((Qsg.2 : Nat) : Int)) = w2 at *
 have HQ2 := Lib.hid hq
 clear hq HQb
 have c0 := (HQ2.out.cx (j := 0) (v := .int .u8 2) rfl).1
 go_wp2_with fail
 have hn := pgnum_any HQ2.out.z 4 (by omega)
 obtain ⟨Qtx, hQtx⟩ : ∃ Q, numR Qsg.1 4 = Q := ⟨_, rfl⟩
 have hf := num4_lt HQ2.out.z
 rw [hQtx] at hn hf
 have hxtx : IntKind.u32.wrap ((Qtx.2 : Nat) : Int) = (Qtx.2 : Nat) := u32_keep hf
 clear hf
 have HQtx := Lib.hid hQtx
 clear hQtx
 refine hn.mono ?_
 rintro e y3 ⟨rfl, hz, hc⟩
 have HQb := Lib.hid (HQ2.out.low hz hc)
 clear hz hc hn HQ2 c0
 obtain ⟨cy, cf⟩ := HQb.out.cx (j := 2) (v := .int .u32 0) rfl
 go_upto_region 10 with (fail)
 clear cy cf hxtx
 have hq := HQb.out.put 2 (.int .u32 ((Qtx.2 : Nat) : Int)) (rm 2 ((Qsg.2 : Nat) : Int) ((Qtx.2 : Nat) : Int) 0 false 0 0 0 0 0) rfl
 generalize y3.setCell ⟨R + 2, 2, none⟩ (.int .u32 ((Qtx.2 : Nat) : Int)) = w3 at *
 have HQ3 := Lib.hid hq
 clear hq HQb
 have c0 := (HQ3.out.cx (j := 0) (v := .int .u8 2) rfl).1
 go_wp2_with fail
 have hn := pgnum_any HQ3.out.z 1 (by omega)
 obtain ⟨Qst, hQst⟩ : ∃ Q, numR Qtx.1 1 = Q := ⟨_, rfl⟩
 have hf := byte_lt HQ3.out.z
 rw [hQst] at hn hf
 have hxst : IntKind.u8.wrap ((Qst.2 : Nat) : Int) = (Qst.2 : Nat) := u8_keep hf
 clear hf
 have HQst := Lib.hid hQst
 clear hQst
 refine hn.mono ?_
 rintro e y4 ⟨rfl, hz, hc⟩
 have HQb := Lib.hid (HQ3.out.low hz hc)
 clear hz hc hn HQ3 c0
 obtain ⟨cy, cf⟩ := HQb.out.cx (j := 3) (v := .int .u8 0) rfl
 go_upto_region 12 with (fail)
 clear cy cf hxst
 have hq := HQb.out.put 3 (.int .u8 ((Qst.2 : Nat) : Int)) (rm 2 ((Qsg.2 : Nat) : Int) ((Qtx.2 : Nat) : Int) ((Qst.2 : Nat) : Int) false 0 0 0 0 0) rfl
 generalize y4.setCell ⟨R + 2, 3, none⟩ (.int .u8 ((Qst.2 : Nat) : Int)) = w4 at *
 have HQ4 := Lib.hid hq
 clear hq HQb
 have c0 := (HQ4.out.cx (j := 0) (v := .int .u8 2) rfl).1
 go_wp2_with fail
 have hn := rtruth_any HQ4.out.z
 obtain ⟨Qcp, hQcp⟩ : ∃ Q, boolR Qst.1 = Q := ⟨_, rfl⟩
 rw [hQcp] at hn
 have HQcp := Lib.hid hQcp
 clear hQcp
 refine hn.mono ?_
 rintro e y5 ⟨rfl, hz, hc⟩
 have HQb := Lib.hid (HQ4.out.low hz hc)
 clear hz hc hn HQ4 c0
 obtain ⟨cy, cf⟩ := HQb.out.cx (j := 4) (v := .bool false) rfl
 go_upto_region 13 with (fail)
 clear cy cf
 have hq := HQb.out.put 4 (.bool Qcp.2) (rm 2 ((Qsg.2 : Nat) : Int) ((Qtx.2 : Nat) : Int) ((Qst.2 : Nat) : Int) Qcp.2 0 0 0 0 0) rfl
 generalize y5.setCell ⟨R + 2, 4, none⟩ (.bool Qcp.2) = w5 at *
 have HQ5 := Lib.hid hq
 clear hq HQb
 have c0 := (HQ5.out.cx (j := 0) (v := .int .u8 2) rfl).1
 obtain ⟨DD, hDD⟩ : ∃ D : Rdd, D = ⟨Qcp.1, { noX with k := 2, sg := ((Qsg.2 : Nat) : Int), tx := ((Qtx.2 : Nat) : Int), st := ((Qst.2 : Nat) : Int), cp := Qcp.2, key := (0, 0, 0), d := 0, o := 0 }, 0⟩ := ⟨_, rfl⟩
 have HRX : Hid (rdX 2 R0.1 = DD) := Lib.hid (by rw [hDD]; simp [rdX, rd2, keyR, HQsg.out, HQtx.out, HQst.out, HQcp.out, noX])
 have HED : Hid (errD DD = Qcp.1.1) := Lib.hid (by rw [hDD]; rfl)
 have HST : Hid (DD.st.2 = Qcp.1.2) := Lib.hid (by rw [hDD])
 have HXX : Hid ((rm 2 ((Qsg.2 : Nat) : Int) ((Qtx.2 : Nat) : Int) ((Qst.2 : Nat) : Int) Qcp.2 0 0 0 0 0).x [] [] [] = DD.rx) := Lib.hid (by rw [hDD]; rfl)
 clear hDD
 have HKO : Hid (kOk 2 = true) := Lib.hid rfl
 have HDX := Lib.hid (decX_ok2 HR0.out HKK.out HKO.out HRX.out)
 have x1 := HQ5.out.z.err
 by_cases he9 : Qcp.1.1 = 0
 case neg =>
  have d9 : (Qcp.1.1 != 0) = true := by simpa using he9
  have hq9 : Hid (Qcp.1.1 ≠ 0) := Lib.hid he9
  obtain ⟨pr, nr, cr, hbx, hpr⟩ := HQ5.out.z.box
  have HQd := Lib.hid (HQ5.out.later (show Below w5.heap.size w5 w5.drew from (Below.refl _ _).drew))
  have HBX : Hid (w5.drew.heap[R + 1]? = some (.cells #[.slice pr nr cr, .int .i64 Qcp.1.1] 162 (0, 0))) := Lib.hid hbx
  clear he9 hbx hpr
  have HRF : Hid (RB (w5.drew.setRow R (rcs rz)) R rz) := Lib.hid (HQd.out.res.set _)
  have HG : Hid (GivesXr W (decX Bs) (.returned (.tuple #[.agg zr, .int .i64 Qcp.1.1])) (w5.drew.setRow R zr)) := Lib.hid (by
   have hp : decX Bs = (Qcp.1.1, noX) := by
    rw [HDX.out, if_pos (by rw [rdE_err (by rw [HED.out]; exact hq9.out), HED.out]; exact hq9.out), rdE_err (by rw [HED.out]; exact hq9.out), HED.out]
   rw [hp]
   exact ⟨rz, [], [], [], rfl, rfl, rz_m _, below_setRow HQd.out.below HQd.out.base zr, nw_rz _⟩)
  go_wp2_with fail
  refine wp_region_held_drew (S := fun w' => Hid (w'.heap[R + 1]? = some (.cells #[.slice pr nr cr, .int .i64 Qcp.1.1] 162 (0, 0)))) (by kernel_rfl) HBX (fun hHeld => ?_)
  refine wpAnyH_take (i := 0) (oi := ⟨some 113, _, _, _, _, _⟩) (v := .agg zr) rfl (by kernel_rfl) (by kernel_rfl) (by kernel_rfl) (fun _ _ _ h => h) (Or.inl ⟨by rfl, fun w' hw' => ?_⟩) (by assumption) ?_
  · clear hHeld
    go_simp
  simp only [Act.put, List.setIfInBounds_toArray, List.set_cons_zero, List.set_cons_succ]
  refine wpAnyH_take (i := 1) (oi := ⟨some 114, _, _, _, _, _⟩) (v := .pointer (some ⟨R + 1, 0, none⟩)) rfl (by kernel_rfl) (by kernel_rfl) (by kernel_rfl) (fun _ _ _ h => h) (Or.inl ⟨by rfl, fun w' hw' => ?_⟩) (by assumption) ?_
  · clear hHeld
    go_simp
  simp only [Act.put, List.setIfInBounds_toArray, List.set_cons_zero, List.set_cons_succ]
  refine wpAnyH_take (i := 2) (oi := ⟨some 115, _, _, _, _, _⟩) (v := .pointer (some ⟨R + 1, 0, none⟩)) rfl (by kernel_rfl) (by kernel_rfl) (by kernel_rfl) (fun _ _ _ h => h) (Or.inl ⟨by rfl, fun w' hw' => ?_⟩) (by assumption) ?_
  · clear hHeld
    go_simp
  simp only [Act.put, List.setIfInBounds_toArray, List.set_cons_zero, List.set_cons_succ]
  refine wpAnyH_take (i := 3) (oi := ⟨some 116, _, _, _, _, _⟩) (v := .pointer (some ⟨R + 1, 1, none⟩)) rfl (by kernel_rfl) (by kernel_rfl) (by kernel_rfl) (fun _ _ _ h => h) (Or.inl ⟨by rfl, fun w' hw' => ?_⟩) (by assumption) ?_
  · clear hHeld
    go_simp
  simp only [Act.put, List.setIfInBounds_toArray, List.set_cons_zero, List.set_cons_succ]
  refine wpAnyH_take (i := 4) (oi := ⟨some 117, _, _, _, _, _⟩) (v := .int .i64 Qcp.1.1) rfl (by kernel_rfl) (by kernel_rfl) (by kernel_rfl) (fun _ _ _ h => h) (Or.inl ⟨by rfl, fun w' hw' => ?_⟩) (by assumption) ?_
  · have g1 := block_cell (j := 1) (v := .int .i64 Qcp.1.1) hw'.out rfl
    clear hHeld
    go_simp
  simp only [Act.put, List.setIfInBounds_toArray, List.set_cons_zero, List.set_cons_succ]
  generalize w5.drew = Wd at *
  refine wpAnyH_ready (rs := [5]) (by kernel_rfl) (by simp) (AllReadyH.cons rfl (fun K hK => ?_) AllReadyH.nil)
  rw [if_pos (by rfl)]
  refine wp_store_row 51 _ _ rfl R zr rfl rfl 51 _ HQd.out.res (by kernel_rfl) rfl (rcs_one rz) ?_
  have HB2 : Hid ((Wd.setRow R zr).heap[R + 1]? = some (.cells #[.slice pr nr cr, .int .i64 Qcp.1.1] 162 (0, 0))) := Lib.hid ((setRow_other _ _ _ _ (by omega)).trans HBX.out)
  refine hK.out _ _ HB2 (fun hHeld2 => ?_)
  clear hK K hHeld
  have hHeld := hHeld2
  clear hHeld2
  (try simp only [Act.put, List.setIfInBounds_toArray, List.set_cons_zero, List.set_cons_succ])
  refine wpAnyH_take (i := 6) (oi := ⟨some 3, _, _, _, _, _⟩) (v := .int .i64 Qcp.1.1) rfl (by kernel_rfl) (by kernel_rfl) (by kernel_rfl) (fun _ _ _ h => h) (Or.inl ⟨by rfl, fun w' hw' => ?_⟩) (by assumption) ?_
  · clear hHeld
    go_simp
  simp only [Act.put, List.setIfInBounds_toArray, List.set_cons_zero, List.set_cons_succ]
  refine wpAnyH_done (by kernel_rfl) ?_ _
  clear hHeld
  (try simp only [Exit.inBlock, Exit.then])
  go_wp2_with fail
  refine bodyPost_ret (v := .tuple #[.agg zr, .int .i64 Qcp.1.1]) ?_ rfl HG.out
  exact results_rc rfl _ _ R rz _ rfl rfl HRF.out
 have d9 : (Qcp.1.1 != 0) = false := by simp [he9]
 obtain ⟨pr, nr, cr, hbx, hpr⟩ := HQ5.out.z.box
 have hln := (hpr he9).1.len
 rw [he9] at hbx
 have HLN := Lib.hid hln
 have HZ9 : Hid (errD DD = 0) := Lib.hid (HED.out.trans he9)
 have b0 : w5.cell? ⟨R + 1, 0, none⟩ = some (.slice pr nr cr) := block_cell hbx rfl
 have b1 : w5.cell? ⟨R + 1, 1, none⟩ = some (.int .i64 0) := block_cell hbx rfl
 clear hbx hpr hln x1
 rw [he9] at d9
 clear he9
 by_cases hnr : 0 < nr
 case pos =>
  have hd : decide ((0 : Int) < (nr : Int)) = true := decide_eq_true (by omega)
  have hdn : decide (0 < nr) = true := decide_eq_true hnr
  have HNR := Lib.hid hnr
  clear hnr
  have HRF : Hid (RB (w5.setRow R (rcs rz)) R rz) := Lib.hid (HQ5.out.res.set _)
  have HG : Hid (GivesXr W (decX Bs) (.returned (.tuple #[.agg zr, .int .i64 8])) (w5.setRow R zr)) := Lib.hid (by
   have hp : decX Bs = (8, noX) := by
    have h8 := rdE_long HZ9.out (by rw [HST.out, HLN.out]; exact HNR.out)
    rw [HDX.out, if_pos (by rw [h8]; decide), h8]
   rw [hp]
   exact ⟨rz, [], [], [], rfl, rfl, rz_m _, below_setRow HQ5.out.below HQ5.out.base zr, nw_rz _⟩)
  go_wp2_with ((with_reducible refine wpList_store_rc rz HQ5.out.res ?_ ?_ ?_); rfl; rfl)
  (try simp only [Exit.inBlock, Exit.then])
  refine bodyPost_ret (v := .tuple #[.agg zr, .int .i64 8]) ?_ rfl HG.out
  exact results_rc rfl _ _ R rz _ rfl rfl HRF.out
 have hd : decide ((0 : Int) < (nr : Int)) = false := decide_eq_false (by omega)
 have hdn : decide (0 < nr) = false := decide_eq_false hnr
 have HNR := Lib.hid hnr
 clear hnr
 have h0 : rdE DD = 0 := rdE_end HZ9.out (by rw [HST.out, HLN.out]; exact HNR.out)
 have HDY : Hid (decX Bs = if goodX DD.rx = true then (0, DD.rx) else (8, noX)) := Lib.hid (by rw [HDX.out, if_neg (fun h => h h0)])
 have HMM := Lib.hid ((rm_lists 2 ((Qsg.2 : Nat) : Int) ((Qtx.2 : Nat) : Int) ((Qst.2 : Nat) : Int) Qcp.2 0 0 0 0 0 w5))
 have hokk := rdX_ok (k := 2) HKO.out (S := R0.1) (by rw [← HR0.out]; exact numR_bytes (S := (0, Bs)) HBY.out 1)
 rw [HRX.out, ← HXX.out] at hokk
 obtain ⟨hok, hs1, hs2, hs3⟩ := hokk
 have hgd := rrec_good (rm 2 ((Qsg.2 : Nat) : Int) ((Qtx.2 : Nat) : Int) ((Qst.2 : Nat) : Int) Qcp.2 0 0 0 0 0) [] [] [] w5 HMM.out hok (of_lists3 HMM.out ⟨hs1, hs2, hs3⟩)
 clear h0 hok hs1 hs2 hs3
 go_wp2_with (first | ((with_reducible refine wpList_load_rcg HQ5.out.x ?_ ?_ ?_); rfl; rfl))
 refine hgd.mono ?_
 rintro e w90 ⟨rfl, hb90⟩
 have HQ90 := Lib.hid (HQ5.out.later hb90)
 have HM90 := Lib.hid (HMM.out.later hb90)
 clear hb90 hgd b0 b1
 cases hg : goodX ((rm 2 ((Qsg.2 : Nat) : Int) ((Qtx.2 : Nat) : Int) ((Qst.2 : Nat) : Int) Qcp.2 0 0 0 0 0).x [] [] [])
 case false =>
  have HRF : Hid (RB (w90.setRow R (rcs rz)) R rz) := Lib.hid (HQ90.out.res.set _)
  have HG : Hid (GivesXr W (decX Bs) (.returned (.tuple #[.agg zr, .int .i64 8])) (w90.setRow R zr)) := Lib.hid (by
   have hp : decX Bs = (8, noX) := by
    rw [HDY.out, ← HXX.out, if_neg (by rw [hg]; decide)]
   rw [hp]
   exact ⟨rz, [], [], [], rfl, rfl, rz_m _, below_setRow HQ90.out.below HQ90.out.base zr, nw_rz _⟩)
  go_wp2_with ((with_reducible refine wpList_store_rc rz HQ90.out.res ?_ ?_ ?_); rfl; rfl)
  (try simp only [Exit.inBlock, Exit.then])
  refine bodyPost_ret (v := .tuple #[.agg zr, .int .i64 8]) ?_ rfl HG.out
  exact results_rc rfl _ _ R rz _ rfl rfl HRF.out
 have HRF : Hid (RB (w90.setRow R (rcs (rm 2 ((Qsg.2 : Nat) : Int) ((Qtx.2 : Nat) : Int) ((Qst.2 : Nat) : Int) Qcp.2 0 0 0 0 0))) R (rm 2 ((Qsg.2 : Nat) : Int) ((Qtx.2 : Nat) : Int) ((Qst.2 : Nat) : Int) Qcp.2 0 0 0 0 0)) := Lib.hid (HQ90.out.res.set _)
 have HG : Hid (GivesXr W (decX Bs) (.returned (.tuple #[.agg (rcs (rm 2 ((Qsg.2 : Nat) : Int) ((Qtx.2 : Nat) : Int) ((Qst.2 : Nat) : Int) Qcp.2 0 0 0 0 0)), .int .i64 0])) (w90.setRow R (rcs (rm 2 ((Qsg.2 : Nat) : Int) ((Qtx.2 : Nat) : Int) ((Qst.2 : Nat) : Int) Qcp.2 0 0 0 0 0)))) := Lib.hid (by
  have hp : decX Bs = (0, (rm 2 ((Qsg.2 : Nat) : Int) ((Qtx.2 : Nat) : Int) ((Qst.2 : Nat) : Int) Qcp.2 0 0 0 0 0).x [] [] []) := by rw [HDY.out, ← HXX.out, if_pos hg]
  rw [hp]
  exact ⟨(rm 2 ((Qsg.2 : Nat) : Int) ((Qtx.2 : Nat) : Int) ((Qst.2 : Nat) : Int) Qcp.2 0 0 0 0 0), [], [], [], rfl, rfl, rm_lists _ _ _ _ _ _ _ _ _ _ _, below_setRow HQ90.out.below HQ90.out.base (rcs (rm 2 ((Qsg.2 : Nat) : Int) ((Qtx.2 : Nat) : Int) ((Qst.2 : Nat) : Int) Qcp.2 0 0 0 0 0)), nw_no _ rfl rfl rfl⟩)
 clear hg
 go_wp2_with (first | ((with_reducible refine wpList_load_rc HQ90.out.x ?_ ?_); rfl) | ((with_reducible refine wpList_store_rc (rm 2 ((Qsg.2 : Nat) : Int) ((Qtx.2 : Nat) : Int) ((Qst.2 : Nat) : Int) Qcp.2 0 0 0 0 0) HQ90.out.res ?_ ?_ ?_); rfl; rfl))
 (try simp only [Exit.inBlock, Exit.then])
 refine bodyPost_ret (v := .tuple #[.agg (rcs (rm 2 ((Qsg.2 : Nat) : Int) ((Qtx.2 : Nat) : Int) ((Qst.2 : Nat) : Int) Qcp.2 0 0 0 0 0)), .int .i64 0]) ?_ rfl HG.out
 exact results_rc rfl _ _ R (rm 2 ((Qsg.2 : Nat) : Int) ((Qtx.2 : Nat) : Int) ((Qst.2 : Nat) : Int) Qcp.2 0 0 0 0 0) _ rfl rfl HRF.out
set_option maxHeartbeats 16000000 in
theorem rrec_dec3 (p : Option Addr) (n c : Nat) (Bs : List Nat) (W : World) (hw : Words W) (hS : Sl W p n c Bs) (hcm : c ≤ maxLen) (hk : (((numR ((0, Bs) : St) 1).2 : Nat) : Int) = 3) : Calls Tryz.prog 50 #[.slice p n c] W (GivesXr W (decX Bs)) := by
 obtain ⟨R, w00, w0, hR, hw00, hs00, hx00, hw0, hQ0⟩ := rrd_start p n c Bs W hS hcm
 have HW00 := Lib.hid hw00
 have HS00 := Lib.hid hs00
 have HX00 := Lib.hid hx00
 have HW0 := Lib.hid hw0
 have HQ0 := Lib.hid hQ0
 have HRE := Lib.hid hR
 have HWD := Lib.hid hw
 have HBY : Hid (∀ y ∈ Bs, y < 256) := Lib.hid hS.lt
 clear hw00 hs00 hx00 hw0 hQ0 hR hw hS hcm
 obtain ⟨R0, hR0⟩ : ∃ Q, numR ((0, Bs) : St) 1 = Q := ⟨_, rfl⟩
 have hn := pgnum_any HQ0.out.z 1 (by omega)
 have hf := byte_lt HQ0.out.z
 have hz0 := err_0 (Bs := Bs) (by rw [hk]; rfl)
 rw [hR0] at hz0
 have HZ0 := Lib.hid hz0
 clear hz0
 rw [hR0] at hn hf hk
 have HR0 := Lib.hid hR0
 have hx0 : IntKind.u8.wrap ((R0.2 : Nat) : Int) = (R0.2 : Nat) := u8_keep hf
 rw [hk] at hn hx0
 have HKK := Lib.hid hk
 clear hf hR0 hk
 go_enter Tryz.func50, Tryz.ntmps50
 go_upto_region 2 with (fail)
 rw [HW00.out, HRE.out]
 go_upto_region 3 with ((try rw [HS00.out]); (with_reducible refine wpList_store_rc rz HX00.out ?_ ?_ ?_); rfl; rfl; rw [HW0.out])
 go_wp2_with fail
 refine hn.mono ?_
 rintro e y0 ⟨rfl, hz, hc⟩
 have HQb := Lib.hid (HQ0.out.low hz hc)
 clear hz hc hn
 obtain ⟨cy, cf⟩ := HQb.out.cx (j := 0) (v := .int .u8 0) rfl
 go_upto_region 4 with (fail)
 clear cy cf hx0
 have hq := HQb.out.put 0 (.int .u8 3) (rm 3 0 0 0 false 0 0 0 0 0) rfl
 generalize y0.setCell ⟨R + 2, 0, none⟩ (.int .u8 3) = w1 at *
 have HQ1 := Lib.hid hq
 clear hq HQb HQ0 HW00 HS00 HX00 HW0
 have x1 := HQ1.out.z.err
 rw [HZ0.out] at x1
 have c0 := (HQ1.out.cx (j := 0) (v := .int .u8 3) rfl).1
 go_wp2_with fail
 clear x1
 have hn := pgnum_any HQ1.out.z 4 (by omega)
 obtain ⟨Qtx, hQtx⟩ : ∃ Q, numR R0.1 4 = Q := ⟨_, rfl⟩
 have hf := num4_lt HQ1.out.z
 rw [hQtx] at hn hf
 have hxtx : IntKind.u32.wrap ((Qtx.2 : Nat) : Int) = (Qtx.2 : Nat) := u32_keep hf
 clear hf
 have HQtx := Lib.hid hQtx
 clear hQtx
 refine hn.mono ?_
 rintro e y2 ⟨rfl, hz, hc⟩
 have HQb := Lib.hid (HQ1.out.low hz hc)
 clear hz hc hn HQ1 c0
 obtain ⟨cy, cf⟩ := HQb.out.cx (j := 2) (v := .int .u32 0) rfl
 go_upto_region 10 with (fail)
 clear cy cf hxtx
 have hq := HQb.out.put 2 (.int .u32 ((Qtx.2 : Nat) : Int)) (rm 3 0 ((Qtx.2 : Nat) : Int) 0 false 0 0 0 0 0) rfl
 generalize y2.setCell ⟨R + 2, 2, none⟩ (.int .u32 ((Qtx.2 : Nat) : Int)) = w2 at *
 have HQ2 := Lib.hid hq
 clear hq HQb
 have c0 := (HQ2.out.cx (j := 0) (v := .int .u8 3) rfl).1
 go_wp2_with fail
 have hn := pgnum_any HQ2.out.z 1 (by omega)
 obtain ⟨Qka, hQka⟩ : ∃ Q, numR Qtx.1 1 = Q := ⟨_, rfl⟩
 have hf := byte_lt HQ2.out.z
 rw [hQka] at hn hf
 have hxka : IntKind.u8.wrap ((Qka.2 : Nat) : Int) = (Qka.2 : Nat) := u8_keep hf
 clear hf
 have HQka := Lib.hid hQka
 clear hQka
 refine hn.mono ?_
 rintro e y3 ⟨rfl, hz, hc⟩
 have HQb := Lib.hid (HQ2.out.low hz hc)
 clear hz hc hn HQ2 c0
 obtain ⟨cy, cf⟩ := HQb.out.cx (j := 5) (v := .int .u8 0) rfl
 go_upto_region 15 with (fail)
 clear cy cf hxka
 have hq := HQb.out.put 5 (.int .u8 ((Qka.2 : Nat) : Int)) (rm 3 0 ((Qtx.2 : Nat) : Int) 0 false ((Qka.2 : Nat) : Int) 0 0 0 0) rfl
 generalize y3.setCell ⟨R + 2, 5, none⟩ (.int .u8 ((Qka.2 : Nat) : Int)) = w3 at *
 have HQ3 := Lib.hid hq
 clear hq HQb
 have c0 := (HQ3.out.cx (j := 0) (v := .int .u8 3) rfl).1
 go_wp2_with fail
 have hn := pgnum_any HQ3.out.z 1 (by omega)
 obtain ⟨Qkb, hQkb⟩ : ∃ Q, numR Qka.1 1 = Q := ⟨_, rfl⟩
 have hf := byte_lt HQ3.out.z
 rw [hQkb] at hn hf
 have hxkb : IntKind.u8.wrap ((Qkb.2 : Nat) : Int) = (Qkb.2 : Nat) := u8_keep hf
 clear hf
 have HQkb := Lib.hid hQkb
 clear hQkb
 refine hn.mono ?_
 rintro e y4 ⟨rfl, hz, hc⟩
 have HQb := Lib.hid (HQ3.out.low hz hc)
 clear hz hc hn HQ3 c0
 obtain ⟨cy, cf⟩ := HQb.out.cx (j := 6) (v := .int .u8 0) rfl
 go_upto_region 16 with (fail)
 clear cy cf hxkb
 have hq := HQb.out.put 6 (.int .u8 ((Qkb.2 : Nat) : Int)) (rm 3 0 ((Qtx.2 : Nat) : Int) 0 false ((Qka.2 : Nat) : Int) ((Qkb.2 : Nat) : Int) 0 0 0) rfl
 generalize y4.setCell ⟨R + 2, 6, none⟩ (.int .u8 ((Qkb.2 : Nat) : Int)) = w4 at *
 have HQ4 := Lib.hid hq
 clear hq HQb
 have c0 := (HQ4.out.cx (j := 0) (v := .int .u8 3) rfl).1
 go_wp2_with fail
 have hn := pgnum_any HQ4.out.z 1 (by omega)
 obtain ⟨Qkc, hQkc⟩ : ∃ Q, numR Qkb.1 1 = Q := ⟨_, rfl⟩
 have hf := byte_lt HQ4.out.z
 rw [hQkc] at hn hf
 have hxkc : IntKind.u8.wrap ((Qkc.2 : Nat) : Int) = (Qkc.2 : Nat) := u8_keep hf
 clear hf
 have HQkc := Lib.hid hQkc
 clear hQkc
 refine hn.mono ?_
 rintro e y5 ⟨rfl, hz, hc⟩
 have HQb := Lib.hid (HQ4.out.low hz hc)
 clear hz hc hn HQ4 c0
 obtain ⟨cy, cf⟩ := HQb.out.cx (j := 7) (v := .int .u8 0) rfl
 go_upto_region 17 with (fail)
 clear cy cf hxkc
 have hq := HQb.out.put 7 (.int .u8 ((Qkc.2 : Nat) : Int)) (rm 3 0 ((Qtx.2 : Nat) : Int) 0 false ((Qka.2 : Nat) : Int) ((Qkb.2 : Nat) : Int) ((Qkc.2 : Nat) : Int) 0 0) rfl
 generalize y5.setCell ⟨R + 2, 7, none⟩ (.int .u8 ((Qkc.2 : Nat) : Int)) = w5 at *
 have HQ5 := Lib.hid hq
 clear hq HQb
 have c0 := (HQ5.out.cx (j := 0) (v := .int .u8 3) rfl).1
 go_wp2_with fail
 have hn := pgint_any HQ5.out.z
 obtain ⟨Qd, hQd⟩ : ∃ Q, numR Qkc.1 8 = Q := ⟨_, rfl⟩
 have hf := num8_lt HQ5.out.z
 rw [hQd] at hn hf
 rw [sgn_wrap _ hf] at hn
 clear hf
 have HQd := Lib.hid hQd
 clear hQd
 refine hn.mono ?_
 rintro e y6 ⟨rfl, hz, hc⟩
 have HQb := Lib.hid (HQ5.out.low hz hc)
 clear hz hc hn HQ5 c0
 obtain ⟨cy, cf⟩ := HQb.out.cx (j := 8) (v := .int .i64 0) rfl
 go_upto_region 18 with (fail)
 clear cy cf
 have hq := HQb.out.put 8 (.int .i64 (sgn Qd.2)) (rm 3 0 ((Qtx.2 : Nat) : Int) 0 false ((Qka.2 : Nat) : Int) ((Qkb.2 : Nat) : Int) ((Qkc.2 : Nat) : Int) (sgn Qd.2) 0) rfl
 generalize y6.setCell ⟨R + 2, 8, none⟩ (.int .i64 (sgn Qd.2)) = w6 at *
 have HQ6 := Lib.hid hq
 clear hq HQb
 have c0 := (HQ6.out.cx (j := 0) (v := .int .u8 3) rfl).1
 obtain ⟨DD, hDD⟩ : ∃ D : Rdd, D = ⟨Qd.1, { noX with k := 3, sg := 0, tx := ((Qtx.2 : Nat) : Int), st := 0, cp := false, key := (((Qka.2 : Nat) : Int), ((Qkb.2 : Nat) : Int), ((Qkc.2 : Nat) : Int)), d := (sgn Qd.2), o := 0 }, 0⟩ := ⟨_, rfl⟩
 have HRX : Hid (rdX 3 R0.1 = DD) := Lib.hid (by rw [hDD]; simp [rdX, rd3, keyR, HQtx.out, HQka.out, HQkb.out, HQkc.out, HQd.out, noX])
 have HED : Hid (errD DD = Qd.1.1) := Lib.hid (by rw [hDD]; rfl)
 have HST : Hid (DD.st.2 = Qd.1.2) := Lib.hid (by rw [hDD])
 have HXX : Hid ((rm 3 0 ((Qtx.2 : Nat) : Int) 0 false ((Qka.2 : Nat) : Int) ((Qkb.2 : Nat) : Int) ((Qkc.2 : Nat) : Int) (sgn Qd.2) 0).x [] [] [] = DD.rx) := Lib.hid (by rw [hDD]; rfl)
 clear hDD
 have HKO : Hid (kOk 3 = true) := Lib.hid rfl
 have HDX := Lib.hid (decX_ok2 HR0.out HKK.out HKO.out HRX.out)
 have x1 := HQ6.out.z.err
 by_cases he9 : Qd.1.1 = 0
 case neg =>
  have d9 : (Qd.1.1 != 0) = true := by simpa using he9
  have hq9 : Hid (Qd.1.1 ≠ 0) := Lib.hid he9
  obtain ⟨pr, nr, cr, hbx, hpr⟩ := HQ6.out.z.box
  have HQd := Lib.hid (HQ6.out.later (show Below w6.heap.size w6 w6.drew from (Below.refl _ _).drew))
  have HBX : Hid (w6.drew.heap[R + 1]? = some (.cells #[.slice pr nr cr, .int .i64 Qd.1.1] 162 (0, 0))) := Lib.hid hbx
  clear he9 hbx hpr
  have HRF : Hid (RB (w6.drew.setRow R (rcs rz)) R rz) := Lib.hid (HQd.out.res.set _)
  have HG : Hid (GivesXr W (decX Bs) (.returned (.tuple #[.agg zr, .int .i64 Qd.1.1])) (w6.drew.setRow R zr)) := Lib.hid (by
   have hp : decX Bs = (Qd.1.1, noX) := by
    rw [HDX.out, if_pos (by rw [rdE_err (by rw [HED.out]; exact hq9.out), HED.out]; exact hq9.out), rdE_err (by rw [HED.out]; exact hq9.out), HED.out]
   rw [hp]
   exact ⟨rz, [], [], [], rfl, rfl, rz_m _, below_setRow HQd.out.below HQd.out.base zr, nw_rz _⟩)
  go_wp2_with fail
  refine wp_region_held_drew (S := fun w' => Hid (w'.heap[R + 1]? = some (.cells #[.slice pr nr cr, .int .i64 Qd.1.1] 162 (0, 0)))) (by kernel_rfl) HBX (fun hHeld => ?_)
  refine wpAnyH_take (i := 0) (oi := ⟨some 113, _, _, _, _, _⟩) (v := .agg zr) rfl (by kernel_rfl) (by kernel_rfl) (by kernel_rfl) (fun _ _ _ h => h) (Or.inl ⟨by rfl, fun w' hw' => ?_⟩) (by assumption) ?_
  · clear hHeld
    go_simp
  simp only [Act.put, List.setIfInBounds_toArray, List.set_cons_zero, List.set_cons_succ]
  refine wpAnyH_take (i := 1) (oi := ⟨some 114, _, _, _, _, _⟩) (v := .pointer (some ⟨R + 1, 0, none⟩)) rfl (by kernel_rfl) (by kernel_rfl) (by kernel_rfl) (fun _ _ _ h => h) (Or.inl ⟨by rfl, fun w' hw' => ?_⟩) (by assumption) ?_
  · clear hHeld
    go_simp
  simp only [Act.put, List.setIfInBounds_toArray, List.set_cons_zero, List.set_cons_succ]
  refine wpAnyH_take (i := 2) (oi := ⟨some 115, _, _, _, _, _⟩) (v := .pointer (some ⟨R + 1, 0, none⟩)) rfl (by kernel_rfl) (by kernel_rfl) (by kernel_rfl) (fun _ _ _ h => h) (Or.inl ⟨by rfl, fun w' hw' => ?_⟩) (by assumption) ?_
  · clear hHeld
    go_simp
  simp only [Act.put, List.setIfInBounds_toArray, List.set_cons_zero, List.set_cons_succ]
  refine wpAnyH_take (i := 3) (oi := ⟨some 116, _, _, _, _, _⟩) (v := .pointer (some ⟨R + 1, 1, none⟩)) rfl (by kernel_rfl) (by kernel_rfl) (by kernel_rfl) (fun _ _ _ h => h) (Or.inl ⟨by rfl, fun w' hw' => ?_⟩) (by assumption) ?_
  · clear hHeld
    go_simp
  simp only [Act.put, List.setIfInBounds_toArray, List.set_cons_zero, List.set_cons_succ]
  refine wpAnyH_take (i := 4) (oi := ⟨some 117, _, _, _, _, _⟩) (v := .int .i64 Qd.1.1) rfl (by kernel_rfl) (by kernel_rfl) (by kernel_rfl) (fun _ _ _ h => h) (Or.inl ⟨by rfl, fun w' hw' => ?_⟩) (by assumption) ?_
  · have g1 := block_cell (j := 1) (v := .int .i64 Qd.1.1) hw'.out rfl
    clear hHeld
    go_simp
  simp only [Act.put, List.setIfInBounds_toArray, List.set_cons_zero, List.set_cons_succ]
  generalize w6.drew = Wd at *
  refine wpAnyH_ready (rs := [5]) (by kernel_rfl) (by simp) (AllReadyH.cons rfl (fun K hK => ?_) AllReadyH.nil)
  rw [if_pos (by rfl)]
  refine wp_store_row 51 _ _ rfl R zr rfl rfl 51 _ HQd.out.res (by kernel_rfl) rfl (rcs_one rz) ?_
  have HB2 : Hid ((Wd.setRow R zr).heap[R + 1]? = some (.cells #[.slice pr nr cr, .int .i64 Qd.1.1] 162 (0, 0))) := Lib.hid ((setRow_other _ _ _ _ (by omega)).trans HBX.out)
  refine hK.out _ _ HB2 (fun hHeld2 => ?_)
  clear hK K hHeld
  have hHeld := hHeld2
  clear hHeld2
  (try simp only [Act.put, List.setIfInBounds_toArray, List.set_cons_zero, List.set_cons_succ])
  refine wpAnyH_take (i := 6) (oi := ⟨some 3, _, _, _, _, _⟩) (v := .int .i64 Qd.1.1) rfl (by kernel_rfl) (by kernel_rfl) (by kernel_rfl) (fun _ _ _ h => h) (Or.inl ⟨by rfl, fun w' hw' => ?_⟩) (by assumption) ?_
  · clear hHeld
    go_simp
  simp only [Act.put, List.setIfInBounds_toArray, List.set_cons_zero, List.set_cons_succ]
  refine wpAnyH_done (by kernel_rfl) ?_ _
  clear hHeld
  (try simp only [Exit.inBlock, Exit.then])
  go_wp2_with fail
  refine bodyPost_ret (v := .tuple #[.agg zr, .int .i64 Qd.1.1]) ?_ rfl HG.out
  exact results_rc rfl _ _ R rz _ rfl rfl HRF.out
 have d9 : (Qd.1.1 != 0) = false := by simp [he9]
 obtain ⟨pr, nr, cr, hbx, hpr⟩ := HQ6.out.z.box
 have hln := (hpr he9).1.len
 rw [he9] at hbx
 have HLN := Lib.hid hln
 have HZ9 : Hid (errD DD = 0) := Lib.hid (HED.out.trans he9)
 have b0 : w6.cell? ⟨R + 1, 0, none⟩ = some (.slice pr nr cr) := block_cell hbx rfl
 have b1 : w6.cell? ⟨R + 1, 1, none⟩ = some (.int .i64 0) := block_cell hbx rfl
 clear hbx hpr hln x1
 rw [he9] at d9
 clear he9
 by_cases hnr : 0 < nr
 case pos =>
  have hd : decide ((0 : Int) < (nr : Int)) = true := decide_eq_true (by omega)
  have hdn : decide (0 < nr) = true := decide_eq_true hnr
  have HNR := Lib.hid hnr
  clear hnr
  have HRF : Hid (RB (w6.setRow R (rcs rz)) R rz) := Lib.hid (HQ6.out.res.set _)
  have HG : Hid (GivesXr W (decX Bs) (.returned (.tuple #[.agg zr, .int .i64 8])) (w6.setRow R zr)) := Lib.hid (by
   have hp : decX Bs = (8, noX) := by
    have h8 := rdE_long HZ9.out (by rw [HST.out, HLN.out]; exact HNR.out)
    rw [HDX.out, if_pos (by rw [h8]; decide), h8]
   rw [hp]
   exact ⟨rz, [], [], [], rfl, rfl, rz_m _, below_setRow HQ6.out.below HQ6.out.base zr, nw_rz _⟩)
  go_wp2_with ((with_reducible refine wpList_store_rc rz HQ6.out.res ?_ ?_ ?_); rfl; rfl)
  (try simp only [Exit.inBlock, Exit.then])
  refine bodyPost_ret (v := .tuple #[.agg zr, .int .i64 8]) ?_ rfl HG.out
  exact results_rc rfl _ _ R rz _ rfl rfl HRF.out
 have hd : decide ((0 : Int) < (nr : Int)) = false := decide_eq_false (by omega)
 have hdn : decide (0 < nr) = false := decide_eq_false hnr
 have HNR := Lib.hid hnr
 clear hnr
 have h0 : rdE DD = 0 := rdE_end HZ9.out (by rw [HST.out, HLN.out]; exact HNR.out)
 have HDY : Hid (decX Bs = if goodX DD.rx = true then (0, DD.rx) else (8, noX)) := Lib.hid (by rw [HDX.out, if_neg (fun h => h h0)])
 have HMM := Lib.hid ((rm_lists 3 0 ((Qtx.2 : Nat) : Int) 0 false ((Qka.2 : Nat) : Int) ((Qkb.2 : Nat) : Int) ((Qkc.2 : Nat) : Int) (sgn Qd.2) 0 w6))
 have hokk := rdX_ok (k := 3) HKO.out (S := R0.1) (by rw [← HR0.out]; exact numR_bytes (S := (0, Bs)) HBY.out 1)
 rw [HRX.out, ← HXX.out] at hokk
 obtain ⟨hok, hs1, hs2, hs3⟩ := hokk
 have hgd := rrec_good (rm 3 0 ((Qtx.2 : Nat) : Int) 0 false ((Qka.2 : Nat) : Int) ((Qkb.2 : Nat) : Int) ((Qkc.2 : Nat) : Int) (sgn Qd.2) 0) [] [] [] w6 HMM.out hok (of_lists3 HMM.out ⟨hs1, hs2, hs3⟩)
 clear h0 hok hs1 hs2 hs3
 go_wp2_with (first | ((with_reducible refine wpList_load_rcg HQ6.out.x ?_ ?_ ?_); rfl; rfl))
 refine hgd.mono ?_
 rintro e w90 ⟨rfl, hb90⟩
 have HQ90 := Lib.hid (HQ6.out.later hb90)
 have HM90 := Lib.hid (HMM.out.later hb90)
 clear hb90 hgd b0 b1
 cases hg : goodX ((rm 3 0 ((Qtx.2 : Nat) : Int) 0 false ((Qka.2 : Nat) : Int) ((Qkb.2 : Nat) : Int) ((Qkc.2 : Nat) : Int) (sgn Qd.2) 0).x [] [] [])
 case false =>
  have HRF : Hid (RB (w90.setRow R (rcs rz)) R rz) := Lib.hid (HQ90.out.res.set _)
  have HG : Hid (GivesXr W (decX Bs) (.returned (.tuple #[.agg zr, .int .i64 8])) (w90.setRow R zr)) := Lib.hid (by
   have hp : decX Bs = (8, noX) := by
    rw [HDY.out, ← HXX.out, if_neg (by rw [hg]; decide)]
   rw [hp]
   exact ⟨rz, [], [], [], rfl, rfl, rz_m _, below_setRow HQ90.out.below HQ90.out.base zr, nw_rz _⟩)
  go_wp2_with ((with_reducible refine wpList_store_rc rz HQ90.out.res ?_ ?_ ?_); rfl; rfl)
  (try simp only [Exit.inBlock, Exit.then])
  refine bodyPost_ret (v := .tuple #[.agg zr, .int .i64 8]) ?_ rfl HG.out
  exact results_rc rfl _ _ R rz _ rfl rfl HRF.out
 have HRF : Hid (RB (w90.setRow R (rcs (rm 3 0 ((Qtx.2 : Nat) : Int) 0 false ((Qka.2 : Nat) : Int) ((Qkb.2 : Nat) : Int) ((Qkc.2 : Nat) : Int) (sgn Qd.2) 0))) R (rm 3 0 ((Qtx.2 : Nat) : Int) 0 false ((Qka.2 : Nat) : Int) ((Qkb.2 : Nat) : Int) ((Qkc.2 : Nat) : Int) (sgn Qd.2) 0)) := Lib.hid (HQ90.out.res.set _)
 have HG : Hid (GivesXr W (decX Bs) (.returned (.tuple #[.agg (rcs (rm 3 0 ((Qtx.2 : Nat) : Int) 0 false ((Qka.2 : Nat) : Int) ((Qkb.2 : Nat) : Int) ((Qkc.2 : Nat) : Int) (sgn Qd.2) 0)), .int .i64 0])) (w90.setRow R (rcs (rm 3 0 ((Qtx.2 : Nat) : Int) 0 false ((Qka.2 : Nat) : Int) ((Qkb.2 : Nat) : Int) ((Qkc.2 : Nat) : Int) (sgn Qd.2) 0)))) := Lib.hid (by
  have hp : decX Bs = (0, (rm 3 0 ((Qtx.2 : Nat) : Int) 0 false ((Qka.2 : Nat) : Int) ((Qkb.2 : Nat) : Int) ((Qkc.2 : Nat) : Int) (sgn Qd.2) 0).x [] [] []) := by rw [HDY.out, ← HXX.out, if_pos hg]
  rw [hp]
  exact ⟨(rm 3 0 ((Qtx.2 : Nat) : Int) 0 false ((Qka.2 : Nat) : Int) ((Qkb.2 : Nat) : Int) ((Qkc.2 : Nat) : Int) (sgn Qd.2) 0), [], [], [], rfl, rfl, rm_lists _ _ _ _ _ _ _ _ _ _ _, below_setRow HQ90.out.below HQ90.out.base (rcs (rm 3 0 ((Qtx.2 : Nat) : Int) 0 false ((Qka.2 : Nat) : Int) ((Qkb.2 : Nat) : Int) ((Qkc.2 : Nat) : Int) (sgn Qd.2) 0)), nw_no _ rfl rfl rfl⟩)
 clear hg
 go_wp2_with (first | ((with_reducible refine wpList_load_rc HQ90.out.x ?_ ?_); rfl) | ((with_reducible refine wpList_store_rc (rm 3 0 ((Qtx.2 : Nat) : Int) 0 false ((Qka.2 : Nat) : Int) ((Qkb.2 : Nat) : Int) ((Qkc.2 : Nat) : Int) (sgn Qd.2) 0) HQ90.out.res ?_ ?_ ?_); rfl; rfl))
 (try simp only [Exit.inBlock, Exit.then])
 refine bodyPost_ret (v := .tuple #[.agg (rcs (rm 3 0 ((Qtx.2 : Nat) : Int) 0 false ((Qka.2 : Nat) : Int) ((Qkb.2 : Nat) : Int) ((Qkc.2 : Nat) : Int) (sgn Qd.2) 0)), .int .i64 0]) ?_ rfl HG.out
 exact results_rc rfl _ _ R (rm 3 0 ((Qtx.2 : Nat) : Int) 0 false ((Qka.2 : Nat) : Int) ((Qkb.2 : Nat) : Int) ((Qkc.2 : Nat) : Int) (sgn Qd.2) 0) _ rfl rfl HRF.out
end Go.Proofs.YtfdgnniicjdjdaaGreatDoor
