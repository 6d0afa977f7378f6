import Derived.Test.YtfdgnniicjdjdaaGreatDoorPC37
namespace Go.Proofs.YtfdgnniicjdjdaaGreatDoor
open Go.RowKit Go.ChangeShapes Go.WideShapes
set_option linter.unusedVariables false
set_option linter.unusedSimpArgs false
set_option maxRecDepth 10000
def rm (k sg tx st : Int) (cp : Bool) (ka kb kc d o : Int) : Rv := ⟨k, sg, tx, st, cp, ka, kb, kc, d, o, 0, 0, 0, none, 0, 0, none, 0, 0, none, 0, 0, 0, 0, 0, 0⟩
theorem rm_lists (k sg tx st : Int) (cp : Bool) (ka kb kc d o : Int) (w : World) : RvM w (rm k sg tx st cp ka kb kc d o) [] [] [] := no_lists ⟨rfl, rfl, rfl, rfl, rfl, rfl, rfl, rfl, rfl⟩ w
theorem u8_keep {x : Nat} (h : x < 256) : IntKind.u8.wrap ((x : Nat) : Int) = (x : Int) := by simp [IntKind.wrap, IntKind.bits, IntKind.signed]; omega
theorem u32_keep {x : Nat} (h : x < 4294967296) : IntKind.u32.wrap ((x : Nat) : Int) = (x : Int) := by simp [IntKind.wrap, IntKind.bits, IntKind.signed]; omega
theorem fit_1 {S : St} (h : ∀ y ∈ S.2, y < 256) : (numR S 1).2 < 256 := numR_fit h (n := 1) (by omega) (by omega)
theorem fit_4 {S : St} (h : ∀ y ∈ S.2, y < 256) : (numR S 4).2 < 4294967296 := numR_fit h (n := 4) (by omega) (by omega)
theorem put_ky (r : Rv) (a b c : Int) : putAt (rcs r) 5 [.int .u8 a, .int .u8 b, .int .u8 c] = rcs { r with ka := a, kb := b, kc := c } := by simp [putAt, rcs]
theorem pgm_chg {S : Nat → Prop} {w w' : World} {lp : Option Addr} {ln lcp : Nat} {L : List Ln} {tp : Option Addr} {tn tcp : Nat} {T : List Tk} {wp : Option Addr} {wn wcp : Nat} {M : List Ln} (h : PgM w lp ln lcp L tp tn tcp T wp wn wcp M) (hc : Chg S w w') (h1 : ∀ a, lp = some a → ¬ S a.block) (h2 : ∀ a, tp = some a → ¬ S a.block) (h3 : ∀ a, wp = some a → ¬ S a.block) : PgM w' lp ln lcp L tp tn tcp T wp wn wcp M :=
 ⟨h.l.turn hc.size fun _ a ha hlt => hc.block a.block hlt (h1 a ha), h.t.turn hc.size fun _ a ha hlt => hc.block a.block hlt (h2 a ha), h.o.turn hc.size fun _ a ha hlt => hc.block a.block hlt (h3 a ha)⟩
theorem wpList_store_ky (a b c : Int) {ops : Array Oper} {rest : List Oper} {ac : Act} {w : World} {Q : Exit → Act → World → Prop} {dst : Option Tmp} {x y : Operand} {ty : TypeId} {pos : String} {after : Array Edge} {B : Nat} {r : Rv} (hB : RB w B r)
 (hx : ac.eval x = .pointer (some ⟨B, 5, none⟩)) (hy : ac.eval y = .agg #[.int .u8 a, .int .u8 b, .int .u8 c])
 (h : wpList Tryz.prog ops Q rest (ac.put dst undef) (w.setRow B (rcs { r with ka := a, kb := b, kc := c }))) : wpList Tryz.prog ops Q (Oper.mk dst (.store 45 x y) ty pos after none :: rest) ac w :=
 wpList_store_part rfl 45 x y rfl B 5 #[.int .u8 a, .int .u8 b, .int .u8 c] hx hy 51 (rcs r) hB (by kernel_rfl) (by show 5 + 3 ≤ 20; omega) (by simp [Value.oneCell']) (by rw [show (#[.int .u8 a, .int .u8 b, .int .u8 c] : Array Value).toList = [.int .u8 a, .int .u8 b, .int .u8 c] from rfl, put_ky]; exact h)
set_option maxHeartbeats 8000000 in
theorem rec_read1 (W : World) (N B : Nat) (Bs : List Nat) (hz : Zw W N B (0, Bs)) (hw : ∀ w, Chg (fun k => k = B) W w → Words w) (hk : (((numR ((0, Bs) : St) 1).2 : Nat) : Int) = 1) : Calls Tryz.prog 92 #[.pointer (some ⟨B, 0, none⟩)] W (GivesRd W B Bs) := by
 have HWD := Lib.hid hw
 clear hw
 obtain ⟨R, hR⟩ : ∃ R, W.heap.size = R := ⟨_, rfl⟩
 obtain ⟨W0, hW0, hr0, hb0⟩ : ∃ W0, W.alloc (.cells zr 51) = W0 ∧ RB W0 R rz ∧ Below W.heap.size W W0 := ⟨_, rfl, by rw [← hR]; exact alloc_block W _, (Below.refl _ _).alloc (Nat.le_refl _) _⟩
 have HZ0 := Lib.hid (hz.below hb0)
 have HRE := Lib.hid hR
 have HW0 := Lib.hid hW0
 have HR0b := Lib.hid hr0
 have HB0 := Lib.hid hb0
 have HNR : Hid (N ≤ R) := Lib.hid (by have := hz.size; omega)
 obtain ⟨R0, hR0⟩ : ∃ Q, numR ((0, Bs) : St) 1 = Q := ⟨_, rfl⟩
 have hn := zw_num HZ0.out 1
 have hf := fit_1 (S := (0, Bs)) HZ0.out.bytes
 rw [hR0] at hn hf hk
 have HR0 := Lib.hid hR0
 have hx0 : IntKind.u8.wrap ((R0.2 : Nat) : Int) = (R0.2 : Nat) := u8_keep hf
 rw [hk] at hn hx0
 have HKK := Lib.hid hk
 clear hR hW0 hr0 hb0 hR0 hf hz hk
 go_enter Tryz.func92, Tryz.ntmps92
 go_upto_region 1 with (fail)
 rw [HW0.out, HRE.out]
 go_wp2_with fail
 refine hn.mono ?_
 rintro e w1 ⟨rfl, hz1, hc1⟩
 obtain ⟨X, hX⟩ : ∃ X, w1.heap.size = X := ⟨_, rfl⟩
 have hRX : R < X := by have := block_lt HR0b.out; have := hc1.size; omega
 have hlow := HZ0.out.low
 have hNR := HNR.out
 have hres := HR0b.out.chg hc1 (by omega)
 have hch0 : Chg (fun k => k = B) W w1 := (Chg.of_below (S := fun k => k = B) HB0.out).trans hc1 fun _ _ e => e
 obtain ⟨w1a, hw1a, hxa, hba⟩ : ∃ w1a, w1.alloc (.cells zr 51) = w1a ∧ RB w1a X rz ∧ Below w1.heap.size w1 w1a := ⟨_, rfl, by rw [← hX]; exact alloc_block w1 _, (Below.refl _ _).alloc (Nat.le_refl _) _⟩
 have hQa : Qz W w1a N B R X R0.1 rz := ⟨hz1.below hba, hxa, hres.later hba, hch0.trans (Chg.of_below (S := fun k => k = B) hba) fun _ _ e => e, by omega, hRX, by have := HRE.out; omega⟩
 obtain ⟨w2, hw2, hQ2⟩ : ∃ w2, w1a.setRow X (rcs (rk 1)) = w2 ∧ Qz W w2 N B R X R0.1 (rk 1) := ⟨_, rfl, hQa.set _⟩
 have HXa := Lib.hid hxa
 have HW1a := Lib.hid hw1a
 have HW2 := Lib.hid hw2
 have HQ2 := Lib.hid hQ2
 have HXE := Lib.hid hX
 clear hz1 hc1 hX hRX hlow hNR hres hch0 hw1a hxa hba hQa hw2 hQ2 hn
 have c0 : w2.cell? ⟨X, 0, none⟩ = some (.int .u8 1) := block_cell HQ2.out.x rfl
 go_wp2_with ((try rw [HXE.out]); (try rw [HW1a.out]); (with_reducible refine wpList_store_rc (rk 1) HXa.out ?_ ?_ ?_); rfl; rfl; rw [HW2.out])
 have hpa := parts_any 1 w2
 unfold GivesPt at hpa
 rw [show ptc 1 = #[.bool true, .bool false, .bool false, .bool false, .bool false, .bool true] from rfl, show kOk 1 = true from rfl] at hpa
 refine hpa.mono ?_
 rintro e w3 ⟨rfl, h3⟩
 have HQ3 := Lib.hid (HQ2.out.later h3)
 clear h3 hpa c0 HQ2 hx0
 obtain ⟨Pb, hPb⟩ : ∃ n, w3.heap.size = n := ⟨_, rfl⟩
 obtain ⟨w4, hwn, hxn, hbn⟩ : ∃ w4, (w3.alloc (.cells pz 194)).setRow Pb #[.bool true, .bool false, .bool false, .bool false, .bool false, .bool true] = w4 ∧ w4.heap[Pb]? = some (.cells #[.bool true, .bool false, .bool false, .bool false, .bool false, .bool true] 194 (0, 0)) ∧ Below w3.heap.size w3 w4 := ⟨_, rfl, by rw [← hPb]; exact setRow_heap _ _ _ _ _ _ (alloc_block w3 _), below_setRow ((Below.refl _ _).alloc (Nat.le_refl _) _) (by omega) _⟩
 have hxz := alloc_block w3 (.cells pz 194)
 rw [hPb] at hxz
 have HQ4 : Hid (Qp W w4 N B R X Pb #[.bool true, .bool false, .bool false, .bool false, .bool false, .bool true] R0.1 (rk 1)) := Lib.hid ⟨HQ3.out.later hbn, hxn, by have := block_lt HQ3.out.x; omega⟩
 have HPZ := Lib.hid hxz
 have HWN := Lib.hid hwn
 have HNN := Lib.hid hPb
 have HS6 : Hid ((#[.bool true, .bool false, .bool false, .bool false, .bool false, .bool true] : Array Value).size = 6) := Lib.hid rfl
 have HA6 : Hid ((#[.bool true, .bool false, .bool false, .bool false, .bool false, .bool true] : Array Value).all (·.oneCell') = true) := Lib.hid (by simp [Value.oneCell'])
 clear hxz hxn hbn hwn hPb HQ3
 have p0 := HQ4.out.c (j := 0) (v := .bool true) rfl
 have p1 := HQ4.out.c (j := 1) (v := .bool false) rfl
 have p2 := HQ4.out.c (j := 2) (v := .bool false) rfl
 have p3 := HQ4.out.c (j := 3) (v := .bool false) rfl
 have p4 := HQ4.out.c (j := 4) (v := .bool false) rfl
 have p5 := HQ4.out.c (j := 5) (v := .bool true) rfl
 go_wp2_with ((try rw [HNN.out]); (with_reducible refine wpList_store_pt #[.bool true, .bool false, .bool false, .bool false, .bool false, .bool true] HS6.out HA6.out HPZ.out ?_ ?_ ?_); rfl; rfl; rw [HWN.out])
 have hn := zw_num HQ4.out.q.z 4
 obtain ⟨Qsg, hQsg⟩ : ∃ Q, numR R0.1 4 = Q := ⟨_, rfl⟩
 have hf := fit_4 HQ4.out.q.z.bytes
 rw [hQsg] at hn hf
 have hxsg : IntKind.u32.wrap ((Qsg.2 : Nat) : Int) = (Qsg.2 : Nat) := u32_keep hf
 clear hf
 have HQsg := Lib.hid hQsg
 clear hQsg
 refine hn.mono ?_
 rintro e y5 ⟨rfl, hz, hc⟩
 have HQb := Lib.hid (HQ4.out.low hz hc)
 clear hz hc hn HQ4
 clear p0 p1 p2 p3 p4 p5
 obtain ⟨cy, cf⟩ := HQb.out.q.cx (j := 1) (v := .int .u32 0) rfl
 go_upto_region 7 with (fail)
 clear cy cf hxsg
 have hq := HQb.out.put 1 (.int .u32 ((Qsg.2 : Nat) : Int)) (rm 1 ((Qsg.2 : Nat) : Int) 0 0 false 0 0 0 0 0) rfl
 generalize y5.setCell ⟨X, 1, none⟩ (.int .u32 ((Qsg.2 : Nat) : Int)) = w5 at *
 have HQ5 := Lib.hid hq
 clear hq HQb
 have p0 := HQ5.out.c (j := 0) (v := .bool true) rfl
 have p1 := HQ5.out.c (j := 1) (v := .bool false) rfl
 have p2 := HQ5.out.c (j := 2) (v := .bool false) rfl
 have p3 := HQ5.out.c (j := 3) (v := .bool false) rfl
 have p4 := HQ5.out.c (j := 4) (v := .bool false) rfl
 have p5 := HQ5.out.c (j := 5) (v := .bool true) rfl
 have hn := zw_bytes HQ5.out.q.z 512
 have hmost := bytesR_most Qsg.1
 have hblt := bytesR_lt HQ5.out.q.z.bytes 512
 obtain ⟨Qb, hQb⟩ : ∃ Q, bytesR Qsg.1 512 = Q := ⟨_, rfl⟩
 rw [hQb] at hn hmost hblt
 have HQb := Lib.hid hQb
 have HMO := Lib.hid hmost
 have HBL := Lib.hid hblt
 clear hQb hmost hblt
 go_wp2_with fail
 refine hn.mono ?_
 rintro e w6 ⟨pq, cq, rfl, hsq, hz, hc⟩
 have HQ6 := Lib.hid (HQ5.out.low hz hc)
 have HSQ := Lib.hid hsq
 clear hn hz hc hsq HQ5
 clear p0 p1 p2 p3 p4 p5
 obtain ⟨S2, Y⟩ := Qb
 dsimp only at HQ6 HSQ HMO HBL
 generalize hny : Y.length = ny at *
 have HNY := Lib.hid hny
 clear hny
 go_wp2_with fail
 refine (zw_err HQ6.out.q.z).mono ?_
 rintro e wz ⟨rfl, rfl⟩
 by_cases he : S2.1 = 0
 case neg =>
  have de : (S2.1 != 0) = true := by simpa using he
  have HNE : Hid (S2.1 ≠ 0) := Lib.hid he
  have HRD := Lib.hid (rd_of (D := ⟨S2, { noX with k := 1, sg := ((Qsg.2 : Nat) : Int) }, 0⟩) HR0.out HKK.out rfl (by
   rw [show rdX 1 R0.1 = rd1 R0.1 from rfl]
   unfold rd1
   rw [HQsg.out]
   dsimp only
   rw [HQb.out, if_neg he]))
  clear he
  have HRF : Hid (RB (w6.setRow R (rcs (rm 1 ((Qsg.2 : Nat) : Int) 0 0 false 0 0 0 0 0))) R (rm 1 ((Qsg.2 : Nat) : Int) 0 0 false 0 0 0 0 0)) := Lib.hid (HQ6.out.q.res.set _)
  have HG : Hid (GivesRd W B Bs (.returned (.tuple #[.agg (rcs (rm 1 ((Qsg.2 : Nat) : Int) 0 0 false 0 0 0 0 0)), .int .i64 S2.1])) (w6.setRow R (rcs (rm 1 ((Qsg.2 : Nat) : Int) 0 0 false 0 0 0 0 0)))) := Lib.hid (by
   have ho := HQ6.out.q.ord
   have hcc : Chg (fun k => k = B) W (w6.setRow R (rcs (rm 1 ((Qsg.2 : Nat) : Int) 0 0 false 0 0 0 0 0))) := HQ6.out.q.chg.trans (T := fun k => k = R) ⟨rfl, rfl, rfl, by simp [World.setRow], fun k _ hn => setRow_other _ _ _ _ hn⟩ fun k hk e => by omega
   have hE : readE Bs = S2.1 := HRD.out.1.trans (by unfold rdE endR; rw [if_pos rfl, if_neg (fun h => HNE.out h.1)])
   exact ⟨(rm 1 ((Qsg.2 : Nat) : Int) 0 0 false 0 0 0 0 0), [], [], [], by rw [hE], rm_lists _ _ _ _ _ _ _ _ _ _ _, fun h => absurd (hE.symm.trans h) HNE.out, hcc, (fun a h => by have h' : (none : Option Addr) = some a := h; cases h'), (fun a h => by have h' : (none : Option Addr) = some a := h; cases h'), (fun a h => by have h' : (none : Option Addr) = some a := h; cases h')⟩)
  go_wp2_with (first | ((with_reducible refine wpList_load_rc HQ6.out.q.x ?_ ?_); rfl) | ((with_reducible refine wpList_store_rc (rm 1 ((Qsg.2 : Nat) : Int) 0 0 false 0 0 0 0 0) HQ6.out.q.res ?_ ?_ ?_); rfl; rfl))
  (try simp only [Exit.inBlock, Exit.then])
  refine bodyPost_ret (v := .tuple #[.agg (rcs (rm 1 ((Qsg.2 : Nat) : Int) 0 0 false 0 0 0 0 0)), .int .i64 S2.1]) ?_ rfl HG.out
  exact results_rc rfl _ _ R (rm 1 ((Qsg.2 : Nat) : Int) 0 0 false 0 0 0 0 0) _ rfl rfl HRF.out
 have de : (S2.1 != 0) = false := by simp [he]
 have HZE := Lib.hid he
 clear he
 go_wp2_with fail
 have hdc := zdecode2 pq ny cq Y w6 (HWD.out w6 HQ6.out.q.chg) HSQ.out (by have := HMO.out; omega)
 refine hdc.mono ?_
 rintro e w7 ⟨lp5, lc5, tp5, tc5, wp5, wc5, rfl, hP5, hb5, hf1, hf2, hf3⟩
 have hxl := block_lt HQ6.out.q.x
 have HFR : Hid ((∀ a, lp5 = some a → X < a.block) ∧ (∀ a, tp5 = some a → X < a.block) ∧ (∀ a, wp5 = some a → X < a.block)) := Lib.hid ⟨fun a h => by have := hf1 a h; omega, fun a h => by have := hf2 a h; omega, fun a h => by have := hf3 a h; omega⟩
 clear hf1 hf2 hf3 hxl
 have HQ7 := Lib.hid (HQ6.out.later hb5)
 clear hb5 hdc HQ6 HSQ
 generalize hdp : decP Y = dp at *
 have HDP := Lib.hid hdp
 clear hdp
 obtain ⟨er, k2, od2, po2, L2, T2, M2, sk2, fr2, to2, q2⟩ := dp
 dsimp only at hP5 ⊢
 generalize hl5 : L2.length = ln5 at *
 generalize ht5 : T2.length = tn5 at *
 generalize hw5 : M2.length = wn5 at *
 clear hl5 ht5 hw5
 have HP5 := Lib.hid hP5
 clear hP5
 obtain ⟨pv, hpv⟩ : ∃ pv : Rv, pv = ⟨0, 0, 0, 0, false, 0, 0, 0, 0, 0, k2, od2, po2, lp5, ln5, lc5, tp5, tn5, tc5, wp5, wn5, wc5, sk2, fr2, to2, q2⟩ := ⟨_, rfl⟩
 have HPV := Lib.hid hpv
 obtain ⟨rr, hrr⟩ : ∃ rr : Rv, Rv.withP (rm 1 ((Qsg.2 : Nat) : Int) 0 0 false 0 0 0 0 0) pv = rr := ⟨_, rfl⟩
 have HRR := Lib.hid hrr
 obtain ⟨w8, hwn, hQn⟩ : ∃ w8, w7.setRow X (rcs rr) = w8 ∧ Qp W w8 N B R X Pb #[.bool true, .bool false, .bool false, .bool false, .bool false, .bool true] S2 rr := ⟨_, rfl, HQ7.out.set _⟩
 have HWx := Lib.hid hwn
 have HQ8 := Lib.hid hQn
 have hcn : Chg (fun k => k = X) w7 w8 := by rw [← hwn]; exact ⟨rfl, rfl, rfl, by simp [World.setRow], fun k _ hn => setRow_other _ _ _ _ hn⟩
 have HCN := Lib.hid hcn
 clear hpv hrr hwn hQn hcn
 have hm8 : RvM w8 rr L2 T2 M2 := by
  have hp8 := pgm_chg HP5.out HCN.out (fun a h e => by have := HFR.out.1 a h; omega) (fun a h e => by have := HFR.out.2.1 a h; omega) (fun a h e => by have := HFR.out.2.2 a h; omega)
  rw [← HRR.out, HPV.out]
  exact hp8
 have HM8 := Lib.hid hm8
 have hfr : (∀ a, rr.lp = some a → X < a.block) ∧ (∀ a, rr.tp = some a → X < a.block) ∧ (∀ a, rr.wp = some a → X < a.block) := by
  rw [← HRR.out, HPV.out]
  exact HFR.out
 have HFX := Lib.hid hfr
 have HRD := Lib.hid (rd_of (D := ⟨S2, { noX with k := 1, sg := ((Qsg.2 : Nat) : Int), pg := ⟨k2, od2, po2, L2, T2, M2, sk2, fr2, to2, q2⟩ }, er⟩) HR0.out HKK.out rfl (by
  rw [show rdX 1 R0.1 = rd1 R0.1 from rfl]
  unfold rd1
  rw [HQsg.out]
  dsimp only
  rw [HQb.out, if_pos HZE.out]
  dsimp only
  rw [HDP.out]))
 have HXX : Hid (rr.x L2 T2 M2 = { noX with k := 1, sg := ((Qsg.2 : Nat) : Int), pg := ⟨k2, od2, po2, L2, T2, M2, sk2, fr2, to2, q2⟩ }) := Lib.hid (by rw [← HRR.out, HPV.out]; rfl)
 clear hm8 hfr
 go_upto_region 24 with ((with_reducible refine wpList_store_pr pv HQ7.out.q.x ?_ ?_ ?_); rfl; (rw [HPV.out]; rfl); rw [HRR.out, HWx.out])
 clear HPV HRR HWx HCN HP5 HQ7 HFR de
 by_cases he : er = 0
 case neg =>
  have de : (er != 0) = true := by simpa using he
  have HNE : Hid (er ≠ 0) := Lib.hid he
  clear he
  have HRF : Hid (RB (w8.setRow R (rcs rr)) R rr) := Lib.hid (HQ8.out.q.res.set _)
  have HG : Hid (GivesRd W B Bs (.returned (.tuple #[.agg (rcs rr), .int .i64 er])) (w8.setRow R (rcs rr))) := Lib.hid (by
   have ho := HQ8.out.q.ord
   have hcc : Chg (fun k => k = B) W (w8.setRow R (rcs rr)) := HQ8.out.q.chg.trans (T := fun k => k = R) ⟨rfl, rfl, rfl, by simp [World.setRow], fun k _ hn => setRow_other _ _ _ _ hn⟩ fun k hk e => by omega
   have hE : readE Bs = er := HRD.out.1.trans (by unfold rdE; rw [if_neg HNE.out])
   exact ⟨rr, L2, T2, M2, by rw [hE], pgm_chg HM8.out (S := fun k => k = R) ⟨rfl, rfl, rfl, by simp [World.setRow], fun k _ hn => setRow_other _ _ _ _ hn⟩ (fun a h e => by have := HFX.out.1 a h; omega) (fun a h e => by have := HFX.out.2.1 a h; omega) (fun a h e => by have := HFX.out.2.2 a h; omega), fun h => absurd (hE.symm.trans h) HNE.out, hcc, fun a h => by have := HFX.out.1 a h; omega, fun a h => by have := HFX.out.2.1 a h; omega, fun a h => by have := HFX.out.2.2 a h; omega⟩)
  go_wp2_with (first | ((with_reducible refine wpList_load_rc HQ8.out.q.x ?_ ?_); rfl) | ((with_reducible refine wpList_store_rc rr HQ8.out.q.res ?_ ?_ ?_); rfl; rfl))
  (try simp only [Exit.inBlock, Exit.then])
  refine bodyPost_ret (v := .tuple #[.agg (rcs rr), .int .i64 er]) ?_ rfl HG.out
  exact results_rc rfl _ _ R rr _ rfl rfl HRF.out
 subst he
 go_wp2_with fail
 have HXn := Lib.hid HQ8.out.q.x
 have hd := HQ8.out.later (show Below w8.heap.size w8 w8.drew from (Below.refl _ _).drew)
 have HQd := Lib.hid hd
 have HBX : Hid (RB w8.drew X rr) := Lib.hid hd.q.x
 clear hd
 have HM9 : Hid (RvM w8.drew rr L2 T2 M2) := Lib.hid (PgM.later HM8.out (show Below w8.heap.size w8 w8.drew from (Below.refl _ _).drew))
 refine wp_region_held_drew (S := fun w' => Hid (RB w' X rr)) (by kernel_rfl) HBX (fun hHeld => ?_)
 refine wpAnyH_take (i := 0) (oi := ⟨some 90, _, _, _, _, _⟩) (v := .agg (rcs rr)) rfl (by kernel_rfl) (by kernel_rfl) (by kernel_rfl) (fun _ _ _ h => h) (Or.inl ⟨by rfl, fun w' hw' => held_load_rc rfl (Hid.out hw')⟩) (by assumption) ?_
 simp only [Act.put, List.setIfInBounds_toArray, List.set_cons_zero, List.set_cons_succ]
 refine wpAnyH_take (i := 1) (oi := ⟨some 91, _, _, _, _, _⟩) (v := .pointer (some ⟨B, 0, none⟩)) rfl (by kernel_rfl) (by kernel_rfl) (by kernel_rfl) (fun _ _ _ h => h) (Or.inl ⟨by rfl, fun w' hw' => ?_⟩) (by assumption) ?_
 · clear hHeld
   go_simp
 simp only [Act.put, List.setIfInBounds_toArray, List.set_cons_zero, List.set_cons_succ]
 generalize w8.drew = Wd at *
 refine wpAnyH_ready (rs := [2]) (by kernel_rfl) (by simp) (AllReadyH.cons rfl (fun K hK => ?_) AllReadyH.nil)
 go_simp
 go_wp2_with fail
 refine (zw_end HQd.out.q.z).mono ?_
 rintro e wz ⟨rfl, rfl⟩
 go_wp2_with fail
 refine hK.out _ _ HBX (fun hHeld2 => ?_)
 clear hK K hHeld
 have hHeld := hHeld2
 clear hHeld2
 (try simp only [Act.put, List.setIfInBounds_toArray, List.set_cons_zero, List.set_cons_succ])
 refine wpAnyH_ready (rs := [3]) (by kernel_rfl) (by simp) (AllReadyH.cons rfl (fun K hK => ?_) AllReadyH.nil)
 rw [if_pos (by rfl)]
 refine wp_store_row 51 _ _ rfl R (rcs rr) rfl rfl 51 _ HQd.out.q.res (by kernel_rfl) rfl (rcs_one _) ?_
 have HB2 : Hid (RB (Wd.setRow R (rcs rr)) X rr) := Lib.hid ((setRow_other _ _ _ _ (by have := HQd.out.q.ord; omega)).trans HBX.out)
 refine hK.out _ _ HB2 (fun hHeld2 => ?_)
 clear hK K hHeld
 have hHeld := hHeld2
 clear hHeld2
 (try simp only [Act.put, List.setIfInBounds_toArray, List.set_cons_zero, List.set_cons_succ])
 refine wpAnyH_take (i := 4) (oi := ⟨some 3, _, _, _, _, _⟩) (v := .int .i64 (endR S2)) rfl (by kernel_rfl) (by kernel_rfl) (by kernel_rfl) (fun _ _ _ h => h) (Or.inl ⟨by rfl, fun w' hw' => ?_⟩) (by assumption) ?_
 · clear hHeld
   go_simp
 simp only [Act.put, List.setIfInBounds_toArray, List.set_cons_zero, List.set_cons_succ]
 refine wpAnyH_done (by kernel_rfl) ?_ _
 clear hHeld
 have HRF : Hid (RB (Wd.setRow R (rcs rr)) R rr) := Lib.hid (HQd.out.q.res.set _)
 have HG : Hid (GivesRd W B Bs (.returned (.tuple #[.agg (rcs rr), .int .i64 (endR S2)])) (Wd.setRow R (rcs rr))) := Lib.hid (by
  have ho := HQd.out.q.ord
  have hcc : Chg (fun k => k = B) W (Wd.setRow R (rcs rr)) := HQd.out.q.chg.trans (T := fun k => k = R) ⟨rfl, rfl, rfl, by simp [World.setRow], fun k _ hn => setRow_other _ _ _ _ hn⟩ fun k hk e => by omega
  have hE : readE Bs = endR S2 := HRD.out.1
  refine ⟨rr, L2, T2, M2, by rw [hE], pgm_chg HM9.out (S := fun k => k = R) ⟨rfl, rfl, rfl, by simp [World.setRow], fun k _ hn => setRow_other _ _ _ _ hn⟩ (fun a h e => by have := HFX.out.1 a h; omega) (fun a h e => by have := HFX.out.2.1 a h; omega) (fun a h e => by have := HFX.out.2.2 a h; omega), fun _ => ?_, hcc, fun a h => by have := HFX.out.1 a h; have := HQd.out.q.ord; omega, fun a h => by have := HFX.out.2.1 a h; have := HQd.out.q.ord; omega, fun a h => by have := HFX.out.2.2 a h; have := HQd.out.q.ord; omega⟩
  rw [HRD.out.2]
  exact HXX.out)
 go_wp2_with fail
 refine bodyPost_ret (v := .tuple #[.agg (rcs rr), .int .i64 (endR S2)]) ?_ rfl HG.out
 exact results_rc rfl _ _ R rr _ rfl rfl HRF.out
set_option maxHeartbeats 8000000 in
theorem rec_read2 (W : World) (N B : Nat) (Bs : List Nat) (hz : Zw W N B (0, Bs)) (hk : (((numR ((0, Bs) : St) 1).2 : Nat) : Int) = 2) : Calls Tryz.prog 92 #[.pointer (some ⟨B, 0, none⟩)] W (GivesRd W B Bs) := by
 obtain ⟨R, hR⟩ : ∃ R, W.heap.size = R := ⟨_, rfl⟩
 obtain ⟨W0, hW0, hr0, hb0⟩ : ∃ W0, W.alloc (.cells zr 51) = W0 ∧ RB W0 R rz ∧ Below W.heap.size W W0 := ⟨_, rfl, by rw [← hR]; exact alloc_block W _, (Below.refl _ _).alloc (Nat.le_refl _) _⟩
 have HZ0 := Lib.hid (hz.below hb0)
 have HRE := Lib.hid hR
 have HW0 := Lib.hid hW0
 have HR0b := Lib.hid hr0
 have HB0 := Lib.hid hb0
 have HNR : Hid (N ≤ R) := Lib.hid (by have := hz.size; omega)
 obtain ⟨R0, hR0⟩ : ∃ Q, numR ((0, Bs) : St) 1 = Q := ⟨_, rfl⟩
 have hn := zw_num HZ0.out 1
 have hf := fit_1 (S := (0, Bs)) HZ0.out.bytes
 rw [hR0] at hn hf hk
 have HR0 := Lib.hid hR0
 have hx0 : IntKind.u8.wrap ((R0.2 : Nat) : Int) = (R0.2 : Nat) := u8_keep hf
 rw [hk] at hn hx0
 have HKK := Lib.hid hk
 clear hR hW0 hr0 hb0 hR0 hf hz hk
 go_enter Tryz.func92, Tryz.ntmps92
 go_upto_region 1 with (fail)
 rw [HW0.out, HRE.out]
 go_wp2_with fail
 refine hn.mono ?_
 rintro e w1 ⟨rfl, hz1, hc1⟩
 obtain ⟨X, hX⟩ : ∃ X, w1.heap.size = X := ⟨_, rfl⟩
 have hRX : R < X := by have := block_lt HR0b.out; have := hc1.size; omega
 have hlow := HZ0.out.low
 have hNR := HNR.out
 have hres := HR0b.out.chg hc1 (by omega)
 have hch0 : Chg (fun k => k = B) W w1 := (Chg.of_below (S := fun k => k = B) HB0.out).trans hc1 fun _ _ e => e
 obtain ⟨w1a, hw1a, hxa, hba⟩ : ∃ w1a, w1.alloc (.cells zr 51) = w1a ∧ RB w1a X rz ∧ Below w1.heap.size w1 w1a := ⟨_, rfl, by rw [← hX]; exact alloc_block w1 _, (Below.refl _ _).alloc (Nat.le_refl _) _⟩
 have hQa : Qz W w1a N B R X R0.1 rz := ⟨hz1.below hba, hxa, hres.later hba, hch0.trans (Chg.of_below (S := fun k => k = B) hba) fun _ _ e => e, by omega, hRX, by have := HRE.out; omega⟩
 obtain ⟨w2, hw2, hQ2⟩ : ∃ w2, w1a.setRow X (rcs (rk 2)) = w2 ∧ Qz W w2 N B R X R0.1 (rk 2) := ⟨_, rfl, hQa.set _⟩
 have HXa := Lib.hid hxa
 have HW1a := Lib.hid hw1a
 have HW2 := Lib.hid hw2
 have HQ2 := Lib.hid hQ2
 have HXE := Lib.hid hX
 clear hz1 hc1 hX hRX hlow hNR hres hch0 hw1a hxa hba hQa hw2 hQ2 hn
 have c0 : w2.cell? ⟨X, 0, none⟩ = some (.int .u8 2) := block_cell HQ2.out.x rfl
 go_wp2_with ((try rw [HXE.out]); (try rw [HW1a.out]); (with_reducible refine wpList_store_rc (rk 2) HXa.out ?_ ?_ ?_); rfl; rfl; rw [HW2.out])
 have hpa := parts_any 2 w2
 unfold GivesPt at hpa
 rw [show ptc 2 = #[.bool true, .bool true, .bool true, .bool false, .bool false, .bool false] from rfl, show kOk 2 = true from rfl] at hpa
 refine hpa.mono ?_
 rintro e w3 ⟨rfl, h3⟩
 have HQ3 := Lib.hid (HQ2.out.later h3)
 clear h3 hpa c0 HQ2 hx0
 obtain ⟨Pb, hPb⟩ : ∃ n, w3.heap.size = n := ⟨_, rfl⟩
 obtain ⟨w4, hwn, hxn, hbn⟩ : ∃ w4, (w3.alloc (.cells pz 194)).setRow Pb #[.bool true, .bool true, .bool true, .bool false, .bool false, .bool false] = w4 ∧ w4.heap[Pb]? = some (.cells #[.bool true, .bool true, .bool true, .bool false, .bool false, .bool false] 194 (0, 0)) ∧ Below w3.heap.size w3 w4 := ⟨_, rfl, by rw [← hPb]; exact setRow_heap _ _ _ _ _ _ (alloc_block w3 _), below_setRow ((Below.refl _ _).alloc (Nat.le_refl _) _) (by omega) _⟩
 have hxz := alloc_block w3 (.cells pz 194)
 rw [hPb] at hxz
 have HQ4 : Hid (Qp W w4 N B R X Pb #[.bool true, .bool true, .bool true, .bool false, .bool false, .bool false] R0.1 (rk 2)) := Lib.hid ⟨HQ3.out.later hbn, hxn, by have := block_lt HQ3.out.x; omega⟩
 have HPZ := Lib.hid hxz
 have HWN := Lib.hid hwn
 have HNN := Lib.hid hPb
 have HS6 : Hid ((#[.bool true, .bool true, .bool true, .bool false, .bool false, .bool false] : Array Value).size = 6) := Lib.hid rfl
 have HA6 : Hid ((#[.bool true, .bool true, .bool true, .bool false, .bool false, .bool false] : Array Value).all (·.oneCell') = true) := Lib.hid (by simp [Value.oneCell'])
 clear hxz hxn hbn hwn hPb HQ3
 have p0 := HQ4.out.c (j := 0) (v := .bool true) rfl
 have p1 := HQ4.out.c (j := 1) (v := .bool true) rfl
 have p2 := HQ4.out.c (j := 2) (v := .bool true) rfl
 have p3 := HQ4.out.c (j := 3) (v := .bool false) rfl
 have p4 := HQ4.out.c (j := 4) (v := .bool false) rfl
 have p5 := HQ4.out.c (j := 5) (v := .bool false) rfl
 go_wp2_with ((try rw [HNN.out]); (with_reducible refine wpList_store_pt #[.bool true, .bool true, .bool true, .bool false, .bool false, .bool false] HS6.out HA6.out HPZ.out ?_ ?_ ?_); rfl; rfl; rw [HWN.out])
 have hn := zw_num HQ4.out.q.z 4
 obtain ⟨Qsg, hQsg⟩ : ∃ Q, numR R0.1 4 = Q := ⟨_, rfl⟩
 have hf := fit_4 HQ4.out.q.z.bytes
 rw [hQsg] at hn hf
 have hxsg : IntKind.u32.wrap ((Qsg.2 : Nat) : Int) = (Qsg.2 : Nat) := u32_keep hf
 clear hf
 have HQsg := Lib.hid hQsg
 clear hQsg
 refine hn.mono ?_
 rintro e y5 ⟨rfl, hz, hc⟩
 have HQb := Lib.hid (HQ4.out.low hz hc)
 clear hz hc hn HQ4
 clear p0 p1 p2 p3 p4 p5
 obtain ⟨cy, cf⟩ := HQb.out.q.cx (j := 1) (v := .int .u32 0) rfl
 go_upto_region 7 with (fail)
 clear cy cf hxsg
 have hq := HQb.out.put 1 (.int .u32 ((Qsg.2 : Nat) : Int)) (rm 2 ((Qsg.2 : Nat) : Int) 0 0 false 0 0 0 0 0) rfl
 generalize y5.setCell ⟨X, 1, none⟩ (.int .u32 ((Qsg.2 : Nat) : Int)) = w5 at *
 have HQ5 := Lib.hid hq
 clear hq HQb
 have p0 := HQ5.out.c (j := 0) (v := .bool true) rfl
 have p1 := HQ5.out.c (j := 1) (v := .bool true) rfl
 have p2 := HQ5.out.c (j := 2) (v := .bool true) rfl
 have p3 := HQ5.out.c (j := 3) (v := .bool false) rfl
 have p4 := HQ5.out.c (j := 4) (v := .bool false) rfl
 have p5 := HQ5.out.c (j := 5) (v := .bool false) rfl
 go_wp2_with fail
 have hn := zw_num HQ5.out.q.z 4
 obtain ⟨Qtx, hQtx⟩ : ∃ Q, numR Qsg.1 4 = Q := ⟨_, rfl⟩
 have hf := fit_4 HQ5.out.q.z.bytes
 rw [hQtx] at hn hf
 have hxtx : IntKind.u32.wrap ((Qtx.2 : Nat) : Int) = (Qtx.2 : Nat) := u32_keep hf
 clear hf
 have HQtx := Lib.hid hQtx
 clear hQtx
 refine hn.mono ?_
 rintro e y6 ⟨rfl, hz, hc⟩
 have HQb := Lib.hid (HQ5.out.low hz hc)
 clear hz hc hn HQ5
 clear p0 p1 p2 p3 p4 p5
 obtain ⟨cy, cf⟩ := HQb.out.q.cx (j := 2) (v := .int .u32 0) rfl
 go_upto_region 9 with (fail)
 clear cy cf hxtx
 have hq := HQb.out.put 2 (.int .u32 ((Qtx.2 : Nat) : Int)) (rm 2 ((Qsg.2 : Nat) : Int) ((Qtx.2 : Nat) : Int) 0 false 0 0 0 0 0) rfl
 generalize y6.setCell ⟨X, 2, none⟩ (.int .u32 ((Qtx.2 : Nat) : Int)) = w6 at *
 have HQ6 := Lib.hid hq
 clear hq HQb
 have p0 := HQ6.out.c (j := 0) (v := .bool true) rfl
 have p1 := HQ6.out.c (j := 1) (v := .bool true) rfl
 have p2 := HQ6.out.c (j := 2) (v := .bool true) rfl
 have p3 := HQ6.out.c (j := 3) (v := .bool false) rfl
 have p4 := HQ6.out.c (j := 4) (v := .bool false) rfl
 have p5 := HQ6.out.c (j := 5) (v := .bool false) rfl
 go_wp2_with fail
 have hn := zw_num HQ6.out.q.z 1
 obtain ⟨Qst, hQst⟩ : ∃ Q, numR Qtx.1 1 = Q := ⟨_, rfl⟩
 have hf := fit_1 HQ6.out.q.z.bytes
 rw [hQst] at hn hf
 have hxst : IntKind.u8.wrap ((Qst.2 : Nat) : Int) = (Qst.2 : Nat) := u8_keep hf
 clear hf
 have HQst := Lib.hid hQst
 clear hQst
 refine hn.mono ?_
 rintro e y7 ⟨rfl, hz, hc⟩
 have HQb := Lib.hid (HQ6.out.low hz hc)
 clear hz hc hn HQ6
 clear p0 p1 p2 p3 p4 p5
 obtain ⟨cy, cf⟩ := HQb.out.q.cx (j := 3) (v := .int .u8 0) rfl
 go_upto_region 11 with (fail)
 clear cy cf hxst
 have hq := HQb.out.put 3 (.int .u8 ((Qst.2 : Nat) : Int)) (rm 2 ((Qsg.2 : Nat) : Int) ((Qtx.2 : Nat) : Int) ((Qst.2 : Nat) : Int) false 0 0 0 0 0) rfl
 generalize y7.setCell ⟨X, 3, none⟩ (.int .u8 ((Qst.2 : Nat) : Int)) = w7 at *
 have HQ7 := Lib.hid hq
 clear hq HQb
 have p0 := HQ7.out.c (j := 0) (v := .bool true) rfl
 have p1 := HQ7.out.c (j := 1) (v := .bool true) rfl
 have p2 := HQ7.out.c (j := 2) (v := .bool true) rfl
 have p3 := HQ7.out.c (j := 3) (v := .bool false) rfl
 have p4 := HQ7.out.c (j := 4) (v := .bool false) rfl
 have p5 := HQ7.out.c (j := 5) (v := .bool false) rfl
 go_wp2_with fail
 have hn := zw_bool HQ7.out.q.z
 obtain ⟨Qcp, hQcp⟩ : ∃ Q, boolR Qst.1 = Q := ⟨_, rfl⟩
 rw [hQcp] at hn
 have HQcp := Lib.hid hQcp
 clear hQcp
 refine hn.mono ?_
 rintro e y8 ⟨rfl, hz, hc⟩
 have HQb := Lib.hid (HQ7.out.low hz hc)
 clear hz hc hn HQ7
 clear p0 p1 p2 p3 p4 p5
 obtain ⟨cy, cf⟩ := HQb.out.q.cx (j := 4) (v := .bool false) rfl
 go_upto_region 12 with (fail)
 clear cy cf
 have hq := HQb.out.put 4 (.bool Qcp.2) (rm 2 ((Qsg.2 : Nat) : Int) ((Qtx.2 : Nat) : Int) ((Qst.2 : Nat) : Int) Qcp.2 0 0 0 0 0) rfl
 generalize y8.setCell ⟨X, 4, none⟩ (.bool Qcp.2) = w8 at *
 have HQ8 := Lib.hid hq
 clear hq HQb
 have p0 := HQ8.out.c (j := 0) (v := .bool true) rfl
 have p1 := HQ8.out.c (j := 1) (v := .bool true) rfl
 have p2 := HQ8.out.c (j := 2) (v := .bool true) rfl
 have p3 := HQ8.out.c (j := 3) (v := .bool false) rfl
 have p4 := HQ8.out.c (j := 4) (v := .bool false) rfl
 have p5 := HQ8.out.c (j := 5) (v := .bool false) rfl
 have HRD := Lib.hid (rd_of (D := ⟨Qcp.1, { noX with k := 2, sg := ((Qsg.2 : Nat) : Int), tx := ((Qtx.2 : Nat) : Int), st := ((Qst.2 : Nat) : Int), cp := Qcp.2, key := (0, 0, 0), d := 0, o := 0 }, 0⟩) HR0.out HKK.out rfl (by
  simp [rdX, rd2, keyR, HQsg.out, HQtx.out, HQst.out, HQcp.out, noX]))
 go_wp2_with fail
 clear p0 p1 p2 p3 p4 p5
 have HXn := Lib.hid HQ8.out.q.x
 have hd := HQ8.out.later (show Below w8.heap.size w8 w8.drew from (Below.refl _ _).drew)
 have HQd := Lib.hid hd
 have HBX : Hid (RB w8.drew X (rm 2 ((Qsg.2 : Nat) : Int) ((Qtx.2 : Nat) : Int) ((Qst.2 : Nat) : Int) Qcp.2 0 0 0 0 0)) := Lib.hid hd.q.x
 clear hd
 refine wp_region_held_drew (S := fun w' => Hid (RB w' X (rm 2 ((Qsg.2 : Nat) : Int) ((Qtx.2 : Nat) : Int) ((Qst.2 : Nat) : Int) Qcp.2 0 0 0 0 0))) (by kernel_rfl) HBX (fun hHeld => ?_)
 refine wpAnyH_take (i := 0) (oi := ⟨some 90, _, _, _, _, _⟩) (v := .agg (rcs (rm 2 ((Qsg.2 : Nat) : Int) ((Qtx.2 : Nat) : Int) ((Qst.2 : Nat) : Int) Qcp.2 0 0 0 0 0))) rfl (by kernel_rfl) (by kernel_rfl) (by kernel_rfl) (fun _ _ _ h => h) (Or.inl ⟨by rfl, fun w' hw' => held_load_rc rfl (Hid.out hw')⟩) (by assumption) ?_
 simp only [Act.put, List.setIfInBounds_toArray, List.set_cons_zero, List.set_cons_succ]
 refine wpAnyH_take (i := 1) (oi := ⟨some 91, _, _, _, _, _⟩) (v := .pointer (some ⟨B, 0, none⟩)) rfl (by kernel_rfl) (by kernel_rfl) (by kernel_rfl) (fun _ _ _ h => h) (Or.inl ⟨by rfl, fun w' hw' => ?_⟩) (by assumption) ?_
 · clear hHeld
   go_simp
 simp only [Act.put, List.setIfInBounds_toArray, List.set_cons_zero, List.set_cons_succ]
 generalize w8.drew = Wd at *
 refine wpAnyH_ready (rs := [2]) (by kernel_rfl) (by simp) (AllReadyH.cons rfl (fun K hK => ?_) AllReadyH.nil)
 go_simp
 go_wp2_with fail
 refine (zw_end HQd.out.q.z).mono ?_
 rintro e wz ⟨rfl, rfl⟩
 go_wp2_with fail
 refine hK.out _ _ HBX (fun hHeld2 => ?_)
 clear hK K hHeld
 have hHeld := hHeld2
 clear hHeld2
 (try simp only [Act.put, List.setIfInBounds_toArray, List.set_cons_zero, List.set_cons_succ])
 refine wpAnyH_ready (rs := [3]) (by kernel_rfl) (by simp) (AllReadyH.cons rfl (fun K hK => ?_) AllReadyH.nil)
 rw [if_pos (by rfl)]
 refine wp_store_row 51 _ _ rfl R (rcs (rm 2 ((Qsg.2 : Nat) : Int) ((Qtx.2 : Nat) : Int) ((Qst.2 : Nat) : Int) Qcp.2 0 0 0 0 0)) rfl rfl 51 _ HQd.out.q.res (by kernel_rfl) rfl (rcs_one _) ?_
 have HB2 : Hid (RB (Wd.setRow R (rcs (rm 2 ((Qsg.2 : Nat) : Int) ((Qtx.2 : Nat) : Int) ((Qst.2 : Nat) : Int) Qcp.2 0 0 0 0 0))) X (rm 2 ((Qsg.2 : Nat) : Int) ((Qtx.2 : Nat) : Int) ((Qst.2 : Nat) : Int) Qcp.2 0 0 0 0 0)) := Lib.hid ((setRow_other _ _ _ _ (by have := HQd.out.q.ord; omega)).trans HBX.out)
 refine hK.out _ _ HB2 (fun hHeld2 => ?_)
 clear hK K hHeld
 have hHeld := hHeld2
 clear hHeld2
 (try simp only [Act.put, List.setIfInBounds_toArray, List.set_cons_zero, List.set_cons_succ])
 refine wpAnyH_take (i := 4) (oi := ⟨some 3, _, _, _, _, _⟩) (v := .int .i64 (endR Qcp.1)) rfl (by kernel_rfl) (by kernel_rfl) (by kernel_rfl) (fun _ _ _ h => h) (Or.inl ⟨by rfl, fun w' hw' => ?_⟩) (by assumption) ?_
 · clear hHeld
   go_simp
 simp only [Act.put, List.setIfInBounds_toArray, List.set_cons_zero, List.set_cons_succ]
 refine wpAnyH_done (by kernel_rfl) ?_ _
 clear hHeld
 have HRF : Hid (RB (Wd.setRow R (rcs (rm 2 ((Qsg.2 : Nat) : Int) ((Qtx.2 : Nat) : Int) ((Qst.2 : Nat) : Int) Qcp.2 0 0 0 0 0))) R (rm 2 ((Qsg.2 : Nat) : Int) ((Qtx.2 : Nat) : Int) ((Qst.2 : Nat) : Int) Qcp.2 0 0 0 0 0)) := Lib.hid (HQd.out.q.res.set _)
 have HG : Hid (GivesRd W B Bs (.returned (.tuple #[.agg (rcs (rm 2 ((Qsg.2 : Nat) : Int) ((Qtx.2 : Nat) : Int) ((Qst.2 : Nat) : Int) Qcp.2 0 0 0 0 0)), .int .i64 (endR Qcp.1)])) (Wd.setRow R (rcs (rm 2 ((Qsg.2 : Nat) : Int) ((Qtx.2 : Nat) : Int) ((Qst.2 : Nat) : Int) Qcp.2 0 0 0 0 0)))) := Lib.hid (by
  have ho := HQd.out.q.ord
  have hcc : Chg (fun k => k = B) W (Wd.setRow R (rcs (rm 2 ((Qsg.2 : Nat) : Int) ((Qtx.2 : Nat) : Int) ((Qst.2 : Nat) : Int) Qcp.2 0 0 0 0 0))) := HQd.out.q.chg.trans (T := fun k => k = R) ⟨rfl, rfl, rfl, by simp [World.setRow], fun k _ hn => setRow_other _ _ _ _ hn⟩ fun k hk e => by omega
  have hE : readE Bs = endR Qcp.1 := HRD.out.1
  refine ⟨(rm 2 ((Qsg.2 : Nat) : Int) ((Qtx.2 : Nat) : Int) ((Qst.2 : Nat) : Int) Qcp.2 0 0 0 0 0), [], [], [], by rw [hE], rm_lists _ _ _ _ _ _ _ _ _ _ _, fun _ => ?_, hcc, (fun a h => by have h' : (none : Option Addr) = some a := h; cases h'), (fun a h => by have h' : (none : Option Addr) = some a := h; cases h'), (fun a h => by have h' : (none : Option Addr) = some a := h; cases h')⟩
  rw [HRD.out.2]
  rfl)
 go_wp2_with fail
 refine bodyPost_ret (v := .tuple #[.agg (rcs (rm 2 ((Qsg.2 : Nat) : Int) ((Qtx.2 : Nat) : Int) ((Qst.2 : Nat) : Int) Qcp.2 0 0 0 0 0)), .int .i64 (endR Qcp.1)]) ?_ rfl HG.out
 exact results_rc rfl _ _ R (rm 2 ((Qsg.2 : Nat) : Int) ((Qtx.2 : Nat) : Int) ((Qst.2 : Nat) : Int) Qcp.2 0 0 0 0 0) _ rfl rfl HRF.out
set_option maxHeartbeats 8000000 in
theorem rec_read3 (W : World) (N B : Nat) (Bs : List Nat) (hz : Zw W N B (0, Bs)) (hk : (((numR ((0, Bs) : St) 1).2 : Nat) : Int) = 3) : Calls Tryz.prog 92 #[.pointer (some ⟨B, 0, none⟩)] W (GivesRd W B Bs) := by
 obtain ⟨R, hR⟩ : ∃ R, W.heap.size = R := ⟨_, rfl⟩
 obtain ⟨W0, hW0, hr0, hb0⟩ : ∃ W0, W.alloc (.cells zr 51) = W0 ∧ RB W0 R rz ∧ Below W.heap.size W W0 := ⟨_, rfl, by rw [← hR]; exact alloc_block W _, (Below.refl _ _).alloc (Nat.le_refl _) _⟩
 have HZ0 := Lib.hid (hz.below hb0)
 have HRE := Lib.hid hR
 have HW0 := Lib.hid hW0
 have HR0b := Lib.hid hr0
 have HB0 := Lib.hid hb0
 have HNR : Hid (N ≤ R) := Lib.hid (by have := hz.size; omega)
 obtain ⟨R0, hR0⟩ : ∃ Q, numR ((0, Bs) : St) 1 = Q := ⟨_, rfl⟩
 have hn := zw_num HZ0.out 1
 have hf := fit_1 (S := (0, Bs)) HZ0.out.bytes
 rw [hR0] at hn hf hk
 have HR0 := Lib.hid hR0
 have hx0 : IntKind.u8.wrap ((R0.2 : Nat) : Int) = (R0.2 : Nat) := u8_keep hf
 rw [hk] at hn hx0
 have HKK := Lib.hid hk
 clear hR hW0 hr0 hb0 hR0 hf hz hk
 go_enter Tryz.func92, Tryz.ntmps92
 go_upto_region 1 with (fail)
 rw [HW0.out, HRE.out]
 go_wp2_with fail
 refine hn.mono ?_
 rintro e w1 ⟨rfl, hz1, hc1⟩
 obtain ⟨X, hX⟩ : ∃ X, w1.heap.size = X := ⟨_, rfl⟩
 have hRX : R < X := by have := block_lt HR0b.out; have := hc1.size; omega
 have hlow := HZ0.out.low
 have hNR := HNR.out
 have hres := HR0b.out.chg hc1 (by omega)
 have hch0 : Chg (fun k => k = B) W w1 := (Chg.of_below (S := fun k => k = B) HB0.out).trans hc1 fun _ _ e => e
 obtain ⟨w1a, hw1a, hxa, hba⟩ : ∃ w1a, w1.alloc (.cells zr 51) = w1a ∧ RB w1a X rz ∧ Below w1.heap.size w1 w1a := ⟨_, rfl, by rw [← hX]; exact alloc_block w1 _, (Below.refl _ _).alloc (Nat.le_refl _) _⟩
 have hQa : Qz W w1a N B R X R0.1 rz := ⟨hz1.below hba, hxa, hres.later hba, hch0.trans (Chg.of_below (S := fun k => k = B) hba) fun _ _ e => e, by omega, hRX, by have := HRE.out; omega⟩
 obtain ⟨w2, hw2, hQ2⟩ : ∃ w2, w1a.setRow X (rcs (rk 3)) = w2 ∧ Qz W w2 N B R X R0.1 (rk 3) := ⟨_, rfl, hQa.set _⟩
 have HXa := Lib.hid hxa
 have HW1a := Lib.hid hw1a
 have HW2 := Lib.hid hw2
 have HQ2 := Lib.hid hQ2
 have HXE := Lib.hid hX
 clear hz1 hc1 hX hRX hlow hNR hres hch0 hw1a hxa hba hQa hw2 hQ2 hn
 have c0 : w2.cell? ⟨X, 0, none⟩ = some (.int .u8 3) := block_cell HQ2.out.x rfl
 go_wp2_with ((try rw [HXE.out]); (try rw [HW1a.out]); (with_reducible refine wpList_store_rc (rk 3) HXa.out ?_ ?_ ?_); rfl; rfl; rw [HW2.out])
 have hpa := parts_any 3 w2
 unfold GivesPt at hpa
 rw [show ptc 3 = #[.bool false, .bool true, .bool false, .bool true, .bool false, .bool false] from rfl, show kOk 3 = true from rfl] at hpa
 refine hpa.mono ?_
 rintro e w3 ⟨rfl, h3⟩
 have HQ3 := Lib.hid (HQ2.out.later h3)
 clear h3 hpa c0 HQ2 hx0
 obtain ⟨Pb, hPb⟩ : ∃ n, w3.heap.size = n := ⟨_, rfl⟩
 obtain ⟨w4, hwn, hxn, hbn⟩ : ∃ w4, (w3.alloc (.cells pz 194)).setRow Pb #[.bool false, .bool true, .bool false, .bool true, .bool false, .bool false] = w4 ∧ w4.heap[Pb]? = some (.cells #[.bool false, .bool true, .bool false, .bool true, .bool false, .bool false] 194 (0, 0)) ∧ Below w3.heap.size w3 w4 := ⟨_, rfl, by rw [← hPb]; exact setRow_heap _ _ _ _ _ _ (alloc_block w3 _), below_setRow ((Below.refl _ _).alloc (Nat.le_refl _) _) (by omega) _⟩
 have hxz := alloc_block w3 (.cells pz 194)
 rw [hPb] at hxz
 have HQ4 : Hid (Qp W w4 N B R X Pb #[.bool false, .bool true, .bool false, .bool true, .bool false, .bool false] R0.1 (rk 3)) := Lib.hid ⟨HQ3.out.later hbn, hxn, by have := block_lt HQ3.out.x; omega⟩
 have HPZ := Lib.hid hxz
 have HWN := Lib.hid hwn
 have HNN := Lib.hid hPb
 have HS6 : Hid ((#[.bool false, .bool true, .bool false, .bool true, .bool false, .bool false] : Array Value).size = 6) := Lib.hid rfl
 have HA6 : Hid ((#[.bool false, .bool true, .bool false, .bool true, .bool false, .bool false] : Array Value).all (·.oneCell') = true) := Lib.hid (by simp [Value.oneCell'])
 clear hxz hxn hbn hwn hPb HQ3
 have p0 := HQ4.out.c (j := 0) (v := .bool false) rfl
 have p1 := HQ4.out.c (j := 1) (v := .bool true) rfl
 have p2 := HQ4.out.c (j := 2) (v := .bool false) rfl
 have p3 := HQ4.out.c (j := 3) (v := .bool true) rfl
 have p4 := HQ4.out.c (j := 4) (v := .bool false) rfl
 have p5 := HQ4.out.c (j := 5) (v := .bool false) rfl
 go_wp2_with ((try rw [HNN.out]); (with_reducible refine wpList_store_pt #[.bool false, .bool true, .bool false, .bool true, .bool false, .bool false] HS6.out HA6.out HPZ.out ?_ ?_ ?_); rfl; rfl; rw [HWN.out])
 have hn := zw_num HQ4.out.q.z 4
 obtain ⟨Qtx, hQtx⟩ : ∃ Q, numR R0.1 4 = Q := ⟨_, rfl⟩
 have hf := fit_4 HQ4.out.q.z.bytes
 rw [hQtx] at hn hf
 have hxtx : IntKind.u32.wrap ((Qtx.2 : Nat) : Int) = (Qtx.2 : Nat) := u32_keep hf
 clear hf
 have HQtx := Lib.hid hQtx
 clear hQtx
 refine hn.mono ?_
 rintro e y5 ⟨rfl, hz, hc⟩
 have HQb := Lib.hid (HQ4.out.low hz hc)
 clear hz hc hn HQ4
 clear p0 p1 p2 p3 p4 p5
 obtain ⟨cy, cf⟩ := HQb.out.q.cx (j := 2) (v := .int .u32 0) rfl
 go_upto_region 9 with (fail)
 clear cy cf hxtx
 have hq := HQb.out.put 2 (.int .u32 ((Qtx.2 : Nat) : Int)) (rm 3 0 ((Qtx.2 : Nat) : Int) 0 false 0 0 0 0 0) rfl
 generalize y5.setCell ⟨X, 2, none⟩ (.int .u32 ((Qtx.2 : Nat) : Int)) = w5 at *
 have HQ5 := Lib.hid hq
 clear hq HQb
 have p0 := HQ5.out.c (j := 0) (v := .bool false) rfl
 have p1 := HQ5.out.c (j := 1) (v := .bool true) rfl
 have p2 := HQ5.out.c (j := 2) (v := .bool false) rfl
 have p3 := HQ5.out.c (j := 3) (v := .bool true) rfl
 have p4 := HQ5.out.c (j := 4) (v := .bool false) rfl
 have p5 := HQ5.out.c (j := 5) (v := .bool false) rfl
 go_wp2_with fail
 have hn := zw_num HQ5.out.q.z 1
 have hf := fit_1 HQ5.out.q.z.bytes
 obtain ⟨Qka, hQka⟩ : ∃ Q, numR Qtx.1 1 = Q := ⟨_, rfl⟩
 rw [hQka] at hn hf
 have hxka : IntKind.u8.wrap ((Qka.2 : Nat) : Int) = (Qka.2 : Nat) := u8_keep hf
 have HQka := Lib.hid hQka
 clear hf hQka
 refine hn.mono ?_
 rintro e w6 ⟨rfl, hz, hc⟩
 have HQ6 := Lib.hid (HQ5.out.low hz hc)
 clear hn hz hc HQ5
 go_wp2_with fail
 have hn := zw_num HQ6.out.q.z 1
 have hf := fit_1 HQ6.out.q.z.bytes
 obtain ⟨Qkb, hQkb⟩ : ∃ Q, numR Qka.1 1 = Q := ⟨_, rfl⟩
 rw [hQkb] at hn hf
 have hxkb : IntKind.u8.wrap ((Qkb.2 : Nat) : Int) = (Qkb.2 : Nat) := u8_keep hf
 have HQkb := Lib.hid hQkb
 clear hf hQkb
 refine hn.mono ?_
 rintro e w7 ⟨rfl, hz, hc⟩
 have HQ7 := Lib.hid (HQ6.out.low hz hc)
 clear hn hz hc HQ6
 go_wp2_with fail
 have hn := zw_num HQ7.out.q.z 1
 have hf := fit_1 HQ7.out.q.z.bytes
 obtain ⟨Qkc, hQkc⟩ : ∃ Q, numR Qkb.1 1 = Q := ⟨_, rfl⟩
 rw [hQkc] at hn hf
 have hxkc : IntKind.u8.wrap ((Qkc.2 : Nat) : Int) = (Qkc.2 : Nat) := u8_keep hf
 have HQkc := Lib.hid hQkc
 clear hf hQkc
 refine hn.mono ?_
 rintro e w8 ⟨rfl, hz, hc⟩
 have HQ8 := Lib.hid (HQ7.out.low hz hc)
 clear hn hz hc HQ7
 obtain ⟨w9, hgen, hq⟩ : ∃ w9, w8.setRow X (rcs { (rm 3 0 ((Qtx.2 : Nat) : Int) 0 false 0 0 0 0 0) with ka := ((Qka.2 : Nat) : Int), kb := ((Qkb.2 : Nat) : Int), kc := ((Qkc.2 : Nat) : Int) }) = w9 ∧ Qp W w9 N B R X Pb #[.bool false, .bool true, .bool false, .bool true, .bool false, .bool false] Qkc.1 (rm 3 0 ((Qtx.2 : Nat) : Int) 0 false ((Qka.2 : Nat) : Int) ((Qkb.2 : Nat) : Int) ((Qkc.2 : Nat) : Int) 0 0) := ⟨_, rfl, HQ8.out.set (rm 3 0 ((Qtx.2 : Nat) : Int) 0 false ((Qka.2 : Nat) : Int) ((Qkb.2 : Nat) : Int) ((Qkc.2 : Nat) : Int) 0 0)⟩
 have HGEN := Lib.hid hgen
 have HQ9 := Lib.hid hq
 clear hgen hq
 go_upto_region 14 with ((with_reducible refine wpList_store_ky ((Qka.2 : Nat) : Int) ((Qkb.2 : Nat) : Int) ((Qkc.2 : Nat) : Int) HQ8.out.q.x ?_ ?_ ?_); rfl; rfl; rw [HGEN.out])
 clear HGEN hxka hxkb hxkc HQ8
 clear p0 p1 p2 p3 p4 p5
 have p0 := HQ9.out.c (j := 0) (v := .bool false) rfl
 have p1 := HQ9.out.c (j := 1) (v := .bool true) rfl
 have p2 := HQ9.out.c (j := 2) (v := .bool false) rfl
 have p3 := HQ9.out.c (j := 3) (v := .bool true) rfl
 have p4 := HQ9.out.c (j := 4) (v := .bool false) rfl
 have p5 := HQ9.out.c (j := 5) (v := .bool false) rfl
 go_wp2_with fail
 have hn := zw_int HQ9.out.q.z
 obtain ⟨Qd, hQd⟩ : ∃ Q, numR Qkc.1 8 = Q := ⟨_, rfl⟩
 rw [hQd] at hn
 have HQd := Lib.hid hQd
 clear hQd
 refine hn.mono ?_
 rintro e y10 ⟨rfl, hz, hc⟩
 have HQb := Lib.hid (HQ9.out.low hz hc)
 clear hz hc hn HQ9
 clear p0 p1 p2 p3 p4 p5
 obtain ⟨cy, cf⟩ := HQb.out.q.cx (j := 8) (v := .int .i64 0) rfl
 go_upto_region 15 with (fail)
 clear cy cf
 have hq := HQb.out.put 8 (.int .i64 (sgn Qd.2)) (rm 3 0 ((Qtx.2 : Nat) : Int) 0 false ((Qka.2 : Nat) : Int) ((Qkb.2 : Nat) : Int) ((Qkc.2 : Nat) : Int) (sgn Qd.2) 0) rfl
 generalize y10.setCell ⟨X, 8, none⟩ (.int .i64 (sgn Qd.2)) = w10 at *
 have HQ10 := Lib.hid hq
 clear hq HQb
 have p0 := HQ10.out.c (j := 0) (v := .bool false) rfl
 have p1 := HQ10.out.c (j := 1) (v := .bool true) rfl
 have p2 := HQ10.out.c (j := 2) (v := .bool false) rfl
 have p3 := HQ10.out.c (j := 3) (v := .bool true) rfl
 have p4 := HQ10.out.c (j := 4) (v := .bool false) rfl
 have p5 := HQ10.out.c (j := 5) (v := .bool false) rfl
 have HRD := Lib.hid (rd_of (D := ⟨Qd.1, { noX with k := 3, sg := 0, tx := ((Qtx.2 : Nat) : Int), st := 0, cp := false, key := (((Qka.2 : Nat) : Int), ((Qkb.2 : Nat) : Int), ((Qkc.2 : Nat) : Int)), d := (sgn Qd.2), o := 0 }, 0⟩) HR0.out HKK.out rfl (by
  simp [rdX, rd3, keyR, HQtx.out, HQka.out, HQkb.out, HQkc.out, HQd.out, noX]))
 go_wp2_with fail
 clear p0 p1 p2 p3 p4 p5
 have HXn := Lib.hid HQ10.out.q.x
 have hd := HQ10.out.later (show Below w10.heap.size w10 w10.drew from (Below.refl _ _).drew)
 have HQd := Lib.hid hd
 have HBX : Hid (RB w10.drew X (rm 3 0 ((Qtx.2 : Nat) : Int) 0 false ((Qka.2 : Nat) : Int) ((Qkb.2 : Nat) : Int) ((Qkc.2 : Nat) : Int) (sgn Qd.2) 0)) := Lib.hid hd.q.x
 clear hd
 refine wp_region_held_drew (S := fun w' => Hid (RB w' X (rm 3 0 ((Qtx.2 : Nat) : Int) 0 false ((Qka.2 : Nat) : Int) ((Qkb.2 : Nat) : Int) ((Qkc.2 : Nat) : Int) (sgn Qd.2) 0))) (by kernel_rfl) HBX (fun hHeld => ?_)
 refine wpAnyH_take (i := 0) (oi := ⟨some 90, _, _, _, _, _⟩) (v := .agg (rcs (rm 3 0 ((Qtx.2 : Nat) : Int) 0 false ((Qka.2 : Nat) : Int) ((Qkb.2 : Nat) : Int) ((Qkc.2 : Nat) : Int) (sgn Qd.2) 0))) rfl (by kernel_rfl) (by kernel_rfl) (by kernel_rfl) (fun _ _ _ h => h) (Or.inl ⟨by rfl, fun w' hw' => held_load_rc rfl (Hid.out hw')⟩) (by assumption) ?_
 simp only [Act.put, List.setIfInBounds_toArray, List.set_cons_zero, List.set_cons_succ]
 refine wpAnyH_take (i := 1) (oi := ⟨some 91, _, _, _, _, _⟩) (v := .pointer (some ⟨B, 0, none⟩)) rfl (by kernel_rfl) (by kernel_rfl) (by kernel_rfl) (fun _ _ _ h => h) (Or.inl ⟨by rfl, fun w' hw' => ?_⟩) (by assumption) ?_
 · clear hHeld
   go_simp
 simp only [Act.put, List.setIfInBounds_toArray, List.set_cons_zero, List.set_cons_succ]
 generalize w10.drew = Wd at *
 refine wpAnyH_ready (rs := [2]) (by kernel_rfl) (by simp) (AllReadyH.cons rfl (fun K hK => ?_) AllReadyH.nil)
 go_simp
 go_wp2_with fail
 refine (zw_end HQd.out.q.z).mono ?_
 rintro e wz ⟨rfl, rfl⟩
 go_wp2_with fail
 refine hK.out _ _ HBX (fun hHeld2 => ?_)
 clear hK K hHeld
 have hHeld := hHeld2
 clear hHeld2
 (try simp only [Act.put, List.setIfInBounds_toArray, List.set_cons_zero, List.set_cons_succ])
 refine wpAnyH_ready (rs := [3]) (by kernel_rfl) (by simp) (AllReadyH.cons rfl (fun K hK => ?_) AllReadyH.nil)
 rw [if_pos (by rfl)]
 refine wp_store_row 51 _ _ rfl R (rcs (rm 3 0 ((Qtx.2 : Nat) : Int) 0 false ((Qka.2 : Nat) : Int) ((Qkb.2 : Nat) : Int) ((Qkc.2 : Nat) : Int) (sgn Qd.2) 0)) rfl rfl 51 _ HQd.out.q.res (by kernel_rfl) rfl (rcs_one _) ?_
 have HB2 : Hid (RB (Wd.setRow R (rcs (rm 3 0 ((Qtx.2 : Nat) : Int) 0 false ((Qka.2 : Nat) : Int) ((Qkb.2 : Nat) : Int) ((Qkc.2 : Nat) : Int) (sgn Qd.2) 0))) X (rm 3 0 ((Qtx.2 : Nat) : Int) 0 false ((Qka.2 : Nat) : Int) ((Qkb.2 : Nat) : Int) ((Qkc.2 : Nat) : Int) (sgn Qd.2) 0)) := Lib.hid ((setRow_other _ _ _ _ (by have := HQd.out.q.ord; omega)).trans HBX.out)
 refine hK.out _ _ HB2 (fun hHeld2 => ?_)
 clear hK K hHeld
 have hHeld := hHeld2
 clear hHeld2
 (try simp only [Act.put, List.setIfInBounds_toArray, List.set_cons_zero, List.set_cons_succ])
 refine wpAnyH_take (i := 4) (oi := ⟨some 3, _, _, _, _, _⟩) (v := .int .i64 (endR Qd.1)) rfl (by kernel_rfl) (by kernel_rfl) (by kernel_rfl) (fun _ _ _ h => h) (Or.inl ⟨by rfl, fun w' hw' => ?_⟩) (by assumption) ?_
 · clear hHeld
   go_simp
 simp only [Act.put, List.setIfInBounds_toArray, List.set_cons_zero, List.set_cons_succ]
 refine wpAnyH_done (by kernel_rfl) ?_ _
 clear hHeld
 have HRF : Hid (RB (Wd.setRow R (rcs (rm 3 0 ((Qtx.2 : Nat) : Int) 0 false ((Qka.2 : Nat) : Int) ((Qkb.2 : Nat) : Int) ((Qkc.2 : Nat) : Int) (sgn Qd.2) 0))) R (rm 3 0 ((Qtx.2 : Nat) : Int) 0 false ((Qka.2 : Nat) : Int) ((Qkb.2 : Nat) : Int) ((Qkc.2 : Nat) : Int) (sgn Qd.2) 0)) := Lib.hid (HQd.out.q.res.set _)
 have HG : Hid (GivesRd W B Bs (.returned (.tuple #[.agg (rcs (rm 3 0 ((Qtx.2 : Nat) : Int) 0 false ((Qka.2 : Nat) : Int) ((Qkb.2 : Nat) : Int) ((Qkc.2 : Nat) : Int) (sgn Qd.2) 0)), .int .i64 (endR Qd.1)])) (Wd.setRow R (rcs (rm 3 0 ((Qtx.2 : Nat) : Int) 0 false ((Qka.2 : Nat) : Int) ((Qkb.2 : Nat) : Int) ((Qkc.2 : Nat) : Int) (sgn Qd.2) 0)))) := Lib.hid (by
  have ho := HQd.out.q.ord
  have hcc : Chg (fun k => k = B) W (Wd.setRow R (rcs (rm 3 0 ((Qtx.2 : Nat) : Int) 0 false ((Qka.2 : Nat) : Int) ((Qkb.2 : Nat) : Int) ((Qkc.2 : Nat) : Int) (sgn Qd.2) 0))) := HQd.out.q.chg.trans (T := fun k => k = R) ⟨rfl, rfl, rfl, by simp [World.setRow], fun k _ hn => setRow_other _ _ _ _ hn⟩ fun k hk e => by omega
  have hE : readE Bs = endR Qd.1 := HRD.out.1
  refine ⟨(rm 3 0 ((Qtx.2 : Nat) : Int) 0 false ((Qka.2 : Nat) : Int) ((Qkb.2 : Nat) : Int) ((Qkc.2 : Nat) : Int) (sgn Qd.2) 0), [], [], [], by rw [hE], rm_lists _ _ _ _ _ _ _ _ _ _ _, fun _ => ?_, hcc, (fun a h => by have h' : (none : Option Addr) = some a := h; cases h'), (fun a h => by have h' : (none : Option Addr) = some a := h; cases h'), (fun a h => by have h' : (none : Option Addr) = some a := h; cases h')⟩
  rw [HRD.out.2]
  rfl)
 go_wp2_with fail
 refine bodyPost_ret (v := .tuple #[.agg (rcs (rm 3 0 ((Qtx.2 : Nat) : Int) 0 false ((Qka.2 : Nat) : Int) ((Qkb.2 : Nat) : Int) ((Qkc.2 : Nat) : Int) (sgn Qd.2) 0)), .int .i64 (endR Qd.1)]) ?_ rfl HG.out
 exact results_rc rfl _ _ R (rm 3 0 ((Qtx.2 : Nat) : Int) 0 false ((Qka.2 : Nat) : Int) ((Qkb.2 : Nat) : Int) ((Qkc.2 : Nat) : Int) (sgn Qd.2) 0) _ rfl rfl HRF.out
set_option maxHeartbeats 8000000 in
theorem rec_read4 (W : World) (N B : Nat) (Bs : List Nat) (hz : Zw W N B (0, Bs)) (hk : (((numR ((0, Bs) : St) 1).2 : Nat) : Int) = 4) : Calls Tryz.prog 92 #[.pointer (some ⟨B, 0, none⟩)] W (GivesRd W B Bs) := by
 obtain ⟨R, hR⟩ : ∃ R, W.heap.size = R := ⟨_, rfl⟩
 obtain ⟨W0, hW0, hr0, hb0⟩ : ∃ W0, W.alloc (.cells zr 51) = W0 ∧ RB W0 R rz ∧ Below W.heap.size W W0 := ⟨_, rfl, by rw [← hR]; exact alloc_block W _, (Below.refl _ _).alloc (Nat.le_refl _) _⟩
 have HZ0 := Lib.hid (hz.below hb0)
 have HRE := Lib.hid hR
 have HW0 := Lib.hid hW0
 have HR0b := Lib.hid hr0
 have HB0 := Lib.hid hb0
 have HNR : Hid (N ≤ R) := Lib.hid (by have := hz.size; omega)
 obtain ⟨R0, hR0⟩ : ∃ Q, numR ((0, Bs) : St) 1 = Q := ⟨_, rfl⟩
 have hn := zw_num HZ0.out 1
 have hf := fit_1 (S := (0, Bs)) HZ0.out.bytes
 rw [hR0] at hn hf hk
 have HR0 := Lib.hid hR0
 have hx0 : IntKind.u8.wrap ((R0.2 : Nat) : Int) = (R0.2 : Nat) := u8_keep hf
 rw [hk] at hn hx0
 have HKK := Lib.hid hk
 clear hR hW0 hr0 hb0 hR0 hf hz hk
 go_enter Tryz.func92, Tryz.ntmps92
 go_upto_region 1 with (fail)
 rw [HW0.out, HRE.out]
 go_wp2_with fail
 refine hn.mono ?_
 rintro e w1 ⟨rfl, hz1, hc1⟩
 obtain ⟨X, hX⟩ : ∃ X, w1.heap.size = X := ⟨_, rfl⟩
 have hRX : R < X := by have := block_lt HR0b.out; have := hc1.size; omega
 have hlow := HZ0.out.low
 have hNR := HNR.out
 have hres := HR0b.out.chg hc1 (by omega)
 have hch0 : Chg (fun k => k = B) W w1 := (Chg.of_below (S := fun k => k = B) HB0.out).trans hc1 fun _ _ e => e
 obtain ⟨w1a, hw1a, hxa, hba⟩ : ∃ w1a, w1.alloc (.cells zr 51) = w1a ∧ RB w1a X rz ∧ Below w1.heap.size w1 w1a := ⟨_, rfl, by rw [← hX]; exact alloc_block w1 _, (Below.refl _ _).alloc (Nat.le_refl _) _⟩
 have hQa : Qz W w1a N B R X R0.1 rz := ⟨hz1.below hba, hxa, hres.later hba, hch0.trans (Chg.of_below (S := fun k => k = B) hba) fun _ _ e => e, by omega, hRX, by have := HRE.out; omega⟩
 obtain ⟨w2, hw2, hQ2⟩ : ∃ w2, w1a.setRow X (rcs (rk 4)) = w2 ∧ Qz W w2 N B R X R0.1 (rk 4) := ⟨_, rfl, hQa.set _⟩
 have HXa := Lib.hid hxa
 have HW1a := Lib.hid hw1a
 have HW2 := Lib.hid hw2
 have HQ2 := Lib.hid hQ2
 have HXE := Lib.hid hX
 clear hz1 hc1 hX hRX hlow hNR hres hch0 hw1a hxa hba hQa hw2 hQ2 hn
 have c0 : w2.cell? ⟨X, 0, none⟩ = some (.int .u8 4) := block_cell HQ2.out.x rfl
 go_wp2_with ((try rw [HXE.out]); (try rw [HW1a.out]); (with_reducible refine wpList_store_rc (rk 4) HXa.out ?_ ?_ ?_); rfl; rfl; rw [HW2.out])
 have hpa := parts_any 4 w2
 unfold GivesPt at hpa
 rw [show ptc 4 = #[.bool false, .bool true, .bool false, .bool false, .bool false, .bool false] from rfl, show kOk 4 = true from rfl] at hpa
 refine hpa.mono ?_
 rintro e w3 ⟨rfl, h3⟩
 have HQ3 := Lib.hid (HQ2.out.later h3)
 clear h3 hpa c0 HQ2 hx0
 obtain ⟨Pb, hPb⟩ : ∃ n, w3.heap.size = n := ⟨_, rfl⟩
 obtain ⟨w4, hwn, hxn, hbn⟩ : ∃ w4, (w3.alloc (.cells pz 194)).setRow Pb #[.bool false, .bool true, .bool false, .bool false, .bool false, .bool false] = w4 ∧ w4.heap[Pb]? = some (.cells #[.bool false, .bool true, .bool false, .bool false, .bool false, .bool false] 194 (0, 0)) ∧ Below w3.heap.size w3 w4 := ⟨_, rfl, by rw [← hPb]; exact setRow_heap _ _ _ _ _ _ (alloc_block w3 _), below_setRow ((Below.refl _ _).alloc (Nat.le_refl _) _) (by omega) _⟩
 have hxz := alloc_block w3 (.cells pz 194)
 rw [hPb] at hxz
 have HQ4 : Hid (Qp W w4 N B R X Pb #[.bool false, .bool true, .bool false, .bool false, .bool false, .bool false] R0.1 (rk 4)) := Lib.hid ⟨HQ3.out.later hbn, hxn, by have := block_lt HQ3.out.x; omega⟩
 have HPZ := Lib.hid hxz
 have HWN := Lib.hid hwn
 have HNN := Lib.hid hPb
 have HS6 : Hid ((#[.bool false, .bool true, .bool false, .bool false, .bool false, .bool false] : Array Value).size = 6) := Lib.hid rfl
 have HA6 : Hid ((#[.bool false, .bool true, .bool false, .bool false, .bool false, .bool false] : Array Value).all (·.oneCell') = true) := Lib.hid (by simp [Value.oneCell'])
 clear hxz hxn hbn hwn hPb HQ3
 have p0 := HQ4.out.c (j := 0) (v := .bool false) rfl
 have p1 := HQ4.out.c (j := 1) (v := .bool true) rfl
 have p2 := HQ4.out.c (j := 2) (v := .bool false) rfl
 have p3 := HQ4.out.c (j := 3) (v := .bool false) rfl
 have p4 := HQ4.out.c (j := 4) (v := .bool false) rfl
 have p5 := HQ4.out.c (j := 5) (v := .bool false) rfl
 go_wp2_with ((try rw [HNN.out]); (with_reducible refine wpList_store_pt #[.bool false, .bool true, .bool false, .bool false, .bool false, .bool false] HS6.out HA6.out HPZ.out ?_ ?_ ?_); rfl; rfl; rw [HWN.out])
 have hn := zw_num HQ4.out.q.z 4
 obtain ⟨Qtx, hQtx⟩ : ∃ Q, numR R0.1 4 = Q := ⟨_, rfl⟩
 have hf := fit_4 HQ4.out.q.z.bytes
 rw [hQtx] at hn hf
 have hxtx : IntKind.u32.wrap ((Qtx.2 : Nat) : Int) = (Qtx.2 : Nat) := u32_keep hf
 clear hf
 have HQtx := Lib.hid hQtx
 clear hQtx
 refine hn.mono ?_
 rintro e y5 ⟨rfl, hz, hc⟩
 have HQb := Lib.hid (HQ4.out.low hz hc)
 clear hz hc hn HQ4
 clear p0 p1 p2 p3 p4 p5
 obtain ⟨cy, cf⟩ := HQb.out.q.cx (j := 2) (v := .int .u32 0) rfl
 go_upto_region 9 with (fail)
 clear cy cf hxtx
 have hq := HQb.out.put 2 (.int .u32 ((Qtx.2 : Nat) : Int)) (rm 4 0 ((Qtx.2 : Nat) : Int) 0 false 0 0 0 0 0) rfl
 generalize y5.setCell ⟨X, 2, none⟩ (.int .u32 ((Qtx.2 : Nat) : Int)) = w5 at *
 have HQ5 := Lib.hid hq
 clear hq HQb
 have p0 := HQ5.out.c (j := 0) (v := .bool false) rfl
 have p1 := HQ5.out.c (j := 1) (v := .bool true) rfl
 have p2 := HQ5.out.c (j := 2) (v := .bool false) rfl
 have p3 := HQ5.out.c (j := 3) (v := .bool false) rfl
 have p4 := HQ5.out.c (j := 4) (v := .bool false) rfl
 have p5 := HQ5.out.c (j := 5) (v := .bool false) rfl
 have HRD := Lib.hid (rd_of (D := ⟨Qtx.1, { noX with k := 4, sg := 0, tx := ((Qtx.2 : Nat) : Int), st := 0, cp := false, key := (0, 0, 0), d := 0, o := 0 }, 0⟩) HR0.out HKK.out rfl (by
  simp [rdX, rd4, keyR, HQtx.out, noX]))
 go_wp2_with fail
 clear p0 p1 p2 p3 p4 p5
 have HXn := Lib.hid HQ5.out.q.x
 have hd := HQ5.out.later (show Below w5.heap.size w5 w5.drew from (Below.refl _ _).drew)
 have HQd := Lib.hid hd
 have HBX : Hid (RB w5.drew X (rm 4 0 ((Qtx.2 : Nat) : Int) 0 false 0 0 0 0 0)) := Lib.hid hd.q.x
 clear hd
 refine wp_region_held_drew (S := fun w' => Hid (RB w' X (rm 4 0 ((Qtx.2 : Nat) : Int) 0 false 0 0 0 0 0))) (by kernel_rfl) HBX (fun hHeld => ?_)
 refine wpAnyH_take (i := 0) (oi := ⟨some 90, _, _, _, _, _⟩) (v := .agg (rcs (rm 4 0 ((Qtx.2 : Nat) : Int) 0 false 0 0 0 0 0))) rfl (by kernel_rfl) (by kernel_rfl) (by kernel_rfl) (fun _ _ _ h => h) (Or.inl ⟨by rfl, fun w' hw' => held_load_rc rfl (Hid.out hw')⟩) (by assumption) ?_
 simp only [Act.put, List.setIfInBounds_toArray, List.set_cons_zero, List.set_cons_succ]
 refine wpAnyH_take (i := 1) (oi := ⟨some 91, _, _, _, _, _⟩) (v := .pointer (some ⟨B, 0, none⟩)) rfl (by kernel_rfl) (by kernel_rfl) (by kernel_rfl) (fun _ _ _ h => h) (Or.inl ⟨by rfl, fun w' hw' => ?_⟩) (by assumption) ?_
 · clear hHeld
   go_simp
 simp only [Act.put, List.setIfInBounds_toArray, List.set_cons_zero, List.set_cons_succ]
 generalize w5.drew = Wd at *
 refine wpAnyH_ready (rs := [2]) (by kernel_rfl) (by simp) (AllReadyH.cons rfl (fun K hK => ?_) AllReadyH.nil)
 go_simp
 go_wp2_with fail
 refine (zw_end HQd.out.q.z).mono ?_
 rintro e wz ⟨rfl, rfl⟩
 go_wp2_with fail
 refine hK.out _ _ HBX (fun hHeld2 => ?_)
 clear hK K hHeld
 have hHeld := hHeld2
 clear hHeld2
 (try simp only [Act.put, List.setIfInBounds_toArray, List.set_cons_zero, List.set_cons_succ])
 refine wpAnyH_ready (rs := [3]) (by kernel_rfl) (by simp) (AllReadyH.cons rfl (fun K hK => ?_) AllReadyH.nil)
 rw [if_pos (by rfl)]
 refine wp_store_row 51 _ _ rfl R (rcs (rm 4 0 ((Qtx.2 : Nat) : Int) 0 false 0 0 0 0 0)) rfl rfl 51 _ HQd.out.q.res (by kernel_rfl) rfl (rcs_one _) ?_
 have HB2 : Hid (RB (Wd.setRow R (rcs (rm 4 0 ((Qtx.2 : Nat) : Int) 0 false 0 0 0 0 0))) X (rm 4 0 ((Qtx.2 : Nat) : Int) 0 false 0 0 0 0 0)) := Lib.hid ((setRow_other _ _ _ _ (by have := HQd.out.q.ord; omega)).trans HBX.out)
 refine hK.out _ _ HB2 (fun hHeld2 => ?_)
 clear hK K hHeld
 have hHeld := hHeld2
 clear hHeld2
 (try simp only [Act.put, List.setIfInBounds_toArray, List.set_cons_zero, List.set_cons_succ])
 refine wpAnyH_take (i := 4) (oi := ⟨some 3, _, _, _, _, _⟩) (v := .int .i64 (endR Qtx.1)) rfl (by kernel_rfl) (by kernel_rfl) (by kernel_rfl) (fun _ _ _ h => h) (Or.inl ⟨by rfl, fun w' hw' => ?_⟩) (by assumption) ?_
 · clear hHeld
   go_simp
 simp only [Act.put, List.setIfInBounds_toArray, List.set_cons_zero, List.set_cons_succ]
 refine wpAnyH_done (by kernel_rfl) ?_ _
 clear hHeld
 have HRF : Hid (RB (Wd.setRow R (rcs (rm 4 0 ((Qtx.2 : Nat) : Int) 0 false 0 0 0 0 0))) R (rm 4 0 ((Qtx.2 : Nat) : Int) 0 false 0 0 0 0 0)) := Lib.hid (HQd.out.q.res.set _)
 have HG : Hid (GivesRd W B Bs (.returned (.tuple #[.agg (rcs (rm 4 0 ((Qtx.2 : Nat) : Int) 0 false 0 0 0 0 0)), .int .i64 (endR Qtx.1)])) (Wd.setRow R (rcs (rm 4 0 ((Qtx.2 : Nat) : Int) 0 false 0 0 0 0 0)))) := Lib.hid (by
  have ho := HQd.out.q.ord
  have hcc : Chg (fun k => k = B) W (Wd.setRow R (rcs (rm 4 0 ((Qtx.2 : Nat) : Int) 0 false 0 0 0 0 0))) := HQd.out.q.chg.trans (T := fun k => k = R) ⟨rfl, rfl, rfl, by simp [World.setRow], fun k _ hn => setRow_other _ _ _ _ hn⟩ fun k hk e => by omega
  have hE : readE Bs = endR Qtx.1 := HRD.out.1
  refine ⟨(rm 4 0 ((Qtx.2 : Nat) : Int) 0 false 0 0 0 0 0), [], [], [], by rw [hE], rm_lists _ _ _ _ _ _ _ _ _ _ _, fun _ => ?_, hcc, (fun a h => by have h' : (none : Option Addr) = some a := h; cases h'), (fun a h => by have h' : (none : Option Addr) = some a := h; cases h'), (fun a h => by have h' : (none : Option Addr) = some a := h; cases h')⟩
  rw [HRD.out.2]
  rfl)
 go_wp2_with fail
 refine bodyPost_ret (v := .tuple #[.agg (rcs (rm 4 0 ((Qtx.2 : Nat) : Int) 0 false 0 0 0 0 0)), .int .i64 (endR Qtx.1)]) ?_ rfl HG.out
 exact results_rc rfl _ _ R (rm 4 0 ((Qtx.2 : Nat) : Int) 0 false 0 0 0 0 0) _ rfl rfl HRF.out
set_option maxHeartbeats 8000000 in
theorem rec_read5 (W : World) (N B : Nat) (Bs : List Nat) (hz : Zw W N B (0, Bs)) (hk : (((numR ((0, Bs) : St) 1).2 : Nat) : Int) = 5) : Calls Tryz.prog 92 #[.pointer (some ⟨B, 0, none⟩)] W (GivesRd W B Bs) := by
 obtain ⟨R, hR⟩ : ∃ R, W.heap.size = R := ⟨_, rfl⟩
 obtain ⟨W0, hW0, hr0, hb0⟩ : ∃ W0, W.alloc (.cells zr 51) = W0 ∧ RB W0 R rz ∧ Below W.heap.size W W0 := ⟨_, rfl, by rw [← hR]; exact alloc_block W _, (Below.refl _ _).alloc (Nat.le_refl _) _⟩
 have HZ0 := Lib.hid (hz.below hb0)
 have HRE := Lib.hid hR
 have HW0 := Lib.hid hW0
 have HR0b := Lib.hid hr0
 have HB0 := Lib.hid hb0
 have HNR : Hid (N ≤ R) := Lib.hid (by have := hz.size; omega)
 obtain ⟨R0, hR0⟩ : ∃ Q, numR ((0, Bs) : St) 1 = Q := ⟨_, rfl⟩
 have hn := zw_num HZ0.out 1
 have hf := fit_1 (S := (0, Bs)) HZ0.out.bytes
 rw [hR0] at hn hf hk
 have HR0 := Lib.hid hR0
 have hx0 : IntKind.u8.wrap ((R0.2 : Nat) : Int) = (R0.2 : Nat) := u8_keep hf
 rw [hk] at hn hx0
 have HKK := Lib.hid hk
 clear hR hW0 hr0 hb0 hR0 hf hz hk
 go_enter Tryz.func92, Tryz.ntmps92
 go_upto_region 1 with (fail)
 rw [HW0.out, HRE.out]
 go_wp2_with fail
 refine hn.mono ?_
 rintro e w1 ⟨rfl, hz1, hc1⟩
 obtain ⟨X, hX⟩ : ∃ X, w1.heap.size = X := ⟨_, rfl⟩
 have hRX : R < X := by have := block_lt HR0b.out; have := hc1.size; omega
 have hlow := HZ0.out.low
 have hNR := HNR.out
 have hres := HR0b.out.chg hc1 (by omega)
 have hch0 : Chg (fun k => k = B) W w1 := (Chg.of_below (S := fun k => k = B) HB0.out).trans hc1 fun _ _ e => e
 obtain ⟨w1a, hw1a, hxa, hba⟩ : ∃ w1a, w1.alloc (.cells zr 51) = w1a ∧ RB w1a X rz ∧ Below w1.heap.size w1 w1a := ⟨_, rfl, by rw [← hX]; exact alloc_block w1 _, (Below.refl _ _).alloc (Nat.le_refl _) _⟩
 have hQa : Qz W w1a N B R X R0.1 rz := ⟨hz1.below hba, hxa, hres.later hba, hch0.trans (Chg.of_below (S := fun k => k = B) hba) fun _ _ e => e, by omega, hRX, by have := HRE.out; omega⟩
 obtain ⟨w2, hw2, hQ2⟩ : ∃ w2, w1a.setRow X (rcs (rk 5)) = w2 ∧ Qz W w2 N B R X R0.1 (rk 5) := ⟨_, rfl, hQa.set _⟩
 have HXa := Lib.hid hxa
 have HW1a := Lib.hid hw1a
 have HW2 := Lib.hid hw2
 have HQ2 := Lib.hid hQ2
 have HXE := Lib.hid hX
 clear hz1 hc1 hX hRX hlow hNR hres hch0 hw1a hxa hba hQa hw2 hQ2 hn
 have c0 : w2.cell? ⟨X, 0, none⟩ = some (.int .u8 5) := block_cell HQ2.out.x rfl
 go_wp2_with ((try rw [HXE.out]); (try rw [HW1a.out]); (with_reducible refine wpList_store_rc (rk 5) HXa.out ?_ ?_ ?_); rfl; rfl; rw [HW2.out])
 have hpa := parts_any 5 w2
 unfold GivesPt at hpa
 rw [show ptc 5 = #[.bool false, .bool true, .bool false, .bool false, .bool false, .bool false] from rfl, show kOk 5 = true from rfl] at hpa
 refine hpa.mono ?_
 rintro e w3 ⟨rfl, h3⟩
 have HQ3 := Lib.hid (HQ2.out.later h3)
 clear h3 hpa c0 HQ2 hx0
 obtain ⟨Pb, hPb⟩ : ∃ n, w3.heap.size = n := ⟨_, rfl⟩
 obtain ⟨w4, hwn, hxn, hbn⟩ : ∃ w4, (w3.alloc (.cells pz 194)).setRow Pb #[.bool false, .bool true, .bool false, .bool false, .bool false, .bool false] = w4 ∧ w4.heap[Pb]? = some (.cells #[.bool false, .bool true, .bool false, .bool false, .bool false, .bool false] 194 (0, 0)) ∧ Below w3.heap.size w3 w4 := ⟨_, rfl, by rw [← hPb]; exact setRow_heap _ _ _ _ _ _ (alloc_block w3 _), below_setRow ((Below.refl _ _).alloc (Nat.le_refl _) _) (by omega) _⟩
 have hxz := alloc_block w3 (.cells pz 194)
 rw [hPb] at hxz
 have HQ4 : Hid (Qp W w4 N B R X Pb #[.bool false, .bool true, .bool false, .bool false, .bool false, .bool false] R0.1 (rk 5)) := Lib.hid ⟨HQ3.out.later hbn, hxn, by have := block_lt HQ3.out.x; omega⟩
 have HPZ := Lib.hid hxz
 have HWN := Lib.hid hwn
 have HNN := Lib.hid hPb
 have HS6 : Hid ((#[.bool false, .bool true, .bool false, .bool false, .bool false, .bool false] : Array Value).size = 6) := Lib.hid rfl
 have HA6 : Hid ((#[.bool false, .bool true, .bool false, .bool false, .bool false, .bool false] : Array Value).all (·.oneCell') = true) := Lib.hid (by simp [Value.oneCell'])
 clear hxz hxn hbn hwn hPb HQ3
 have p0 := HQ4.out.c (j := 0) (v := .bool false) rfl
 have p1 := HQ4.out.c (j := 1) (v := .bool true) rfl
 have p2 := HQ4.out.c (j := 2) (v := .bool false) rfl
 have p3 := HQ4.out.c (j := 3) (v := .bool false) rfl
 have p4 := HQ4.out.c (j := 4) (v := .bool false) rfl
 have p5 := HQ4.out.c (j := 5) (v := .bool false) rfl
 go_wp2_with ((try rw [HNN.out]); (with_reducible refine wpList_store_pt #[.bool false, .bool true, .bool false, .bool false, .bool false, .bool false] HS6.out HA6.out HPZ.out ?_ ?_ ?_); rfl; rfl; rw [HWN.out])
 have hn := zw_num HQ4.out.q.z 4
 obtain ⟨Qtx, hQtx⟩ : ∃ Q, numR R0.1 4 = Q := ⟨_, rfl⟩
 have hf := fit_4 HQ4.out.q.z.bytes
 rw [hQtx] at hn hf
 have hxtx : IntKind.u32.wrap ((Qtx.2 : Nat) : Int) = (Qtx.2 : Nat) := u32_keep hf
 clear hf
 have HQtx := Lib.hid hQtx
 clear hQtx
 refine hn.mono ?_
 rintro e y5 ⟨rfl, hz, hc⟩
 have HQb := Lib.hid (HQ4.out.low hz hc)
 clear hz hc hn HQ4
 clear p0 p1 p2 p3 p4 p5
 obtain ⟨cy, cf⟩ := HQb.out.q.cx (j := 2) (v := .int .u32 0) rfl
 go_upto_region 9 with (fail)
 clear cy cf hxtx
 have hq := HQb.out.put 2 (.int .u32 ((Qtx.2 : Nat) : Int)) (rm 5 0 ((Qtx.2 : Nat) : Int) 0 false 0 0 0 0 0) rfl
 generalize y5.setCell ⟨X, 2, none⟩ (.int .u32 ((Qtx.2 : Nat) : Int)) = w5 at *
 have HQ5 := Lib.hid hq
 clear hq HQb
 have p0 := HQ5.out.c (j := 0) (v := .bool false) rfl
 have p1 := HQ5.out.c (j := 1) (v := .bool true) rfl
 have p2 := HQ5.out.c (j := 2) (v := .bool false) rfl
 have p3 := HQ5.out.c (j := 3) (v := .bool false) rfl
 have p4 := HQ5.out.c (j := 4) (v := .bool false) rfl
 have p5 := HQ5.out.c (j := 5) (v := .bool false) rfl
 have HRD := Lib.hid (rd_of (D := ⟨Qtx.1, { noX with k := 5, sg := 0, tx := ((Qtx.2 : Nat) : Int), st := 0, cp := false, key := (0, 0, 0), d := 0, o := 0 }, 0⟩) HR0.out HKK.out rfl (by
  simp [rdX, rd4, keyR, HQtx.out, noX]))
 go_wp2_with fail
 clear p0 p1 p2 p3 p4 p5
 have HXn := Lib.hid HQ5.out.q.x
 have hd := HQ5.out.later (show Below w5.heap.size w5 w5.drew from (Below.refl _ _).drew)
 have HQd := Lib.hid hd
 have HBX : Hid (RB w5.drew X (rm 5 0 ((Qtx.2 : Nat) : Int) 0 false 0 0 0 0 0)) := Lib.hid hd.q.x
 clear hd
 refine wp_region_held_drew (S := fun w' => Hid (RB w' X (rm 5 0 ((Qtx.2 : Nat) : Int) 0 false 0 0 0 0 0))) (by kernel_rfl) HBX (fun hHeld => ?_)
 refine wpAnyH_take (i := 0) (oi := ⟨some 90, _, _, _, _, _⟩) (v := .agg (rcs (rm 5 0 ((Qtx.2 : Nat) : Int) 0 false 0 0 0 0 0))) rfl (by kernel_rfl) (by kernel_rfl) (by kernel_rfl) (fun _ _ _ h => h) (Or.inl ⟨by rfl, fun w' hw' => held_load_rc rfl (Hid.out hw')⟩) (by assumption) ?_
 simp only [Act.put, List.setIfInBounds_toArray, List.set_cons_zero, List.set_cons_succ]
 refine wpAnyH_take (i := 1) (oi := ⟨some 91, _, _, _, _, _⟩) (v := .pointer (some ⟨B, 0, none⟩)) rfl (by kernel_rfl) (by kernel_rfl) (by kernel_rfl) (fun _ _ _ h => h) (Or.inl ⟨by rfl, fun w' hw' => ?_⟩) (by assumption) ?_
 · clear hHeld
   go_simp
 simp only [Act.put, List.setIfInBounds_toArray, List.set_cons_zero, List.set_cons_succ]
 generalize w5.drew = Wd at *
 refine wpAnyH_ready (rs := [2]) (by kernel_rfl) (by simp) (AllReadyH.cons rfl (fun K hK => ?_) AllReadyH.nil)
 go_simp
 go_wp2_with fail
 refine (zw_end HQd.out.q.z).mono ?_
 rintro e wz ⟨rfl, rfl⟩
 go_wp2_with fail
 refine hK.out _ _ HBX (fun hHeld2 => ?_)
 clear hK K hHeld
 have hHeld := hHeld2
 clear hHeld2
 (try simp only [Act.put, List.setIfInBounds_toArray, List.set_cons_zero, List.set_cons_succ])
 refine wpAnyH_ready (rs := [3]) (by kernel_rfl) (by simp) (AllReadyH.cons rfl (fun K hK => ?_) AllReadyH.nil)
 rw [if_pos (by rfl)]
 refine wp_store_row 51 _ _ rfl R (rcs (rm 5 0 ((Qtx.2 : Nat) : Int) 0 false 0 0 0 0 0)) rfl rfl 51 _ HQd.out.q.res (by kernel_rfl) rfl (rcs_one _) ?_
 have HB2 : Hid (RB (Wd.setRow R (rcs (rm 5 0 ((Qtx.2 : Nat) : Int) 0 false 0 0 0 0 0))) X (rm 5 0 ((Qtx.2 : Nat) : Int) 0 false 0 0 0 0 0)) := Lib.hid ((setRow_other _ _ _ _ (by have := HQd.out.q.ord; omega)).trans HBX.out)
 refine hK.out _ _ HB2 (fun hHeld2 => ?_)
 clear hK K hHeld
 have hHeld := hHeld2
 clear hHeld2
 (try simp only [Act.put, List.setIfInBounds_toArray, List.set_cons_zero, List.set_cons_succ])
 refine wpAnyH_take (i := 4) (oi := ⟨some 3, _, _, _, _, _⟩) (v := .int .i64 (endR Qtx.1)) rfl (by kernel_rfl) (by kernel_rfl) (by kernel_rfl) (fun _ _ _ h => h) (Or.inl ⟨by rfl, fun w' hw' => ?_⟩) (by assumption) ?_
 · clear hHeld
   go_simp
 simp only [Act.put, List.setIfInBounds_toArray, List.set_cons_zero, List.set_cons_succ]
 refine wpAnyH_done (by kernel_rfl) ?_ _
 clear hHeld
 have HRF : Hid (RB (Wd.setRow R (rcs (rm 5 0 ((Qtx.2 : Nat) : Int) 0 false 0 0 0 0 0))) R (rm 5 0 ((Qtx.2 : Nat) : Int) 0 false 0 0 0 0 0)) := Lib.hid (HQd.out.q.res.set _)
 have HG : Hid (GivesRd W B Bs (.returned (.tuple #[.agg (rcs (rm 5 0 ((Qtx.2 : Nat) : Int) 0 false 0 0 0 0 0)), .int .i64 (endR Qtx.1)])) (Wd.setRow R (rcs (rm 5 0 ((Qtx.2 : Nat) : Int) 0 false 0 0 0 0 0)))) := Lib.hid (by
  have ho := HQd.out.q.ord
  have hcc : Chg (fun k => k = B) W (Wd.setRow R (rcs (rm 5 0 ((Qtx.2 : Nat) : Int) 0 false 0 0 0 0 0))) := HQd.out.q.chg.trans (T := fun k => k = R) ⟨rfl, rfl, rfl, by simp [World.setRow], fun k _ hn => setRow_other _ _ _ _ hn⟩ fun k hk e => by omega
  have hE : readE Bs = endR Qtx.1 := HRD.out.1
  refine ⟨(rm 5 0 ((Qtx.2 : Nat) : Int) 0 false 0 0 0 0 0), [], [], [], by rw [hE], rm_lists _ _ _ _ _ _ _ _ _ _ _, fun _ => ?_, hcc, (fun a h => by have h' : (none : Option Addr) = some a := h; cases h'), (fun a h => by have h' : (none : Option Addr) = some a := h; cases h'), (fun a h => by have h' : (none : Option Addr) = some a := h; cases h')⟩
  rw [HRD.out.2]
  rfl)
 go_wp2_with fail
 refine bodyPost_ret (v := .tuple #[.agg (rcs (rm 5 0 ((Qtx.2 : Nat) : Int) 0 false 0 0 0 0 0)), .int .i64 (endR Qtx.1)]) ?_ rfl HG.out
 exact results_rc rfl _ _ R (rm 5 0 ((Qtx.2 : Nat) : Int) 0 false 0 0 0 0 0) _ rfl rfl HRF.out
set_option maxHeartbeats 8000000 in
theorem rec_read6 (W : World) (N B : Nat) (Bs : List Nat) (hz : Zw W N B (0, Bs)) (hk : (((numR ((0, Bs) : St) 1).2 : Nat) : Int) = 6) : Calls Tryz.prog 92 #[.pointer (some ⟨B, 0, none⟩)] W (GivesRd W B Bs) := by
 obtain ⟨R, hR⟩ : ∃ R, W.heap.size = R := ⟨_, rfl⟩
 obtain ⟨W0, hW0, hr0, hb0⟩ : ∃ W0, W.alloc (.cells zr 51) = W0 ∧ RB W0 R rz ∧ Below W.heap.size W W0 := ⟨_, rfl, by rw [← hR]; exact alloc_block W _, (Below.refl _ _).alloc (Nat.le_refl _) _⟩
 have HZ0 := Lib.hid (hz.below hb0)
 have HRE := Lib.hid hR
 have HW0 := Lib.hid hW0
 have HR0b := Lib.hid hr0
 have HB0 := Lib.hid hb0
 have HNR : Hid (N ≤ R) := Lib.hid (by have := hz.size; omega)
 obtain ⟨R0, hR0⟩ : ∃ Q, numR ((0, Bs) : St) 1 = Q := ⟨_, rfl⟩
 have hn := zw_num HZ0.out 1
 have hf := fit_1 (S := (0, Bs)) HZ0.out.bytes
 rw [hR0] at hn hf hk
 have HR0 := Lib.hid hR0
 have hx0 : IntKind.u8.wrap ((R0.2 : Nat) : Int) = (R0.2 : Nat) := u8_keep hf
 rw [hk] at hn hx0
 have HKK := Lib.hid hk
 clear hR hW0 hr0 hb0 hR0 hf hz hk
 go_enter Tryz.func92, Tryz.ntmps92
 go_upto_region 1 with (fail)
 rw [HW0.out, HRE.out]
 go_wp2_with fail
 refine hn.mono ?_
 rintro e w1 ⟨rfl, hz1, hc1⟩
 obtain ⟨X, hX⟩ : ∃ X, w1.heap.size = X := ⟨_, rfl⟩
 have hRX : R < X := by have := block_lt HR0b.out; have := hc1.size; omega
 have hlow := HZ0.out.low
 have hNR := HNR.out
 have hres := HR0b.out.chg hc1 (by omega)
 have hch0 : Chg (fun k => k = B) W w1 := (Chg.of_below (S := fun k => k = B) HB0.out).trans hc1 fun _ _ e => e
 obtain ⟨w1a, hw1a, hxa, hba⟩ : ∃ w1a, w1.alloc (.cells zr 51) = w1a ∧ RB w1a X rz ∧ Below w1.heap.size w1 w1a := ⟨_, rfl, by rw [← hX]; exact alloc_block w1 _, (Below.refl _ _).alloc (Nat.le_refl _) _⟩
 have hQa : Qz W w1a N B R X R0.1 rz := ⟨hz1.below hba, hxa, hres.later hba, hch0.trans (Chg.of_below (S := fun k => k = B) hba) fun _ _ e => e, by omega, hRX, by have := HRE.out; omega⟩
 obtain ⟨w2, hw2, hQ2⟩ : ∃ w2, w1a.setRow X (rcs (rk 6)) = w2 ∧ Qz W w2 N B R X R0.1 (rk 6) := ⟨_, rfl, hQa.set _⟩
 have HXa := Lib.hid hxa
 have HW1a := Lib.hid hw1a
 have HW2 := Lib.hid hw2
 have HQ2 := Lib.hid hQ2
 have HXE := Lib.hid hX
 clear hz1 hc1 hX hRX hlow hNR hres hch0 hw1a hxa hba hQa hw2 hQ2 hn
 have c0 : w2.cell? ⟨X, 0, none⟩ = some (.int .u8 6) := block_cell HQ2.out.x rfl
 go_wp2_with ((try rw [HXE.out]); (try rw [HW1a.out]); (with_reducible refine wpList_store_rc (rk 6) HXa.out ?_ ?_ ?_); rfl; rfl; rw [HW2.out])
 have hpa := parts_any 6 w2
 unfold GivesPt at hpa
 rw [show ptc 6 = #[.bool false, .bool true, .bool false, .bool true, .bool false, .bool false] from rfl, show kOk 6 = true from rfl] at hpa
 refine hpa.mono ?_
 rintro e w3 ⟨rfl, h3⟩
 have HQ3 := Lib.hid (HQ2.out.later h3)
 clear h3 hpa c0 HQ2 hx0
 obtain ⟨Pb, hPb⟩ : ∃ n, w3.heap.size = n := ⟨_, rfl⟩
 obtain ⟨w4, hwn, hxn, hbn⟩ : ∃ w4, (w3.alloc (.cells pz 194)).setRow Pb #[.bool false, .bool true, .bool false, .bool true, .bool false, .bool false] = w4 ∧ w4.heap[Pb]? = some (.cells #[.bool false, .bool true, .bool false, .bool true, .bool false, .bool false] 194 (0, 0)) ∧ Below w3.heap.size w3 w4 := ⟨_, rfl, by rw [← hPb]; exact setRow_heap _ _ _ _ _ _ (alloc_block w3 _), below_setRow ((Below.refl _ _).alloc (Nat.le_refl _) _) (by omega) _⟩
 have hxz := alloc_block w3 (.cells pz 194)
 rw [hPb] at hxz
 have HQ4 : Hid (Qp W w4 N B R X Pb #[.bool false, .bool true, .bool false, .bool true, .bool false, .bool false] R0.1 (rk 6)) := Lib.hid ⟨HQ3.out.later hbn, hxn, by have := block_lt HQ3.out.x; omega⟩
 have HPZ := Lib.hid hxz
 have HWN := Lib.hid hwn
 have HNN := Lib.hid hPb
 have HS6 : Hid ((#[.bool false, .bool true, .bool false, .bool true, .bool false, .bool false] : Array Value).size = 6) := Lib.hid rfl
 have HA6 : Hid ((#[.bool false, .bool true, .bool false, .bool true, .bool false, .bool false] : Array Value).all (·.oneCell') = true) := Lib.hid (by simp [Value.oneCell'])
 clear hxz hxn hbn hwn hPb HQ3
 have p0 := HQ4.out.c (j := 0) (v := .bool false) rfl
 have p1 := HQ4.out.c (j := 1) (v := .bool true) rfl
 have p2 := HQ4.out.c (j := 2) (v := .bool false) rfl
 have p3 := HQ4.out.c (j := 3) (v := .bool true) rfl
 have p4 := HQ4.out.c (j := 4) (v := .bool false) rfl
 have p5 := HQ4.out.c (j := 5) (v := .bool false) rfl
 go_wp2_with ((try rw [HNN.out]); (with_reducible refine wpList_store_pt #[.bool false, .bool true, .bool false, .bool true, .bool false, .bool false] HS6.out HA6.out HPZ.out ?_ ?_ ?_); rfl; rfl; rw [HWN.out])
 have hn := zw_num HQ4.out.q.z 4
 obtain ⟨Qtx, hQtx⟩ : ∃ Q, numR R0.1 4 = Q := ⟨_, rfl⟩
 have hf := fit_4 HQ4.out.q.z.bytes
 rw [hQtx] at hn hf
 have hxtx : IntKind.u32.wrap ((Qtx.2 : Nat) : Int) = (Qtx.2 : Nat) := u32_keep hf
 clear hf
 have HQtx := Lib.hid hQtx
 clear hQtx
 refine hn.mono ?_
 rintro e y5 ⟨rfl, hz, hc⟩
 have HQb := Lib.hid (HQ4.out.low hz hc)
 clear hz hc hn HQ4
 clear p0 p1 p2 p3 p4 p5
 obtain ⟨cy, cf⟩ := HQb.out.q.cx (j := 2) (v := .int .u32 0) rfl
 go_upto_region 9 with (fail)
 clear cy cf hxtx
 have hq := HQb.out.put 2 (.int .u32 ((Qtx.2 : Nat) : Int)) (rm 6 0 ((Qtx.2 : Nat) : Int) 0 false 0 0 0 0 0) rfl
 generalize y5.setCell ⟨X, 2, none⟩ (.int .u32 ((Qtx.2 : Nat) : Int)) = w5 at *
 have HQ5 := Lib.hid hq
 clear hq HQb
 have p0 := HQ5.out.c (j := 0) (v := .bool false) rfl
 have p1 := HQ5.out.c (j := 1) (v := .bool true) rfl
 have p2 := HQ5.out.c (j := 2) (v := .bool false) rfl
 have p3 := HQ5.out.c (j := 3) (v := .bool true) rfl
 have p4 := HQ5.out.c (j := 4) (v := .bool false) rfl
 have p5 := HQ5.out.c (j := 5) (v := .bool false) rfl
 go_wp2_with fail
 have hn := zw_num HQ5.out.q.z 1
 have hf := fit_1 HQ5.out.q.z.bytes
 obtain ⟨Qka, hQka⟩ : ∃ Q, numR Qtx.1 1 = Q := ⟨_, rfl⟩
 rw [hQka] at hn hf
 have hxka : IntKind.u8.wrap ((Qka.2 : Nat) : Int) = (Qka.2 : Nat) := u8_keep hf
 have HQka := Lib.hid hQka
 clear hf hQka
 refine hn.mono ?_
 rintro e w6 ⟨rfl, hz, hc⟩
 have HQ6 := Lib.hid (HQ5.out.low hz hc)
 clear hn hz hc HQ5
 go_wp2_with fail
 have hn := zw_num HQ6.out.q.z 1
 have hf := fit_1 HQ6.out.q.z.bytes
 obtain ⟨Qkb, hQkb⟩ : ∃ Q, numR Qka.1 1 = Q := ⟨_, rfl⟩
 rw [hQkb] at hn hf
 have hxkb : IntKind.u8.wrap ((Qkb.2 : Nat) : Int) = (Qkb.2 : Nat) := u8_keep hf
 have HQkb := Lib.hid hQkb
 clear hf hQkb
 refine hn.mono ?_
 rintro e w7 ⟨rfl, hz, hc⟩
 have HQ7 := Lib.hid (HQ6.out.low hz hc)
 clear hn hz hc HQ6
 go_wp2_with fail
 have hn := zw_num HQ7.out.q.z 1
 have hf := fit_1 HQ7.out.q.z.bytes
 obtain ⟨Qkc, hQkc⟩ : ∃ Q, numR Qkb.1 1 = Q := ⟨_, rfl⟩
 rw [hQkc] at hn hf
 have hxkc : IntKind.u8.wrap ((Qkc.2 : Nat) : Int) = (Qkc.2 : Nat) := u8_keep hf
 have HQkc := Lib.hid hQkc
 clear hf hQkc
 refine hn.mono ?_
 rintro e w8 ⟨rfl, hz, hc⟩
 have HQ8 := Lib.hid (HQ7.out.low hz hc)
 clear hn hz hc HQ7
 obtain ⟨w9, hgen, hq⟩ : ∃ w9, w8.setRow X (rcs { (rm 6 0 ((Qtx.2 : Nat) : Int) 0 false 0 0 0 0 0) with ka := ((Qka.2 : Nat) : Int), kb := ((Qkb.2 : Nat) : Int), kc := ((Qkc.2 : Nat) : Int) }) = w9 ∧ Qp W w9 N B R X Pb #[.bool false, .bool true, .bool false, .bool true, .bool false, .bool false] Qkc.1 (rm 6 0 ((Qtx.2 : Nat) : Int) 0 false ((Qka.2 : Nat) : Int) ((Qkb.2 : Nat) : Int) ((Qkc.2 : Nat) : Int) 0 0) := ⟨_, rfl, HQ8.out.set (rm 6 0 ((Qtx.2 : Nat) : Int) 0 false ((Qka.2 : Nat) : Int) ((Qkb.2 : Nat) : Int) ((Qkc.2 : Nat) : Int) 0 0)⟩
 have HGEN := Lib.hid hgen
 have HQ9 := Lib.hid hq
 clear hgen hq
 go_upto_region 14 with ((with_reducible refine wpList_store_ky ((Qka.2 : Nat) : Int) ((Qkb.2 : Nat) : Int) ((Qkc.2 : Nat) : Int) HQ8.out.q.x ?_ ?_ ?_); rfl; rfl; rw [HGEN.out])
 clear HGEN hxka hxkb hxkc HQ8
 clear p0 p1 p2 p3 p4 p5
 have p0 := HQ9.out.c (j := 0) (v := .bool false) rfl
 have p1 := HQ9.out.c (j := 1) (v := .bool true) rfl
 have p2 := HQ9.out.c (j := 2) (v := .bool false) rfl
 have p3 := HQ9.out.c (j := 3) (v := .bool true) rfl
 have p4 := HQ9.out.c (j := 4) (v := .bool false) rfl
 have p5 := HQ9.out.c (j := 5) (v := .bool false) rfl
 go_wp2_with fail
 have hn := zw_int HQ9.out.q.z
 obtain ⟨Qd, hQd⟩ : ∃ Q, numR Qkc.1 8 = Q := ⟨_, rfl⟩
 rw [hQd] at hn
 have HQd := Lib.hid hQd
 clear hQd
 refine hn.mono ?_
 rintro e y10 ⟨rfl, hz, hc⟩
 have HQb := Lib.hid (HQ9.out.low hz hc)
 clear hz hc hn HQ9
 clear p0 p1 p2 p3 p4 p5
 obtain ⟨cy, cf⟩ := HQb.out.q.cx (j := 8) (v := .int .i64 0) rfl
 go_upto_region 15 with (fail)
 clear cy cf
 have hq := HQb.out.put 8 (.int .i64 (sgn Qd.2)) (rm 6 0 ((Qtx.2 : Nat) : Int) 0 false ((Qka.2 : Nat) : Int) ((Qkb.2 : Nat) : Int) ((Qkc.2 : Nat) : Int) (sgn Qd.2) 0) rfl
 generalize y10.setCell ⟨X, 8, none⟩ (.int .i64 (sgn Qd.2)) = w10 at *
 have HQ10 := Lib.hid hq
 clear hq HQb
 have p0 := HQ10.out.c (j := 0) (v := .bool false) rfl
 have p1 := HQ10.out.c (j := 1) (v := .bool true) rfl
 have p2 := HQ10.out.c (j := 2) (v := .bool false) rfl
 have p3 := HQ10.out.c (j := 3) (v := .bool true) rfl
 have p4 := HQ10.out.c (j := 4) (v := .bool false) rfl
 have p5 := HQ10.out.c (j := 5) (v := .bool false) rfl
 have HRD := Lib.hid (rd_of (D := ⟨Qd.1, { noX with k := 6, sg := 0, tx := ((Qtx.2 : Nat) : Int), st := 0, cp := false, key := (((Qka.2 : Nat) : Int), ((Qkb.2 : Nat) : Int), ((Qkc.2 : Nat) : Int)), d := (sgn Qd.2), o := 0 }, 0⟩) HR0.out HKK.out rfl (by
  simp [rdX, rd3, keyR, HQtx.out, HQka.out, HQkb.out, HQkc.out, HQd.out, noX]))
 go_wp2_with fail
 clear p0 p1 p2 p3 p4 p5
 have HXn := Lib.hid HQ10.out.q.x
 have hd := HQ10.out.later (show Below w10.heap.size w10 w10.drew from (Below.refl _ _).drew)
 have HQd := Lib.hid hd
 have HBX : Hid (RB w10.drew X (rm 6 0 ((Qtx.2 : Nat) : Int) 0 false ((Qka.2 : Nat) : Int) ((Qkb.2 : Nat) : Int) ((Qkc.2 : Nat) : Int) (sgn Qd.2) 0)) := Lib.hid hd.q.x
 clear hd
 refine wp_region_held_drew (S := fun w' => Hid (RB w' X (rm 6 0 ((Qtx.2 : Nat) : Int) 0 false ((Qka.2 : Nat) : Int) ((Qkb.2 : Nat) : Int) ((Qkc.2 : Nat) : Int) (sgn Qd.2) 0))) (by kernel_rfl) HBX (fun hHeld => ?_)
 refine wpAnyH_take (i := 0) (oi := ⟨some 90, _, _, _, _, _⟩) (v := .agg (rcs (rm 6 0 ((Qtx.2 : Nat) : Int) 0 false ((Qka.2 : Nat) : Int) ((Qkb.2 : Nat) : Int) ((Qkc.2 : Nat) : Int) (sgn Qd.2) 0))) rfl (by kernel_rfl) (by kernel_rfl) (by kernel_rfl) (fun _ _ _ h => h) (Or.inl ⟨by rfl, fun w' hw' => held_load_rc rfl (Hid.out hw')⟩) (by assumption) ?_
 simp only [Act.put, List.setIfInBounds_toArray, List.set_cons_zero, List.set_cons_succ]
 refine wpAnyH_take (i := 1) (oi := ⟨some 91, _, _, _, _, _⟩) (v := .pointer (some ⟨B, 0, none⟩)) rfl (by kernel_rfl) (by kernel_rfl) (by kernel_rfl) (fun _ _ _ h => h) (Or.inl ⟨by rfl, fun w' hw' => ?_⟩) (by assumption) ?_
 · clear hHeld
   go_simp
 simp only [Act.put, List.setIfInBounds_toArray, List.set_cons_zero, List.set_cons_succ]
 generalize w10.drew = Wd at *
 refine wpAnyH_ready (rs := [2]) (by kernel_rfl) (by simp) (AllReadyH.cons rfl (fun K hK => ?_) AllReadyH.nil)
 go_simp
 go_wp2_with fail
 refine (zw_end HQd.out.q.z).mono ?_
 rintro e wz ⟨rfl, rfl⟩
 go_wp2_with fail
 refine hK.out _ _ HBX (fun hHeld2 => ?_)
 clear hK K hHeld
 have hHeld := hHeld2
 clear hHeld2
 (try simp only [Act.put, List.setIfInBounds_toArray, List.set_cons_zero, List.set_cons_succ])
 refine wpAnyH_ready (rs := [3]) (by kernel_rfl) (by simp) (AllReadyH.cons rfl (fun K hK => ?_) AllReadyH.nil)
 rw [if_pos (by rfl)]
 refine wp_store_row 51 _ _ rfl R (rcs (rm 6 0 ((Qtx.2 : Nat) : Int) 0 false ((Qka.2 : Nat) : Int) ((Qkb.2 : Nat) : Int) ((Qkc.2 : Nat) : Int) (sgn Qd.2) 0)) rfl rfl 51 _ HQd.out.q.res (by kernel_rfl) rfl (rcs_one _) ?_
 have HB2 : Hid (RB (Wd.setRow R (rcs (rm 6 0 ((Qtx.2 : Nat) : Int) 0 false ((Qka.2 : Nat) : Int) ((Qkb.2 : Nat) : Int) ((Qkc.2 : Nat) : Int) (sgn Qd.2) 0))) X (rm 6 0 ((Qtx.2 : Nat) : Int) 0 false ((Qka.2 : Nat) : Int) ((Qkb.2 : Nat) : Int) ((Qkc.2 : Nat) : Int) (sgn Qd.2) 0)) := Lib.hid ((setRow_other _ _ _ _ (by have := HQd.out.q.ord; omega)).trans HBX.out)
 refine hK.out _ _ HB2 (fun hHeld2 => ?_)
 clear hK K hHeld
 have hHeld := hHeld2
 clear hHeld2
 (try simp only [Act.put, List.setIfInBounds_toArray, List.set_cons_zero, List.set_cons_succ])
 refine wpAnyH_take (i := 4) (oi := ⟨some 3, _, _, _, _, _⟩) (v := .int .i64 (endR Qd.1)) rfl (by kernel_rfl) (by kernel_rfl) (by kernel_rfl) (fun _ _ _ h => h) (Or.inl ⟨by rfl, fun w' hw' => ?_⟩) (by assumption) ?_
 · clear hHeld
   go_simp
 simp only [Act.put, List.setIfInBounds_toArray, List.set_cons_zero, List.set_cons_succ]
 refine wpAnyH_done (by kernel_rfl) ?_ _
 clear hHeld
 have HRF : Hid (RB (Wd.setRow R (rcs (rm 6 0 ((Qtx.2 : Nat) : Int) 0 false ((Qka.2 : Nat) : Int) ((Qkb.2 : Nat) : Int) ((Qkc.2 : Nat) : Int) (sgn Qd.2) 0))) R (rm 6 0 ((Qtx.2 : Nat) : Int) 0 false ((Qka.2 : Nat) : Int) ((Qkb.2 : Nat) : Int) ((Qkc.2 : Nat) : Int) (sgn Qd.2) 0)) := Lib.hid (HQd.out.q.res.set _)
 have HG : Hid (GivesRd W B Bs (.returned (.tuple #[.agg (rcs (rm 6 0 ((Qtx.2 : Nat) : Int) 0 false ((Qka.2 : Nat) : Int) ((Qkb.2 : Nat) : Int) ((Qkc.2 : Nat) : Int) (sgn Qd.2) 0)), .int .i64 (endR Qd.1)])) (Wd.setRow R (rcs (rm 6 0 ((Qtx.2 : Nat) : Int) 0 false ((Qka.2 : Nat) : Int) ((Qkb.2 : Nat) : Int) ((Qkc.2 : Nat) : Int) (sgn Qd.2) 0)))) := Lib.hid (by
  have ho := HQd.out.q.ord
  have hcc : Chg (fun k => k = B) W (Wd.setRow R (rcs (rm 6 0 ((Qtx.2 : Nat) : Int) 0 false ((Qka.2 : Nat) : Int) ((Qkb.2 : Nat) : Int) ((Qkc.2 : Nat) : Int) (sgn Qd.2) 0))) := HQd.out.q.chg.trans (T := fun k => k = R) ⟨rfl, rfl, rfl, by simp [World.setRow], fun k _ hn => setRow_other _ _ _ _ hn⟩ fun k hk e => by omega
  have hE : readE Bs = endR Qd.1 := HRD.out.1
  refine ⟨(rm 6 0 ((Qtx.2 : Nat) : Int) 0 false ((Qka.2 : Nat) : Int) ((Qkb.2 : Nat) : Int) ((Qkc.2 : Nat) : Int) (sgn Qd.2) 0), [], [], [], by rw [hE], rm_lists _ _ _ _ _ _ _ _ _ _ _, fun _ => ?_, hcc, (fun a h => by have h' : (none : Option Addr) = some a := h; cases h'), (fun a h => by have h' : (none : Option Addr) = some a := h; cases h'), (fun a h => by have h' : (none : Option Addr) = some a := h; cases h')⟩
  rw [HRD.out.2]
  rfl)
 go_wp2_with fail
 refine bodyPost_ret (v := .tuple #[.agg (rcs (rm 6 0 ((Qtx.2 : Nat) : Int) 0 false ((Qka.2 : Nat) : Int) ((Qkb.2 : Nat) : Int) ((Qkc.2 : Nat) : Int) (sgn Qd.2) 0)), .int .i64 (endR Qd.1)]) ?_ rfl HG.out
 exact results_rc rfl _ _ R (rm 6 0 ((Qtx.2 : Nat) : Int) 0 false ((Qka.2 : Nat) : Int) ((Qkb.2 : Nat) : Int) ((Qkc.2 : Nat) : Int) (sgn Qd.2) 0) _ rfl rfl HRF.out
set_option maxHeartbeats 8000000 in
theorem rec_read7 (W : World) (N B : Nat) (Bs : List Nat) (hz : Zw W N B (0, Bs)) (hk : (((numR ((0, Bs) : St) 1).2 : Nat) : Int) = 7) : Calls Tryz.prog 92 #[.pointer (some ⟨B, 0, none⟩)] W (GivesRd W B Bs) := by
 obtain ⟨R, hR⟩ : ∃ R, W.heap.size = R := ⟨_, rfl⟩
 obtain ⟨W0, hW0, hr0, hb0⟩ : ∃ W0, W.alloc (.cells zr 51) = W0 ∧ RB W0 R rz ∧ Below W.heap.size W W0 := ⟨_, rfl, by rw [← hR]; exact alloc_block W _, (Below.refl _ _).alloc (Nat.le_refl _) _⟩
 have HZ0 := Lib.hid (hz.below hb0)
 have HRE := Lib.hid hR
 have HW0 := Lib.hid hW0
 have HR0b := Lib.hid hr0
 have HB0 := Lib.hid hb0
 have HNR : Hid (N ≤ R) := Lib.hid (by have := hz.size; omega)
 obtain ⟨R0, hR0⟩ : ∃ Q, numR ((0, Bs) : St) 1 = Q := ⟨_, rfl⟩
 have hn := zw_num HZ0.out 1
 have hf := fit_1 (S := (0, Bs)) HZ0.out.bytes
 rw [hR0] at hn hf hk
 have HR0 := Lib.hid hR0
 have hx0 : IntKind.u8.wrap ((R0.2 : Nat) : Int) = (R0.2 : Nat) := u8_keep hf
 rw [hk] at hn hx0
 have HKK := Lib.hid hk
 clear hR hW0 hr0 hb0 hR0 hf hz hk
 go_enter Tryz.func92, Tryz.ntmps92
 go_upto_region 1 with (fail)
 rw [HW0.out, HRE.out]
 go_wp2_with fail
 refine hn.mono ?_
 rintro e w1 ⟨rfl, hz1, hc1⟩
 obtain ⟨X, hX⟩ : ∃ X, w1.heap.size = X := ⟨_, rfl⟩
 have hRX : R < X := by have := block_lt HR0b.out; have := hc1.size; omega
 have hlow := HZ0.out.low
 have hNR := HNR.out
 have hres := HR0b.out.chg hc1 (by omega)
 have hch0 : Chg (fun k => k = B) W w1 := (Chg.of_below (S := fun k => k = B) HB0.out).trans hc1 fun _ _ e => e
 obtain ⟨w1a, hw1a, hxa, hba⟩ : ∃ w1a, w1.alloc (.cells zr 51) = w1a ∧ RB w1a X rz ∧ Below w1.heap.size w1 w1a := ⟨_, rfl, by rw [← hX]; exact alloc_block w1 _, (Below.refl _ _).alloc (Nat.le_refl _) _⟩
 have hQa : Qz W w1a N B R X R0.1 rz := ⟨hz1.below hba, hxa, hres.later hba, hch0.trans (Chg.of_below (S := fun k => k = B) hba) fun _ _ e => e, by omega, hRX, by have := HRE.out; omega⟩
 obtain ⟨w2, hw2, hQ2⟩ : ∃ w2, w1a.setRow X (rcs (rk 7)) = w2 ∧ Qz W w2 N B R X R0.1 (rk 7) := ⟨_, rfl, hQa.set _⟩
 have HXa := Lib.hid hxa
 have HW1a := Lib.hid hw1a
 have HW2 := Lib.hid hw2
 have HQ2 := Lib.hid hQ2
 have HXE := Lib.hid hX
 clear hz1 hc1 hX hRX hlow hNR hres hch0 hw1a hxa hba hQa hw2 hQ2 hn
 have c0 : w2.cell? ⟨X, 0, none⟩ = some (.int .u8 7) := block_cell HQ2.out.x rfl
 go_wp2_with ((try rw [HXE.out]); (try rw [HW1a.out]); (with_reducible refine wpList_store_rc (rk 7) HXa.out ?_ ?_ ?_); rfl; rfl; rw [HW2.out])
 have hpa := parts_any 7 w2
 unfold GivesPt at hpa
 rw [show ptc 7 = #[.bool false, .bool true, .bool false, .bool false, .bool false, .bool false] from rfl, show kOk 7 = true from rfl] at hpa
 refine hpa.mono ?_
 rintro e w3 ⟨rfl, h3⟩
 have HQ3 := Lib.hid (HQ2.out.later h3)
 clear h3 hpa c0 HQ2 hx0
 obtain ⟨Pb, hPb⟩ : ∃ n, w3.heap.size = n := ⟨_, rfl⟩
 obtain ⟨w4, hwn, hxn, hbn⟩ : ∃ w4, (w3.alloc (.cells pz 194)).setRow Pb #[.bool false, .bool true, .bool false, .bool false, .bool false, .bool false] = w4 ∧ w4.heap[Pb]? = some (.cells #[.bool false, .bool true, .bool false, .bool false, .bool false, .bool false] 194 (0, 0)) ∧ Below w3.heap.size w3 w4 := ⟨_, rfl, by rw [← hPb]; exact setRow_heap _ _ _ _ _ _ (alloc_block w3 _), below_setRow ((Below.refl _ _).alloc (Nat.le_refl _) _) (by omega) _⟩
 have hxz := alloc_block w3 (.cells pz 194)
 rw [hPb] at hxz
 have HQ4 : Hid (Qp W w4 N B R X Pb #[.bool false, .bool true, .bool false, .bool false, .bool false, .bool false] R0.1 (rk 7)) := Lib.hid ⟨HQ3.out.later hbn, hxn, by have := block_lt HQ3.out.x; omega⟩
 have HPZ := Lib.hid hxz
 have HWN := Lib.hid hwn
 have HNN := Lib.hid hPb
 have HS6 : Hid ((#[.bool false, .bool true, .bool false, .bool false, .bool false, .bool false] : Array Value).size = 6) := Lib.hid rfl
 have HA6 : Hid ((#[.bool false, .bool true, .bool false, .bool false, .bool false, .bool false] : Array Value).all (·.oneCell') = true) := Lib.hid (by simp [Value.oneCell'])
 clear hxz hxn hbn hwn hPb HQ3
 have p0 := HQ4.out.c (j := 0) (v := .bool false) rfl
 have p1 := HQ4.out.c (j := 1) (v := .bool true) rfl
 have p2 := HQ4.out.c (j := 2) (v := .bool false) rfl
 have p3 := HQ4.out.c (j := 3) (v := .bool false) rfl
 have p4 := HQ4.out.c (j := 4) (v := .bool false) rfl
 have p5 := HQ4.out.c (j := 5) (v := .bool false) rfl
 go_wp2_with ((try rw [HNN.out]); (with_reducible refine wpList_store_pt #[.bool false, .bool true, .bool false, .bool false, .bool false, .bool false] HS6.out HA6.out HPZ.out ?_ ?_ ?_); rfl; rfl; rw [HWN.out])
 have hn := zw_num HQ4.out.q.z 4
 obtain ⟨Qtx, hQtx⟩ : ∃ Q, numR R0.1 4 = Q := ⟨_, rfl⟩
 have hf := fit_4 HQ4.out.q.z.bytes
 rw [hQtx] at hn hf
 have hxtx : IntKind.u32.wrap ((Qtx.2 : Nat) : Int) = (Qtx.2 : Nat) := u32_keep hf
 clear hf
 have HQtx := Lib.hid hQtx
 clear hQtx
 refine hn.mono ?_
 rintro e y5 ⟨rfl, hz, hc⟩
 have HQb := Lib.hid (HQ4.out.low hz hc)
 clear hz hc hn HQ4
 clear p0 p1 p2 p3 p4 p5
 obtain ⟨cy, cf⟩ := HQb.out.q.cx (j := 2) (v := .int .u32 0) rfl
 go_upto_region 9 with (fail)
 clear cy cf hxtx
 have hq := HQb.out.put 2 (.int .u32 ((Qtx.2 : Nat) : Int)) (rm 7 0 ((Qtx.2 : Nat) : Int) 0 false 0 0 0 0 0) rfl
 generalize y5.setCell ⟨X, 2, none⟩ (.int .u32 ((Qtx.2 : Nat) : Int)) = w5 at *
 have HQ5 := Lib.hid hq
 clear hq HQb
 have p0 := HQ5.out.c (j := 0) (v := .bool false) rfl
 have p1 := HQ5.out.c (j := 1) (v := .bool true) rfl
 have p2 := HQ5.out.c (j := 2) (v := .bool false) rfl
 have p3 := HQ5.out.c (j := 3) (v := .bool false) rfl
 have p4 := HQ5.out.c (j := 4) (v := .bool false) rfl
 have p5 := HQ5.out.c (j := 5) (v := .bool false) rfl
 have HRD := Lib.hid (rd_of (D := ⟨Qtx.1, { noX with k := 7, sg := 0, tx := ((Qtx.2 : Nat) : Int), st := 0, cp := false, key := (0, 0, 0), d := 0, o := 0 }, 0⟩) HR0.out HKK.out rfl (by
  simp [rdX, rd4, keyR, HQtx.out, noX]))
 go_wp2_with fail
 clear p0 p1 p2 p3 p4 p5
 have HXn := Lib.hid HQ5.out.q.x
 have hd := HQ5.out.later (show Below w5.heap.size w5 w5.drew from (Below.refl _ _).drew)
 have HQd := Lib.hid hd
 have HBX : Hid (RB w5.drew X (rm 7 0 ((Qtx.2 : Nat) : Int) 0 false 0 0 0 0 0)) := Lib.hid hd.q.x
 clear hd
 refine wp_region_held_drew (S := fun w' => Hid (RB w' X (rm 7 0 ((Qtx.2 : Nat) : Int) 0 false 0 0 0 0 0))) (by kernel_rfl) HBX (fun hHeld => ?_)
 refine wpAnyH_take (i := 0) (oi := ⟨some 90, _, _, _, _, _⟩) (v := .agg (rcs (rm 7 0 ((Qtx.2 : Nat) : Int) 0 false 0 0 0 0 0))) rfl (by kernel_rfl) (by kernel_rfl) (by kernel_rfl) (fun _ _ _ h => h) (Or.inl ⟨by rfl, fun w' hw' => held_load_rc rfl (Hid.out hw')⟩) (by assumption) ?_
 simp only [Act.put, List.setIfInBounds_toArray, List.set_cons_zero, List.set_cons_succ]
 refine wpAnyH_take (i := 1) (oi := ⟨some 91, _, _, _, _, _⟩) (v := .pointer (some ⟨B, 0, none⟩)) rfl (by kernel_rfl) (by kernel_rfl) (by kernel_rfl) (fun _ _ _ h => h) (Or.inl ⟨by rfl, fun w' hw' => ?_⟩) (by assumption) ?_
 · clear hHeld
   go_simp
 simp only [Act.put, List.setIfInBounds_toArray, List.set_cons_zero, List.set_cons_succ]
 generalize w5.drew = Wd at *
 refine wpAnyH_ready (rs := [2]) (by kernel_rfl) (by simp) (AllReadyH.cons rfl (fun K hK => ?_) AllReadyH.nil)
 go_simp
 go_wp2_with fail
 refine (zw_end HQd.out.q.z).mono ?_
 rintro e wz ⟨rfl, rfl⟩
 go_wp2_with fail
 refine hK.out _ _ HBX (fun hHeld2 => ?_)
 clear hK K hHeld
 have hHeld := hHeld2
 clear hHeld2
 (try simp only [Act.put, List.setIfInBounds_toArray, List.set_cons_zero, List.set_cons_succ])
 refine wpAnyH_ready (rs := [3]) (by kernel_rfl) (by simp) (AllReadyH.cons rfl (fun K hK => ?_) AllReadyH.nil)
 rw [if_pos (by rfl)]
 refine wp_store_row 51 _ _ rfl R (rcs (rm 7 0 ((Qtx.2 : Nat) : Int) 0 false 0 0 0 0 0)) rfl rfl 51 _ HQd.out.q.res (by kernel_rfl) rfl (rcs_one _) ?_
 have HB2 : Hid (RB (Wd.setRow R (rcs (rm 7 0 ((Qtx.2 : Nat) : Int) 0 false 0 0 0 0 0))) X (rm 7 0 ((Qtx.2 : Nat) : Int) 0 false 0 0 0 0 0)) := Lib.hid ((setRow_other _ _ _ _ (by have := HQd.out.q.ord; omega)).trans HBX.out)
 refine hK.out _ _ HB2 (fun hHeld2 => ?_)
 clear hK K hHeld
 have hHeld := hHeld2
 clear hHeld2
 (try simp only [Act.put, List.setIfInBounds_toArray, List.set_cons_zero, List.set_cons_succ])
 refine wpAnyH_take (i := 4) (oi := ⟨some 3, _, _, _, _, _⟩) (v := .int .i64 (endR Qtx.1)) rfl (by kernel_rfl) (by kernel_rfl) (by kernel_rfl) (fun _ _ _ h => h) (Or.inl ⟨by rfl, fun w' hw' => ?_⟩) (by assumption) ?_
 · clear hHeld
   go_simp
 simp only [Act.put, List.setIfInBounds_toArray, List.set_cons_zero, List.set_cons_succ]
 refine wpAnyH_done (by kernel_rfl) ?_ _
 clear hHeld
 have HRF : Hid (RB (Wd.setRow R (rcs (rm 7 0 ((Qtx.2 : Nat) : Int) 0 false 0 0 0 0 0))) R (rm 7 0 ((Qtx.2 : Nat) : Int) 0 false 0 0 0 0 0)) := Lib.hid (HQd.out.q.res.set _)
 have HG : Hid (GivesRd W B Bs (.returned (.tuple #[.agg (rcs (rm 7 0 ((Qtx.2 : Nat) : Int) 0 false 0 0 0 0 0)), .int .i64 (endR Qtx.1)])) (Wd.setRow R (rcs (rm 7 0 ((Qtx.2 : Nat) : Int) 0 false 0 0 0 0 0)))) := Lib.hid (by
  have ho := HQd.out.q.ord
  have hcc : Chg (fun k => k = B) W (Wd.setRow R (rcs (rm 7 0 ((Qtx.2 : Nat) : Int) 0 false 0 0 0 0 0))) := HQd.out.q.chg.trans (T := fun k => k = R) ⟨rfl, rfl, rfl, by simp [World.setRow], fun k _ hn => setRow_other _ _ _ _ hn⟩ fun k hk e => by omega
  have hE : readE Bs = endR Qtx.1 := HRD.out.1
  refine ⟨(rm 7 0 ((Qtx.2 : Nat) : Int) 0 false 0 0 0 0 0), [], [], [], by rw [hE], rm_lists _ _ _ _ _ _ _ _ _ _ _, fun _ => ?_, hcc, (fun a h => by have h' : (none : Option Addr) = some a := h; cases h'), (fun a h => by have h' : (none : Option Addr) = some a := h; cases h'), (fun a h => by have h' : (none : Option Addr) = some a := h; cases h')⟩
  rw [HRD.out.2]
  rfl)
 go_wp2_with fail
 refine bodyPost_ret (v := .tuple #[.agg (rcs (rm 7 0 ((Qtx.2 : Nat) : Int) 0 false 0 0 0 0 0)), .int .i64 (endR Qtx.1)]) ?_ rfl HG.out
 exact results_rc rfl _ _ R (rm 7 0 ((Qtx.2 : Nat) : Int) 0 false 0 0 0 0 0) _ rfl rfl HRF.out
set_option maxHeartbeats 8000000 in
theorem rec_read8 (W : World) (N B : Nat) (Bs : List Nat) (hz : Zw W N B (0, Bs)) (hk : (((numR ((0, Bs) : St) 1).2 : Nat) : Int) = 8) : Calls Tryz.prog 92 #[.pointer (some ⟨B, 0, none⟩)] W (GivesRd W B Bs) := by
 obtain ⟨R, hR⟩ : ∃ R, W.heap.size = R := ⟨_, rfl⟩
 obtain ⟨W0, hW0, hr0, hb0⟩ : ∃ W0, W.alloc (.cells zr 51) = W0 ∧ RB W0 R rz ∧ Below W.heap.size W W0 := ⟨_, rfl, by rw [← hR]; exact alloc_block W _, (Below.refl _ _).alloc (Nat.le_refl _) _⟩
 have HZ0 := Lib.hid (hz.below hb0)
 have HRE := Lib.hid hR
 have HW0 := Lib.hid hW0
 have HR0b := Lib.hid hr0
 have HB0 := Lib.hid hb0
 have HNR : Hid (N ≤ R) := Lib.hid (by have := hz.size; omega)
 obtain ⟨R0, hR0⟩ : ∃ Q, numR ((0, Bs) : St) 1 = Q := ⟨_, rfl⟩
 have hn := zw_num HZ0.out 1
 have hf := fit_1 (S := (0, Bs)) HZ0.out.bytes
 rw [hR0] at hn hf hk
 have HR0 := Lib.hid hR0
 have hx0 : IntKind.u8.wrap ((R0.2 : Nat) : Int) = (R0.2 : Nat) := u8_keep hf
 rw [hk] at hn hx0
 have HKK := Lib.hid hk
 clear hR hW0 hr0 hb0 hR0 hf hz hk
 go_enter Tryz.func92, Tryz.ntmps92
 go_upto_region 1 with (fail)
 rw [HW0.out, HRE.out]
 go_wp2_with fail
 refine hn.mono ?_
 rintro e w1 ⟨rfl, hz1, hc1⟩
 obtain ⟨X, hX⟩ : ∃ X, w1.heap.size = X := ⟨_, rfl⟩
 have hRX : R < X := by have := block_lt HR0b.out; have := hc1.size; omega
 have hlow := HZ0.out.low
 have hNR := HNR.out
 have hres := HR0b.out.chg hc1 (by omega)
 have hch0 : Chg (fun k => k = B) W w1 := (Chg.of_below (S := fun k => k = B) HB0.out).trans hc1 fun _ _ e => e
 obtain ⟨w1a, hw1a, hxa, hba⟩ : ∃ w1a, w1.alloc (.cells zr 51) = w1a ∧ RB w1a X rz ∧ Below w1.heap.size w1 w1a := ⟨_, rfl, by rw [← hX]; exact alloc_block w1 _, (Below.refl _ _).alloc (Nat.le_refl _) _⟩
 have hQa : Qz W w1a N B R X R0.1 rz := ⟨hz1.below hba, hxa, hres.later hba, hch0.trans (Chg.of_below (S := fun k => k = B) hba) fun _ _ e => e, by omega, hRX, by have := HRE.out; omega⟩
 obtain ⟨w2, hw2, hQ2⟩ : ∃ w2, w1a.setRow X (rcs (rk 8)) = w2 ∧ Qz W w2 N B R X R0.1 (rk 8) := ⟨_, rfl, hQa.set _⟩
 have HXa := Lib.hid hxa
 have HW1a := Lib.hid hw1a
 have HW2 := Lib.hid hw2
 have HQ2 := Lib.hid hQ2
 have HXE := Lib.hid hX
 clear hz1 hc1 hX hRX hlow hNR hres hch0 hw1a hxa hba hQa hw2 hQ2 hn
 have c0 : w2.cell? ⟨X, 0, none⟩ = some (.int .u8 8) := block_cell HQ2.out.x rfl
 go_wp2_with ((try rw [HXE.out]); (try rw [HW1a.out]); (with_reducible refine wpList_store_rc (rk 8) HXa.out ?_ ?_ ?_); rfl; rfl; rw [HW2.out])
 have hpa := parts_any 8 w2
 unfold GivesPt at hpa
 rw [show ptc 8 = #[.bool true, .bool false, .bool false, .bool false, .bool false, .bool false] from rfl, show kOk 8 = true from rfl] at hpa
 refine hpa.mono ?_
 rintro e w3 ⟨rfl, h3⟩
 have HQ3 := Lib.hid (HQ2.out.later h3)
 clear h3 hpa c0 HQ2 hx0
 obtain ⟨Pb, hPb⟩ : ∃ n, w3.heap.size = n := ⟨_, rfl⟩
 obtain ⟨w4, hwn, hxn, hbn⟩ : ∃ w4, (w3.alloc (.cells pz 194)).setRow Pb #[.bool true, .bool false, .bool false, .bool false, .bool false, .bool false] = w4 ∧ w4.heap[Pb]? = some (.cells #[.bool true, .bool false, .bool false, .bool false, .bool false, .bool false] 194 (0, 0)) ∧ Below w3.heap.size w3 w4 := ⟨_, rfl, by rw [← hPb]; exact setRow_heap _ _ _ _ _ _ (alloc_block w3 _), below_setRow ((Below.refl _ _).alloc (Nat.le_refl _) _) (by omega) _⟩
 have hxz := alloc_block w3 (.cells pz 194)
 rw [hPb] at hxz
 have HQ4 : Hid (Qp W w4 N B R X Pb #[.bool true, .bool false, .bool false, .bool false, .bool false, .bool false] R0.1 (rk 8)) := Lib.hid ⟨HQ3.out.later hbn, hxn, by have := block_lt HQ3.out.x; omega⟩
 have HPZ := Lib.hid hxz
 have HWN := Lib.hid hwn
 have HNN := Lib.hid hPb
 have HS6 : Hid ((#[.bool true, .bool false, .bool false, .bool false, .bool false, .bool false] : Array Value).size = 6) := Lib.hid rfl
 have HA6 : Hid ((#[.bool true, .bool false, .bool false, .bool false, .bool false, .bool false] : Array Value).all (·.oneCell') = true) := Lib.hid (by simp [Value.oneCell'])
 clear hxz hxn hbn hwn hPb HQ3
 have p0 := HQ4.out.c (j := 0) (v := .bool true) rfl
 have p1 := HQ4.out.c (j := 1) (v := .bool false) rfl
 have p2 := HQ4.out.c (j := 2) (v := .bool false) rfl
 have p3 := HQ4.out.c (j := 3) (v := .bool false) rfl
 have p4 := HQ4.out.c (j := 4) (v := .bool false) rfl
 have p5 := HQ4.out.c (j := 5) (v := .bool false) rfl
 go_wp2_with ((try rw [HNN.out]); (with_reducible refine wpList_store_pt #[.bool true, .bool false, .bool false, .bool false, .bool false, .bool false] HS6.out HA6.out HPZ.out ?_ ?_ ?_); rfl; rfl; rw [HWN.out])
 have hn := zw_num HQ4.out.q.z 4
 obtain ⟨Qsg, hQsg⟩ : ∃ Q, numR R0.1 4 = Q := ⟨_, rfl⟩
 have hf := fit_4 HQ4.out.q.z.bytes
 rw [hQsg] at hn hf
 have hxsg : IntKind.u32.wrap ((Qsg.2 : Nat) : Int) = (Qsg.2 : Nat) := u32_keep hf
 clear hf
 have HQsg := Lib.hid hQsg
 clear hQsg
 refine hn.mono ?_
 rintro e y5 ⟨rfl, hz, hc⟩
 have HQb := Lib.hid (HQ4.out.low hz hc)
 clear hz hc hn HQ4
 clear p0 p1 p2 p3 p4 p5
 obtain ⟨cy, cf⟩ := HQb.out.q.cx (j := 1) (v := .int .u32 0) rfl
 go_upto_region 7 with (fail)
 clear cy cf hxsg
 have hq := HQb.out.put 1 (.int .u32 ((Qsg.2 : Nat) : Int)) (rm 8 ((Qsg.2 : Nat) : Int) 0 0 false 0 0 0 0 0) rfl
 generalize y5.setCell ⟨X, 1, none⟩ (.int .u32 ((Qsg.2 : Nat) : Int)) = w5 at *
 have HQ5 := Lib.hid hq
 clear hq HQb
 have p0 := HQ5.out.c (j := 0) (v := .bool true) rfl
 have p1 := HQ5.out.c (j := 1) (v := .bool false) rfl
 have p2 := HQ5.out.c (j := 2) (v := .bool false) rfl
 have p3 := HQ5.out.c (j := 3) (v := .bool false) rfl
 have p4 := HQ5.out.c (j := 4) (v := .bool false) rfl
 have p5 := HQ5.out.c (j := 5) (v := .bool false) rfl
 have HRD := Lib.hid (rd_of (D := ⟨Qsg.1, { noX with k := 8, sg := ((Qsg.2 : Nat) : Int), tx := 0, st := 0, cp := false, key := (0, 0, 0), d := 0, o := 0 }, 0⟩) HR0.out HKK.out rfl (by
  simp [rdX, rd8, keyR, HQsg.out, noX]))
 go_wp2_with fail
 clear p0 p1 p2 p3 p4 p5
 have HXn := Lib.hid HQ5.out.q.x
 have hd := HQ5.out.later (show Below w5.heap.size w5 w5.drew from (Below.refl _ _).drew)
 have HQd := Lib.hid hd
 have HBX : Hid (RB w5.drew X (rm 8 ((Qsg.2 : Nat) : Int) 0 0 false 0 0 0 0 0)) := Lib.hid hd.q.x
 clear hd
 refine wp_region_held_drew (S := fun w' => Hid (RB w' X (rm 8 ((Qsg.2 : Nat) : Int) 0 0 false 0 0 0 0 0))) (by kernel_rfl) HBX (fun hHeld => ?_)
 refine wpAnyH_take (i := 0) (oi := ⟨some 90, _, _, _, _, _⟩) (v := .agg (rcs (rm 8 ((Qsg.2 : Nat) : Int) 0 0 false 0 0 0 0 0))) rfl (by kernel_rfl) (by kernel_rfl) (by kernel_rfl) (fun _ _ _ h => h) (Or.inl ⟨by rfl, fun w' hw' => held_load_rc rfl (Hid.out hw')⟩) (by assumption) ?_
 simp only [Act.put, List.setIfInBounds_toArray, List.set_cons_zero, List.set_cons_succ]
 refine wpAnyH_take (i := 1) (oi := ⟨some 91, _, _, _, _, _⟩) (v := .pointer (some ⟨B, 0, none⟩)) rfl (by kernel_rfl) (by kernel_rfl) (by kernel_rfl) (fun _ _ _ h => h) (Or.inl ⟨by rfl, fun w' hw' => ?_⟩) (by assumption) ?_
 · clear hHeld
   go_simp
 simp only [Act.put, List.setIfInBounds_toArray, List.set_cons_zero, List.set_cons_succ]
 generalize w5.drew = Wd at *
 refine wpAnyH_ready (rs := [2]) (by kernel_rfl) (by simp) (AllReadyH.cons rfl (fun K hK => ?_) AllReadyH.nil)
 go_simp
 go_wp2_with fail
 refine (zw_end HQd.out.q.z).mono ?_
 rintro e wz ⟨rfl, rfl⟩
 go_wp2_with fail
 refine hK.out _ _ HBX (fun hHeld2 => ?_)
 clear hK K hHeld
 have hHeld := hHeld2
 clear hHeld2
 (try simp only [Act.put, List.setIfInBounds_toArray, List.set_cons_zero, List.set_cons_succ])
 refine wpAnyH_ready (rs := [3]) (by kernel_rfl) (by simp) (AllReadyH.cons rfl (fun K hK => ?_) AllReadyH.nil)
 rw [if_pos (by rfl)]
 refine wp_store_row 51 _ _ rfl R (rcs (rm 8 ((Qsg.2 : Nat) : Int) 0 0 false 0 0 0 0 0)) rfl rfl 51 _ HQd.out.q.res (by kernel_rfl) rfl (rcs_one _) ?_
 have HB2 : Hid (RB (Wd.setRow R (rcs (rm 8 ((Qsg.2 : Nat) : Int) 0 0 false 0 0 0 0 0))) X (rm 8 ((Qsg.2 : Nat) : Int) 0 0 false 0 0 0 0 0)) := Lib.hid ((setRow_other _ _ _ _ (by have := HQd.out.q.ord; omega)).trans HBX.out)
 refine hK.out _ _ HB2 (fun hHeld2 => ?_)
 clear hK K hHeld
 have hHeld := hHeld2
 clear hHeld2
 (try simp only [Act.put, List.setIfInBounds_toArray, List.set_cons_zero, List.set_cons_succ])
 refine wpAnyH_take (i := 4) (oi := ⟨some 3, _, _, _, _, _⟩) (v := .int .i64 (endR Qsg.1)) rfl (by kernel_rfl) (by kernel_rfl) (by kernel_rfl) (fun _ _ _ h => h) (Or.inl ⟨by rfl, fun w' hw' => ?_⟩) (by assumption) ?_
 · clear hHeld
   go_simp
 simp only [Act.put, List.setIfInBounds_toArray, List.set_cons_zero, List.set_cons_succ]
 refine wpAnyH_done (by kernel_rfl) ?_ _
 clear hHeld
 have HRF : Hid (RB (Wd.setRow R (rcs (rm 8 ((Qsg.2 : Nat) : Int) 0 0 false 0 0 0 0 0))) R (rm 8 ((Qsg.2 : Nat) : Int) 0 0 false 0 0 0 0 0)) := Lib.hid (HQd.out.q.res.set _)
 have HG : Hid (GivesRd W B Bs (.returned (.tuple #[.agg (rcs (rm 8 ((Qsg.2 : Nat) : Int) 0 0 false 0 0 0 0 0)), .int .i64 (endR Qsg.1)])) (Wd.setRow R (rcs (rm 8 ((Qsg.2 : Nat) : Int) 0 0 false 0 0 0 0 0)))) := Lib.hid (by
  have ho := HQd.out.q.ord
  have hcc : Chg (fun k => k = B) W (Wd.setRow R (rcs (rm 8 ((Qsg.2 : Nat) : Int) 0 0 false 0 0 0 0 0))) := HQd.out.q.chg.trans (T := fun k => k = R) ⟨rfl, rfl, rfl, by simp [World.setRow], fun k _ hn => setRow_other _ _ _ _ hn⟩ fun k hk e => by omega
  have hE : readE Bs = endR Qsg.1 := HRD.out.1
  refine ⟨(rm 8 ((Qsg.2 : Nat) : Int) 0 0 false 0 0 0 0 0), [], [], [], by rw [hE], rm_lists _ _ _ _ _ _ _ _ _ _ _, fun _ => ?_, hcc, (fun a h => by have h' : (none : Option Addr) = some a := h; cases h'), (fun a h => by have h' : (none : Option Addr) = some a := h; cases h'), (fun a h => by have h' : (none : Option Addr) = some a := h; cases h')⟩
  rw [HRD.out.2]
  rfl)
 go_wp2_with fail
 refine bodyPost_ret (v := .tuple #[.agg (rcs (rm 8 ((Qsg.2 : Nat) : Int) 0 0 false 0 0 0 0 0)), .int .i64 (endR Qsg.1)]) ?_ rfl HG.out
 exact results_rc rfl _ _ R (rm 8 ((Qsg.2 : Nat) : Int) 0 0 false 0 0 0 0 0) _ rfl rfl HRF.out
set_option maxHeartbeats 8000000 in
theorem rec_read9 (W : World) (N B : Nat) (Bs : List Nat) (hz : Zw W N B (0, Bs)) (hk : (((numR ((0, Bs) : St) 1).2 : Nat) : Int) = 9) : Calls Tryz.prog 92 #[.pointer (some ⟨B, 0, none⟩)] W (GivesRd W B Bs) := by
 obtain ⟨R, hR⟩ : ∃ R, W.heap.size = R := ⟨_, rfl⟩
 obtain ⟨W0, hW0, hr0, hb0⟩ : ∃ W0, W.alloc (.cells zr 51) = W0 ∧ RB W0 R rz ∧ Below W.heap.size W W0 := ⟨_, rfl, by rw [← hR]; exact alloc_block W _, (Below.refl _ _).alloc (Nat.le_refl _) _⟩
 have HZ0 := Lib.hid (hz.below hb0)
 have HRE := Lib.hid hR
 have HW0 := Lib.hid hW0
 have HR0b := Lib.hid hr0
 have HB0 := Lib.hid hb0
 have HNR : Hid (N ≤ R) := Lib.hid (by have := hz.size; omega)
 obtain ⟨R0, hR0⟩ : ∃ Q, numR ((0, Bs) : St) 1 = Q := ⟨_, rfl⟩
 have hn := zw_num HZ0.out 1
 have hf := fit_1 (S := (0, Bs)) HZ0.out.bytes
 rw [hR0] at hn hf hk
 have HR0 := Lib.hid hR0
 have hx0 : IntKind.u8.wrap ((R0.2 : Nat) : Int) = (R0.2 : Nat) := u8_keep hf
 rw [hk] at hn hx0
 have HKK := Lib.hid hk
 clear hR hW0 hr0 hb0 hR0 hf hz hk
 go_enter Tryz.func92, Tryz.ntmps92
 go_upto_region 1 with (fail)
 rw [HW0.out, HRE.out]
 go_wp2_with fail
 refine hn.mono ?_
 rintro e w1 ⟨rfl, hz1, hc1⟩
 obtain ⟨X, hX⟩ : ∃ X, w1.heap.size = X := ⟨_, rfl⟩
 have hRX : R < X := by have := block_lt HR0b.out; have := hc1.size; omega
 have hlow := HZ0.out.low
 have hNR := HNR.out
 have hres := HR0b.out.chg hc1 (by omega)
 have hch0 : Chg (fun k => k = B) W w1 := (Chg.of_below (S := fun k => k = B) HB0.out).trans hc1 fun _ _ e => e
 obtain ⟨w1a, hw1a, hxa, hba⟩ : ∃ w1a, w1.alloc (.cells zr 51) = w1a ∧ RB w1a X rz ∧ Below w1.heap.size w1 w1a := ⟨_, rfl, by rw [← hX]; exact alloc_block w1 _, (Below.refl _ _).alloc (Nat.le_refl _) _⟩
 have hQa : Qz W w1a N B R X R0.1 rz := ⟨hz1.below hba, hxa, hres.later hba, hch0.trans (Chg.of_below (S := fun k => k = B) hba) fun _ _ e => e, by omega, hRX, by have := HRE.out; omega⟩
 obtain ⟨w2, hw2, hQ2⟩ : ∃ w2, w1a.setRow X (rcs (rk 9)) = w2 ∧ Qz W w2 N B R X R0.1 (rk 9) := ⟨_, rfl, hQa.set _⟩
 have HXa := Lib.hid hxa
 have HW1a := Lib.hid hw1a
 have HW2 := Lib.hid hw2
 have HQ2 := Lib.hid hQ2
 have HXE := Lib.hid hX
 clear hz1 hc1 hX hRX hlow hNR hres hch0 hw1a hxa hba hQa hw2 hQ2 hn
 have c0 : w2.cell? ⟨X, 0, none⟩ = some (.int .u8 9) := block_cell HQ2.out.x rfl
 go_wp2_with ((try rw [HXE.out]); (try rw [HW1a.out]); (with_reducible refine wpList_store_rc (rk 9) HXa.out ?_ ?_ ?_); rfl; rfl; rw [HW2.out])
 have hpa := parts_any 9 w2
 unfold GivesPt at hpa
 rw [show ptc 9 = #[.bool true, .bool false, .bool false, .bool false, .bool true, .bool false] from rfl, show kOk 9 = true from rfl] at hpa
 refine hpa.mono ?_
 rintro e w3 ⟨rfl, h3⟩
 have HQ3 := Lib.hid (HQ2.out.later h3)
 clear h3 hpa c0 HQ2 hx0
 obtain ⟨Pb, hPb⟩ : ∃ n, w3.heap.size = n := ⟨_, rfl⟩
 obtain ⟨w4, hwn, hxn, hbn⟩ : ∃ w4, (w3.alloc (.cells pz 194)).setRow Pb #[.bool true, .bool false, .bool false, .bool false, .bool true, .bool false] = w4 ∧ w4.heap[Pb]? = some (.cells #[.bool true, .bool false, .bool false, .bool false, .bool true, .bool false] 194 (0, 0)) ∧ Below w3.heap.size w3 w4 := ⟨_, rfl, by rw [← hPb]; exact setRow_heap _ _ _ _ _ _ (alloc_block w3 _), below_setRow ((Below.refl _ _).alloc (Nat.le_refl _) _) (by omega) _⟩
 have hxz := alloc_block w3 (.cells pz 194)
 rw [hPb] at hxz
 have HQ4 : Hid (Qp W w4 N B R X Pb #[.bool true, .bool false, .bool false, .bool false, .bool true, .bool false] R0.1 (rk 9)) := Lib.hid ⟨HQ3.out.later hbn, hxn, by have := block_lt HQ3.out.x; omega⟩
 have HPZ := Lib.hid hxz
 have HWN := Lib.hid hwn
 have HNN := Lib.hid hPb
 have HS6 : Hid ((#[.bool true, .bool false, .bool false, .bool false, .bool true, .bool false] : Array Value).size = 6) := Lib.hid rfl
 have HA6 : Hid ((#[.bool true, .bool false, .bool false, .bool false, .bool true, .bool false] : Array Value).all (·.oneCell') = true) := Lib.hid (by simp [Value.oneCell'])
 clear hxz hxn hbn hwn hPb HQ3
 have p0 := HQ4.out.c (j := 0) (v := .bool true) rfl
 have p1 := HQ4.out.c (j := 1) (v := .bool false) rfl
 have p2 := HQ4.out.c (j := 2) (v := .bool false) rfl
 have p3 := HQ4.out.c (j := 3) (v := .bool false) rfl
 have p4 := HQ4.out.c (j := 4) (v := .bool true) rfl
 have p5 := HQ4.out.c (j := 5) (v := .bool false) rfl
 go_wp2_with ((try rw [HNN.out]); (with_reducible refine wpList_store_pt #[.bool true, .bool false, .bool false, .bool false, .bool true, .bool false] HS6.out HA6.out HPZ.out ?_ ?_ ?_); rfl; rfl; rw [HWN.out])
 have hn := zw_num HQ4.out.q.z 4
 obtain ⟨Qsg, hQsg⟩ : ∃ Q, numR R0.1 4 = Q := ⟨_, rfl⟩
 have hf := fit_4 HQ4.out.q.z.bytes
 rw [hQsg] at hn hf
 have hxsg : IntKind.u32.wrap ((Qsg.2 : Nat) : Int) = (Qsg.2 : Nat) := u32_keep hf
 clear hf
 have HQsg := Lib.hid hQsg
 clear hQsg
 refine hn.mono ?_
 rintro e y5 ⟨rfl, hz, hc⟩
 have HQb := Lib.hid (HQ4.out.low hz hc)
 clear hz hc hn HQ4
 clear p0 p1 p2 p3 p4 p5
 obtain ⟨cy, cf⟩ := HQb.out.q.cx (j := 1) (v := .int .u32 0) rfl
 go_upto_region 7 with (fail)
 clear cy cf hxsg
 have hq := HQb.out.put 1 (.int .u32 ((Qsg.2 : Nat) : Int)) (rm 9 ((Qsg.2 : Nat) : Int) 0 0 false 0 0 0 0 0) rfl
 generalize y5.setCell ⟨X, 1, none⟩ (.int .u32 ((Qsg.2 : Nat) : Int)) = w5 at *
 have HQ5 := Lib.hid hq
 clear hq HQb
 have p0 := HQ5.out.c (j := 0) (v := .bool true) rfl
 have p1 := HQ5.out.c (j := 1) (v := .bool false) rfl
 have p2 := HQ5.out.c (j := 2) (v := .bool false) rfl
 have p3 := HQ5.out.c (j := 3) (v := .bool false) rfl
 have p4 := HQ5.out.c (j := 4) (v := .bool true) rfl
 have p5 := HQ5.out.c (j := 5) (v := .bool false) rfl
 go_wp2_with fail
 have hn := zw_num HQ5.out.q.z 1
 obtain ⟨Qo, hQo⟩ : ∃ Q, numR Qsg.1 1 = Q := ⟨_, rfl⟩
 have hf := fit_1 HQ5.out.q.z.bytes
 rw [hQo] at hn hf
 have hxo : IntKind.u8.wrap ((Qo.2 : Nat) : Int) = (Qo.2 : Nat) := u8_keep hf
 clear hf
 have HQo := Lib.hid hQo
 clear hQo
 refine hn.mono ?_
 rintro e y6 ⟨rfl, hz, hc⟩
 have HQb := Lib.hid (HQ5.out.low hz hc)
 clear hz hc hn HQ5
 clear p0 p1 p2 p3 p4 p5
 obtain ⟨cy, cf⟩ := HQb.out.q.cx (j := 9) (v := .int .u8 0) rfl
 go_upto_region 17 with (fail)
 clear cy cf hxo
 have hq := HQb.out.put 9 (.int .u8 ((Qo.2 : Nat) : Int)) (rm 9 ((Qsg.2 : Nat) : Int) 0 0 false 0 0 0 0 ((Qo.2 : Nat) : Int)) rfl
 generalize y6.setCell ⟨X, 9, none⟩ (.int .u8 ((Qo.2 : Nat) : Int)) = w6 at *
 have HQ6 := Lib.hid hq
 clear hq HQb
 have p0 := HQ6.out.c (j := 0) (v := .bool true) rfl
 have p1 := HQ6.out.c (j := 1) (v := .bool false) rfl
 have p2 := HQ6.out.c (j := 2) (v := .bool false) rfl
 have p3 := HQ6.out.c (j := 3) (v := .bool false) rfl
 have p4 := HQ6.out.c (j := 4) (v := .bool true) rfl
 have p5 := HQ6.out.c (j := 5) (v := .bool false) rfl
 have HRD := Lib.hid (rd_of (D := ⟨Qo.1, { noX with k := 9, sg := ((Qsg.2 : Nat) : Int), tx := 0, st := 0, cp := false, key := (0, 0, 0), d := 0, o := ((Qo.2 : Nat) : Int) }, 0⟩) HR0.out HKK.out rfl (by
  simp [rdX, rd9, keyR, HQsg.out, HQo.out, noX]))
 go_wp2_with fail
 clear p0 p1 p2 p3 p4 p5
 have HXn := Lib.hid HQ6.out.q.x
 have hd := HQ6.out.later (show Below w6.heap.size w6 w6.drew from (Below.refl _ _).drew)
 have HQd := Lib.hid hd
 have HBX : Hid (RB w6.drew X (rm 9 ((Qsg.2 : Nat) : Int) 0 0 false 0 0 0 0 ((Qo.2 : Nat) : Int))) := Lib.hid hd.q.x
 clear hd
 refine wp_region_held_drew (S := fun w' => Hid (RB w' X (rm 9 ((Qsg.2 : Nat) : Int) 0 0 false 0 0 0 0 ((Qo.2 : Nat) : Int)))) (by kernel_rfl) HBX (fun hHeld => ?_)
 refine wpAnyH_take (i := 0) (oi := ⟨some 90, _, _, _, _, _⟩) (v := .agg (rcs (rm 9 ((Qsg.2 : Nat) : Int) 0 0 false 0 0 0 0 ((Qo.2 : Nat) : Int)))) rfl (by kernel_rfl) (by kernel_rfl) (by kernel_rfl) (fun _ _ _ h => h) (Or.inl ⟨by rfl, fun w' hw' => held_load_rc rfl (Hid.out hw')⟩) (by assumption) ?_
 simp only [Act.put, List.setIfInBounds_toArray, List.set_cons_zero, List.set_cons_succ]
 refine wpAnyH_take (i := 1) (oi := ⟨some 91, _, _, _, _, _⟩) (v := .pointer (some ⟨B, 0, none⟩)) rfl (by kernel_rfl) (by kernel_rfl) (by kernel_rfl) (fun _ _ _ h => h) (Or.inl ⟨by rfl, fun w' hw' => ?_⟩) (by assumption) ?_
 · clear hHeld
   go_simp
 simp only [Act.put, List.setIfInBounds_toArray, List.set_cons_zero, List.set_cons_succ]
 generalize w6.drew = Wd at *
 refine wpAnyH_ready (rs := [2]) (by kernel_rfl) (by simp) (AllReadyH.cons rfl (fun K hK => ?_) AllReadyH.nil)
 go_simp
 go_wp2_with fail
 refine (zw_end HQd.out.q.z).mono ?_
 rintro e wz ⟨rfl, rfl⟩
 go_wp2_with fail
 refine hK.out _ _ HBX (fun hHeld2 => ?_)
 clear hK K hHeld
 have hHeld := hHeld2
 clear hHeld2
 (try simp only [Act.put, List.setIfInBounds_toArray, List.set_cons_zero, List.set_cons_succ])
 refine wpAnyH_ready (rs := [3]) (by kernel_rfl) (by simp) (AllReadyH.cons rfl (fun K hK => ?_) AllReadyH.nil)
 rw [if_pos (by rfl)]
 refine wp_store_row 51 _ _ rfl R (rcs (rm 9 ((Qsg.2 : Nat) : Int) 0 0 false 0 0 0 0 ((Qo.2 : Nat) : Int))) rfl rfl 51 _ HQd.out.q.res (by kernel_rfl) rfl (rcs_one _) ?_
 have HB2 : Hid (RB (Wd.setRow R (rcs (rm 9 ((Qsg.2 : Nat) : Int) 0 0 false 0 0 0 0 ((Qo.2 : Nat) : Int)))) X (rm 9 ((Qsg.2 : Nat) : Int) 0 0 false 0 0 0 0 ((Qo.2 : Nat) : Int))) := Lib.hid ((setRow_other _ _ _ _ (by have := HQd.out.q.ord; omega)).trans HBX.out)
 refine hK.out _ _ HB2 (fun hHeld2 => ?_)
 clear hK K hHeld
 have hHeld := hHeld2
 clear hHeld2
 (try simp only [Act.put, List.setIfInBounds_toArray, List.set_cons_zero, List.set_cons_succ])
 refine wpAnyH_take (i := 4) (oi := ⟨some 3, _, _, _, _, _⟩) (v := .int .i64 (endR Qo.1)) rfl (by kernel_rfl) (by kernel_rfl) (by kernel_rfl) (fun _ _ _ h => h) (Or.inl ⟨by rfl, fun w' hw' => ?_⟩) (by assumption) ?_
 · clear hHeld
   go_simp
 simp only [Act.put, List.setIfInBounds_toArray, List.set_cons_zero, List.set_cons_succ]
 refine wpAnyH_done (by kernel_rfl) ?_ _
 clear hHeld
 have HRF : Hid (RB (Wd.setRow R (rcs (rm 9 ((Qsg.2 : Nat) : Int) 0 0 false 0 0 0 0 ((Qo.2 : Nat) : Int)))) R (rm 9 ((Qsg.2 : Nat) : Int) 0 0 false 0 0 0 0 ((Qo.2 : Nat) : Int))) := Lib.hid (HQd.out.q.res.set _)
 have HG : Hid (GivesRd W B Bs (.returned (.tuple #[.agg (rcs (rm 9 ((Qsg.2 : Nat) : Int) 0 0 false 0 0 0 0 ((Qo.2 : Nat) : Int))), .int .i64 (endR Qo.1)])) (Wd.setRow R (rcs (rm 9 ((Qsg.2 : Nat) : Int) 0 0 false 0 0 0 0 ((Qo.2 : Nat) : Int))))) := Lib.hid (by
  have ho := HQd.out.q.ord
  have hcc : Chg (fun k => k = B) W (Wd.setRow R (rcs (rm 9 ((Qsg.2 : Nat) : Int) 0 0 false 0 0 0 0 ((Qo.2 : Nat) : Int)))) := HQd.out.q.chg.trans (T := fun k => k = R) ⟨rfl, rfl, rfl, by simp [World.setRow], fun k _ hn => setRow_other _ _ _ _ hn⟩ fun k hk e => by omega
  have hE : readE Bs = endR Qo.1 := HRD.out.1
  refine ⟨(rm 9 ((Qsg.2 : Nat) : Int) 0 0 false 0 0 0 0 ((Qo.2 : Nat) : Int)), [], [], [], by rw [hE], rm_lists _ _ _ _ _ _ _ _ _ _ _, fun _ => ?_, hcc, (fun a h => by have h' : (none : Option Addr) = some a := h; cases h'), (fun a h => by have h' : (none : Option Addr) = some a := h; cases h'), (fun a h => by have h' : (none : Option Addr) = some a := h; cases h')⟩
  rw [HRD.out.2]
  rfl)
 go_wp2_with fail
 refine bodyPost_ret (v := .tuple #[.agg (rcs (rm 9 ((Qsg.2 : Nat) : Int) 0 0 false 0 0 0 0 ((Qo.2 : Nat) : Int))), .int .i64 (endR Qo.1)]) ?_ rfl HG.out
 exact results_rc rfl _ _ R (rm 9 ((Qsg.2 : Nat) : Int) 0 0 false 0 0 0 0 ((Qo.2 : Nat) : Int)) _ rfl rfl HRF.out
set_option maxHeartbeats 8000000 in
theorem rec_readx (W : World) (N B : Nat) (Bs : List Nat) (hz : Zw W N B (0, Bs)) (kk : Int) (hko : kOk kk = false) (hk : (((numR ((0, Bs) : St) 1).2 : Nat) : Int) = kk) : Calls Tryz.prog 92 #[.pointer (some ⟨B, 0, none⟩)] W (GivesRd W B Bs) := by
 have HPK : Hid (ptc kk = pz ∧ kOk kk = false) := Lib.hid ⟨by obtain ⟨e1, e2, e3, e4, e5, e6, e7, e8, e9⟩ := not_kOk hko; unfold ptc kS kT kB kA kO kP; simp [e1, e2, e3, e4, e5, e6, e7, e8, e9], hko⟩
 clear hko
 obtain ⟨R, hR⟩ : ∃ R, W.heap.size = R := ⟨_, rfl⟩
 obtain ⟨W0, hW0, hr0, hb0⟩ : ∃ W0, W.alloc (.cells zr 51) = W0 ∧ RB W0 R rz ∧ Below W.heap.size W W0 := ⟨_, rfl, by rw [← hR]; exact alloc_block W _, (Below.refl _ _).alloc (Nat.le_refl _) _⟩
 have HZ0 := Lib.hid (hz.below hb0)
 have HRE := Lib.hid hR
 have HW0 := Lib.hid hW0
 have HR0b := Lib.hid hr0
 have HB0 := Lib.hid hb0
 have HNR : Hid (N ≤ R) := Lib.hid (by have := hz.size; omega)
 obtain ⟨R0, hR0⟩ : ∃ Q, numR ((0, Bs) : St) 1 = Q := ⟨_, rfl⟩
 have hn := zw_num HZ0.out 1
 have hf := fit_1 (S := (0, Bs)) HZ0.out.bytes
 rw [hR0] at hn hf hk
 have HR0 := Lib.hid hR0
 have hx0 : IntKind.u8.wrap ((R0.2 : Nat) : Int) = (R0.2 : Nat) := u8_keep hf
 rw [hk] at hn hx0
 have HKK := Lib.hid hk
 clear hR hW0 hr0 hb0 hR0 hf hz hk
 have HE := Lib.hid (rd_bad HR0.out HKK.out HPK.out.2)
 obtain ⟨er, her⟩ : ∃ er, (if R0.1.1 ≠ 0 then R0.1.1 else 8) = er := ⟨_, rfl⟩
 rw [her] at HE
 have HER := Lib.hid her
 have HNE : Hid (er ≠ 0) := Lib.hid (by rw [← her]; split <;> omega)
 clear her
 go_enter Tryz.func92, Tryz.ntmps92
 go_upto_region 1 with (fail)
 rw [HW0.out, HRE.out]
 go_wp2_with fail
 refine hn.mono ?_
 rintro e w1 ⟨rfl, hz1, hc1⟩
 obtain ⟨X, hX⟩ : ∃ X, w1.heap.size = X := ⟨_, rfl⟩
 have hRX : R < X := by have := block_lt HR0b.out; have := hc1.size; omega
 have hlow := HZ0.out.low
 have hNR := HNR.out
 have hres := HR0b.out.chg hc1 (by omega)
 have hch0 : Chg (fun k => k = B) W w1 := (Chg.of_below (S := fun k => k = B) HB0.out).trans hc1 fun _ _ e => e
 obtain ⟨w1a, hw1a, hxa, hba⟩ : ∃ w1a, w1.alloc (.cells zr 51) = w1a ∧ RB w1a X rz ∧ Below w1.heap.size w1 w1a := ⟨_, rfl, by rw [← hX]; exact alloc_block w1 _, (Below.refl _ _).alloc (Nat.le_refl _) _⟩
 have hQa : Qz W w1a N B R X R0.1 rz := ⟨hz1.below hba, hxa, hres.later hba, hch0.trans (Chg.of_below (S := fun k => k = B) hba) fun _ _ e => e, by omega, hRX, by have := HRE.out; omega⟩
 obtain ⟨w2, hw2, hQ2⟩ : ∃ w2, w1a.setRow X (rcs (rk kk)) = w2 ∧ Qz W w2 N B R X R0.1 (rk kk) := ⟨_, rfl, hQa.set _⟩
 have HXa := Lib.hid hxa
 have HW1a := Lib.hid hw1a
 have HW2 := Lib.hid hw2
 have HQ2 := Lib.hid hQ2
 have HXE := Lib.hid hX
 clear hz1 hc1 hX hRX hlow hNR hres hch0 hw1a hxa hba hQa hw2 hQ2 hn
 have c0 : w2.cell? ⟨X, 0, none⟩ = some (.int .u8 kk) := block_cell HQ2.out.x rfl
 go_wp2_with ((try rw [HXE.out]); (try rw [HW1a.out]); (with_reducible refine wpList_store_rc (rk kk) HXa.out ?_ ?_ ?_); rfl; rfl; rw [HW2.out])
 have hpa := parts_any kk w2
 unfold GivesPt at hpa
 rw [HPK.out.1, HPK.out.2] at hpa
 refine hpa.mono ?_
 rintro e w3 ⟨rfl, h3⟩
 have HQ3 := Lib.hid (HQ2.out.later h3)
 clear h3 hpa c0 HQ2 hx0
 obtain ⟨Pb, hPb⟩ : ∃ n, w3.heap.size = n := ⟨_, rfl⟩
 obtain ⟨w4, hwn, hxn, hbn⟩ : ∃ w4, (w3.alloc (.cells pz 194)).setRow Pb #[.bool false, .bool false, .bool false, .bool false, .bool false, .bool false] = w4 ∧ w4.heap[Pb]? = some (.cells #[.bool false, .bool false, .bool false, .bool false, .bool false, .bool false] 194 (0, 0)) ∧ Below w3.heap.size w3 w4 := ⟨_, rfl, by rw [← hPb]; exact setRow_heap _ _ _ _ _ _ (alloc_block w3 _), below_setRow ((Below.refl _ _).alloc (Nat.le_refl _) _) (by omega) _⟩
 have hxz := alloc_block w3 (.cells pz 194)
 rw [hPb] at hxz
 have HQ4 : Hid (Qp W w4 N B R X Pb #[.bool false, .bool false, .bool false, .bool false, .bool false, .bool false] R0.1 (rk kk)) := Lib.hid ⟨HQ3.out.later hbn, hxn, by have := block_lt HQ3.out.x; omega⟩
 have HPZ := Lib.hid hxz
 have HWN := Lib.hid hwn
 have HNN := Lib.hid hPb
 have HS6 : Hid ((#[.bool false, .bool false, .bool false, .bool false, .bool false, .bool false] : Array Value).size = 6) := Lib.hid rfl
 have HA6 : Hid ((#[.bool false, .bool false, .bool false, .bool false, .bool false, .bool false] : Array Value).all (·.oneCell') = true) := Lib.hid (by simp [Value.oneCell'])
 clear hxz hxn hbn hwn hPb HQ3
 go_wp2_with ((try rw [HNN.out]); (with_reducible refine wpList_store_pt #[.bool false, .bool false, .bool false, .bool false, .bool false, .bool false] HS6.out HA6.out HPZ.out ?_ ?_ ?_); rfl; rfl; rw [HWN.out])
 have hd := HQ4.out.later (show Below w4.heap.size w4 w4.drew from (Below.refl _ _).drew)
 have HQd := Lib.hid hd
 have HBX : Hid (RB w4.drew X (rk kk)) := Lib.hid hd.q.x
 clear hd
 refine wp_region_held_drew (S := fun w' => Hid (RB w' X (rk kk))) (by kernel_rfl) HBX (fun hHeld => ?_)
 refine wpAnyH_take (i := 0) (oi := ⟨some 22, _, _, _, _, _⟩) (v := .agg (rcs (rk kk))) rfl (by kernel_rfl) (by kernel_rfl) (by kernel_rfl) (fun _ _ _ h => h) (Or.inl ⟨by rfl, fun w' hw' => held_load_rc rfl (Hid.out hw')⟩) (by assumption) ?_
 simp only [Act.put, List.setIfInBounds_toArray, List.set_cons_zero, List.set_cons_succ]
 refine wpAnyH_take (i := 1) (oi := ⟨some 23, _, _, _, _, _⟩) (v := .pointer (some ⟨B, 0, none⟩)) rfl (by kernel_rfl) (by kernel_rfl) (by kernel_rfl) (fun _ _ _ h => h) (Or.inl ⟨by rfl, fun w' hw' => ?_⟩) (by assumption) ?_
 · clear hHeld
   go_simp
 simp only [Act.put, List.setIfInBounds_toArray, List.set_cons_zero, List.set_cons_succ]
 generalize w4.drew = Wd at *
 refine wpAnyH_ready (rs := [2]) (by kernel_rfl) (by simp) (AllReadyH.cons rfl (fun K hK => ?_) AllReadyH.nil)
 go_simp
 go_wp2_with fail
 refine (zw_err HQd.out.q.z).mono ?_
 rintro e wz ⟨rfl, rfl⟩
 go_wp2_with fail
 refine hK.out _ _ HBX (fun hHeld2 => ?_)
 clear hK K hHeld
 have hHeld := hHeld2
 clear hHeld2
 (try simp only [Act.put, List.setIfInBounds_toArray, List.set_cons_zero, List.set_cons_succ])
 obtain ⟨w6, hw6, hbx6, hb6⟩ : ∃ w6, (Wd.alloc (.cells #[.int .i64 R0.1.1, .int .i64 8] 56)) = w6 ∧ w6.heap[Wd.heap.size]? = some (.cells #[.int .i64 R0.1.1, .int .i64 8] 56 (0, 0)) ∧ Below Wd.heap.size Wd w6 := ⟨_, rfl, alloc_block Wd _, (Below.refl _ _).alloc (Nat.le_refl _) _⟩
 have HQ6 := Lib.hid (HQd.out.later hb6)
 have HB6 : Hid (RB w6 X (rk kk)) := Lib.hid HQ6.out.q.x
 have HX6 := Lib.hid hbx6
 have HW6 := Lib.hid hw6
 clear hw6 hbx6 hb6
 refine wpAnyH_ready (rs := [3]) (by kernel_rfl) (by simp) (AllReadyH.cons rfl (fun K hK => ?_) AllReadyH.nil)
 go_simp
 rw [HW6.out]
 refine hK.out _ _ HB6 (fun hHeld2 => ?_)
 clear hK K hHeld
 have hHeld := hHeld2
 clear hHeld2
 (try simp only [Act.put, List.setIfInBounds_toArray, List.set_cons_zero, List.set_cons_succ])
 refine wpAnyH_ready (rs := [4]) (by kernel_rfl) (by simp) (AllReadyH.cons rfl (fun K hK => ?_) AllReadyH.nil)
 go_simp
 go_wp2_with fail
 have hor := or_errno Wd.heap.size R0.1.1 8 w6 (block_cell HX6.out rfl) (block_cell HX6.out rfl)
 rw [HER.out] at hor
 refine hor.mono ?_
 rintro e x7 ⟨rfl, hb7⟩
 have HQ7 := Lib.hid (HQ6.out.later hb7)
 have HB7 : Hid (RB x7 X (rk kk)) := Lib.hid HQ7.out.q.x
 clear hb7 hor
 go_wp2_with fail
 refine hK.out _ _ HB7 (fun hHeld2 => ?_)
 clear hK K hHeld
 have hHeld := hHeld2
 clear hHeld2
 (try simp only [Act.put, List.setIfInBounds_toArray, List.set_cons_zero, List.set_cons_succ])
 refine wpAnyH_ready (rs := [5]) (by kernel_rfl) (by simp) (AllReadyH.cons rfl (fun K hK => ?_) AllReadyH.nil)
 rw [if_pos (by rfl)]
 refine wp_store_row 51 _ _ rfl R (rcs (rk kk)) rfl rfl 51 _ HQ7.out.q.res (by kernel_rfl) rfl (rcs_one _) ?_
 have HB2 : Hid (RB (x7.setRow R (rcs (rk kk))) X (rk kk)) := Lib.hid ((setRow_other _ _ _ _ (by have := HQ7.out.q.ord; omega)).trans HB7.out)
 refine hK.out _ _ HB2 (fun hHeld2 => ?_)
 clear hK K hHeld
 have hHeld := hHeld2
 clear hHeld2
 (try simp only [Act.put, List.setIfInBounds_toArray, List.set_cons_zero, List.set_cons_succ])
 refine wpAnyH_take (i := 6) (oi := ⟨some 3, _, _, _, _, _⟩) (v := .int .i64 er) rfl (by kernel_rfl) (by kernel_rfl) (by kernel_rfl) (fun _ _ _ h => h) (Or.inl ⟨by rfl, fun w' hw' => ?_⟩) (by assumption) ?_
 · clear hHeld
   go_simp
 simp only [Act.put, List.setIfInBounds_toArray, List.set_cons_zero, List.set_cons_succ]
 refine wpAnyH_done (by kernel_rfl) ?_ _
 clear hHeld
 have HRF : Hid (RB (x7.setRow R (rcs (rk kk))) R (rk kk)) := Lib.hid (HQ7.out.q.res.set _)
 have HG : Hid (GivesRd W B Bs (.returned (.tuple #[.agg (rcs (rk kk)), .int .i64 er])) (x7.setRow R (rcs (rk kk)))) := Lib.hid (by
  have ho := HQ7.out.q.ord
  have hcc : Chg (fun k => k = B) W (x7.setRow R (rcs (rk kk))) := HQ7.out.q.chg.trans (T := fun k => k = R) ⟨rfl, rfl, rfl, by simp [World.setRow], fun k _ hn => setRow_other _ _ _ _ hn⟩ fun k hk e => by omega
  exact ⟨(rk kk), [], [], [], by rw [HE.out], no_lists ⟨rfl, rfl, rfl, rfl, rfl, rfl, rfl, rfl, rfl⟩ _, fun h => absurd (HE.out.symm.trans h) HNE.out, hcc, (fun a h => by have h' : (none : Option Addr) = some a := h; cases h'), (fun a h => by have h' : (none : Option Addr) = some a := h; cases h'), (fun a h => by have h' : (none : Option Addr) = some a := h; cases h')⟩)
 (try simp only [Exit.inBlock, Exit.then])
 go_wp2_with fail
 refine bodyPost_ret (v := .tuple #[.agg (rcs (rk kk)), .int .i64 er]) ?_ rfl HG.out
 exact results_rc rfl _ _ R (rk kk) _ rfl rfl HRF.out
theorem rec_read (W : World) (N B : Nat) (Bs : List Nat) (hz : Zw W N B (0, Bs)) (hw : ∀ w, Chg (fun k => k = B) W w → Words w) : Calls Tryz.prog 92 #[.pointer (some ⟨B, 0, none⟩)] W (GivesRd W B Bs) := by
 obtain ⟨kk, hkk⟩ : ∃ kk : Int, (((numR ((0, Bs) : St) 1).2 : Nat) : Int) = kk := ⟨_, rfl⟩
 cases hko : kOk kk with
 | true =>
  rcases kOk_cases hko with h | h | h | h | h | h | h | h | h <;> rw [h] at hkk
  · exact rec_read1 W N B Bs hz hw hkk
  · exact rec_read2 W N B Bs hz hkk
  · exact rec_read3 W N B Bs hz hkk
  · exact rec_read4 W N B Bs hz hkk
  · exact rec_read5 W N B Bs hz hkk
  · exact rec_read6 W N B Bs hz hkk
  · exact rec_read7 W N B Bs hz hkk
  · exact rec_read8 W N B Bs hz hkk
  · exact rec_read9 W N B Bs hz hkk
 | false => exact rec_readx W N B Bs hz kk hko hkk
theorem decP_small (B : List Nat) : (decP B).2.lines.length ≤ 3 ∧ (decP B).2.takes.length ≤ 12 ∧ (decP B).2.owes.length ≤ 3 := by
 unfold decP
 split
 · exact ⟨Nat.zero_le _, Nat.zero_le _, Nat.zero_le _⟩
 · split
   · exact ⟨listR_most _ _ _, listR_most _ _ _, listR_most _ _ _⟩
   · exact ⟨Nat.zero_le _, Nat.zero_le _, Nat.zero_le _⟩
theorem decP_ok {B : List Nat} (hB : ∀ y ∈ B, y < 256) : Pgok (decP B).2 := by
 by_cases h : (decP B).1 = 0
 · exact (enc_dec hB h).2.2
 · unfold decP at h ⊢
   split
   · exact noP_ok
   · rename_i h1
     rw [if_neg h1] at h
     split
     · rename_i h2
       rw [if_pos h2] at h
       exact absurd rfl h
     · exact noP_ok
theorem nat_u8 {x : Nat} (h : x < 256) : (0 : Int) ≤ (x : Nat) ∧ ((x : Nat) : Int) ≤ 255 := by omega
theorem nat_u32 {x : Nat} (h : x < 4294967296) : (0 : Int) ≤ (x : Nat) ∧ ((x : Nat) : Int) ≤ 4294967295 := by omega
theorem rdX_ok {k : Int} (hk : kOk k = true) {S : St} (h : ∀ y ∈ S.2, y < 256) : Rxok (rdX k S).rx ∧ (rdX k S).rx.pg.lines.length ≤ 3 ∧ (rdX k S).rx.pg.takes.length ≤ 12 ∧ (rdX k S).rx.pg.owes.length ≤ 3 := by
 have h4 := fit_4 h
 have b4 := numR_bytes h 4
 have hz : (0 : Int) ≤ 0 ∧ (0 : Int) ≤ 255 := by omega
 have hz4 : (0 : Int) ≤ 0 ∧ (0 : Int) ≤ 4294967295 := by omega
 have hk0 : Kok ((0, 0, 0) : K) := ⟨hz, hz, hz⟩
 have hd0 : In64 0 := by simp [In64]
 have hn : ([] : List Ln).length ≤ 3 ∧ ([] : List Tk).length ≤ 12 ∧ ([] : List Ln).length ≤ 3 := ⟨Nat.zero_le _, Nat.zero_le _, Nat.zero_le _⟩
 rcases kOk_cases hk with e | e | e | e | e | e | e | e | e <;> subst e
 · rw [show rdX 1 S = rd1 S from rfl]
   unfold rd1
   dsimp only
   have hb := bytesR_lt b4 512
   split
   · exact ⟨⟨⟨by show (0 : Int) ≤ 1; omega, by show (1 : Int) ≤ 255; omega⟩, nat_u32 h4, hz4, hz, hk0, hd0, hz, decP_ok hb⟩, decP_small _⟩
   · exact ⟨⟨⟨by show (0 : Int) ≤ 1; omega, by show (1 : Int) ≤ 255; omega⟩, nat_u32 h4, hz4, hz, hk0, hd0, hz, noP_ok⟩, hn⟩
 · rw [show rdX 2 S = rd2 S from rfl]
   unfold rd2
   dsimp only
   exact ⟨⟨⟨by show (0 : Int) ≤ 2; omega, by show (2 : Int) ≤ 255; omega⟩, nat_u32 h4, nat_u32 (fit_4 b4), nat_u8 (fit_1 (numR_bytes b4 4)), hk0, hd0, hz, noP_ok⟩, hn⟩
 · rw [show rdX 3 S = rd3 3 S from rfl]
   unfold rd3 keyR
   dsimp only
   have b5 := numR_bytes b4 1
   have b6 := numR_bytes b5 1
   have b7 := numR_bytes b6 1
   exact ⟨⟨⟨by show (0 : Int) ≤ 3; omega, by show (3 : Int) ≤ 255; omega⟩, hz4, nat_u32 h4, hz, ⟨nat_u8 (fit_1 b4), nat_u8 (fit_1 b5), nat_u8 (fit_1 b6)⟩, sgn_in (fit8 b7), hz, noP_ok⟩, hn⟩
 · rw [show rdX 4 S = rd4 4 S from rfl]
   exact ⟨⟨⟨by show (0 : Int) ≤ 4; omega, by show (4 : Int) ≤ 255; omega⟩, hz4, nat_u32 h4, hz, hk0, hd0, hz, noP_ok⟩, hn⟩
 · rw [show rdX 5 S = rd4 5 S from rfl]
   exact ⟨⟨⟨by show (0 : Int) ≤ 5; omega, by show (5 : Int) ≤ 255; omega⟩, hz4, nat_u32 h4, hz, hk0, hd0, hz, noP_ok⟩, hn⟩
 · rw [show rdX 6 S = rd3 6 S from rfl]
   unfold rd3 keyR
   dsimp only
   have b5 := numR_bytes b4 1
   have b6 := numR_bytes b5 1
   have b7 := numR_bytes b6 1
   exact ⟨⟨⟨by show (0 : Int) ≤ 6; omega, by show (6 : Int) ≤ 255; omega⟩, hz4, nat_u32 h4, hz, ⟨nat_u8 (fit_1 b4), nat_u8 (fit_1 b5), nat_u8 (fit_1 b6)⟩, sgn_in (fit8 b7), hz, noP_ok⟩, hn⟩
 · rw [show rdX 7 S = rd4 7 S from rfl]
   exact ⟨⟨⟨by show (0 : Int) ≤ 7; omega, by show (7 : Int) ≤ 255; omega⟩, hz4, nat_u32 h4, hz, hk0, hd0, hz, noP_ok⟩, hn⟩
 · rw [show rdX 8 S = rd8 S from rfl]
   exact ⟨⟨⟨by show (0 : Int) ≤ 8; omega, by show (8 : Int) ≤ 255; omega⟩, nat_u32 h4, hz4, hz, hk0, hd0, hz, noP_ok⟩, hn⟩
 · rw [show rdX 9 S = rd9 S from rfl]
   exact ⟨⟨⟨by show (0 : Int) ≤ 9; omega, by show (9 : Int) ≤ 255; omega⟩, nat_u32 h4, hz4, hz, hk0, hd0, nat_u8 (fit_1 b4), noP_ok⟩, hn⟩
theorem decX_eq (Bs : List Nat) : decX Bs = if readE Bs ≠ 0 then (readE Bs, noX) else if goodX (rdX (((numR (0, Bs) 1).2 : Nat) : Int) (numR (0, Bs) 1).1).rx = true then (0, (rdX (((numR (0, Bs) 1).2 : Nat) : Int) (numR (0, Bs) 1).1).rx) else (8, noX) := by
 unfold decX readE
 dsimp only
 by_cases hk : kOk (((numR (0, Bs) 1).2 : Nat) : Int) = true
 · rw [if_pos hk, if_pos hk]
 · rw [if_neg hk, if_neg hk]
   have hne : (if (numR (0, Bs) 1).1.1 ≠ 0 then (numR (0, Bs) 1).1.1 else 8) ≠ 0 := by split <;> omega
   rw [if_pos hne]
theorem readE_ok {Bs : List Nat} (hB : ∀ y ∈ Bs, y < 256) (h : readE Bs = 0) : Rxok (rdX (((numR (0, Bs) 1).2 : Nat) : Int) (numR (0, Bs) 1).1).rx ∧ (rdX (((numR (0, Bs) 1).2 : Nat) : Int) (numR (0, Bs) 1).1).rx.pg.lines.length ≤ 3 ∧ (rdX (((numR (0, Bs) 1).2 : Nat) : Int) (numR (0, Bs) 1).1).rx.pg.takes.length ≤ 12 ∧ (rdX (((numR (0, Bs) 1).2 : Nat) : Int) (numR (0, Bs) 1).1).rx.pg.owes.length ≤ 3 := by
 cases hk : kOk (((numR (0, Bs) 1).2 : Nat) : Int) with
 | true => exact rdX_ok hk (numR_bytes (S := (0, Bs)) hB 1)
 | false =>
  unfold readE at h
  rw [hk, if_neg (by decide)] at h
  split at h
  · rename_i h1; exact absurd h h1
  · exact absurd h (by decide)
def Nw (W : World) (r : Rv) : Prop := (∀ a, r.lp = some a → W.heap.size ≤ a.block) ∧ (∀ a, r.tp = some a → W.heap.size ≤ a.block) ∧ (∀ a, r.wp = some a → W.heap.size ≤ a.block)
theorem nw_rz (W : World) : Nw W rz := ⟨(fun a h => by cases h), (fun a h => by cases h), fun a h => by cases h⟩
def GivesXr (W : World) (res : Int × Rx) (e : Ending) (w' : World) : Prop := ∃ r L T M, e = .returned (.tuple #[.agg (rcs r), .int .i64 res.1]) ∧ r.x L T M = res.2 ∧ RvM w' r L T M ∧ Below W.heap.size W w' ∧ Nw W r
set_option maxHeartbeats 8000000 in
theorem rec_decode (p : Option Addr) (n c : Nat) (Bs : List Nat) (W : World) (hw : Words W) (hS : Sl W p n c Bs) (hn : n ≤ 600) :
 Calls Tryz.prog 49 #[.slice p n c] W (GivesXr W (decX Bs)) := by
 obtain ⟨R, hR⟩ : ∃ R, W.heap.size = R := ⟨_, rfl⟩
 obtain ⟨W0, hW0, hr0, hb0⟩ : ∃ W0, W.alloc (.cells zr 51) = W0 ∧ RB W0 R rz ∧ Below W.heap.size W W0 := ⟨_, rfl, by rw [← hR]; exact alloc_block W _, (Below.refl _ _).alloc (Nat.le_refl _) _⟩
 have hrd := read_any p n c Bs W0 (hS.later hb0) (by omega)
 have HLN : Hid (Bs.length ≤ 1000) := Lib.hid (by have := hS.len; omega)
 have HBY : Hid (∀ y ∈ Bs, y < 256) := Lib.hid hS.lt
 have HRD := Lib.hid hrd
 have HW0 := Lib.hid hW0
 have HR0 := Lib.hid hr0
 have HB0 := Lib.hid hb0
 have HWD := Lib.hid hw
 have HRE := Lib.hid hR
 have HDX := Lib.hid (decX_eq Bs)
 clear hW0 hr0 hb0 hrd hS hw hR hn
 go_enter Tryz.func49, Tryz.ntmps49
 go_upto_region 1 with (fail)
 rw [HW0.out, HRE.out]
 go_wp2_with fail
 refine HRD.out.mono ?_
 rintro e w1 ⟨B, p', c', rfl, hB, hrd, hpb, hb1⟩
 have hBl := hrd.lt
 have hs01 := hb1.size
 have hRlt := block_lt HR0.out
 have hZ : Zw w1 w1.heap.size B (0, Bs) := ⟨⟨p', c', hrd, fun a ha => by have := (hpb a ha).2; omega⟩, hBl, Nat.le_refl _, HLN.out, HBY.out⟩
 have hlow : W.heap.size ≤ B := by have := HB0.out.size; omega
 have HBW := Lib.hid (fun w (hc : Chg (fun k => k = B) w1 w) => Chg.below (W := W) (B := W.heap.size) (HB0.out.trans (hb1.mono HB0.out.size)) (by have := HB0.out.size; omega) hc fun k hk => by omega)
 have hrr := rec_read w1 w1.heap.size B Bs hZ (fun w hc => HWD.out.later (HBW.out w hc))
 have HR1 := Lib.hid (HR0.out.later hb1)
 have HRB : Hid (R ≠ B) := Lib.hid (by omega)
 clear hB hrd hpb hb1 hBl hs01 hRlt hZ hlow HRD
 go_wp2_with fail
 refine hrr.mono ?_
 rintro e w2 ⟨r, L, T, M, rfl, hm, hx, hc, hf1, hf2, hf3⟩
 have HFR : Hid ((∀ a, r.lp = some a → R < a.block) ∧ (∀ a, r.tp = some a → R < a.block) ∧ (∀ a, r.wp = some a → R < a.block)) := Lib.hid (by
  have := block_lt HR1.out
  exact ⟨fun a h => by have := hf1 a h; omega, fun a h => by have := hf2 a h; omega, fun a h => by have := hf3 a h; omega⟩)
 clear hf1 hf2 hf3
 have HB2 := Lib.hid (HBW.out w2 hc)
 have HR2 := Lib.hid (HR1.out.chg hc HRB.out)
 have HX := Lib.hid hx
 have HM := Lib.hid hm
 clear hm hx hc hrr HR1 HRB HBW
 obtain ⟨ec, hec⟩ : ∃ z, readE Bs = z := ⟨_, rfl⟩
 rw [hec]
 have HEC := Lib.hid hec
 clear hec
 obtain ⟨N2, hN2⟩ : ∃ n, w2.heap.size = n := ⟨_, rfl⟩
 obtain ⟨w3, hwn, hxn, hbn⟩ : ∃ w3, (w2.alloc (.cells zr 51)).setRow N2 (rcs r) = w3 ∧ RB w3 N2 r ∧ Below w2.heap.size w2 w3 := ⟨_, rfl, by rw [← hN2]; exact setRow_heap _ _ _ _ _ _ (alloc_block w2 _), below_setRow ((Below.refl _ _).alloc (Nat.le_refl _) _) (by omega) _⟩
 have hxz : RB (w2.alloc (.cells zr 51)) N2 rz := by rw [← hN2]; exact alloc_block w2 _
 have HX3 := Lib.hid hxn
 have HXZ := Lib.hid hxz
 have HR3 := Lib.hid (HR2.out.later hbn)
 have HB3 := Lib.hid (HB2.out.trans (hbn.mono HB2.out.size))
 have HM3 := Lib.hid (HM.out.later hbn)
 have HWN := Lib.hid hwn
 have HNN := Lib.hid hN2
 have HWR : Hid (W.heap.size ≤ R) := Lib.hid (by have := HRE.out; omega)
 clear hwn hxn hbn hxz hN2 HM HR2
 by_cases h0 : ec = 0
 case neg =>
  have d0 : (ec != 0) = true := by simpa using h0
  have HRF := Lib.hid (HR3.out.set rz)
  have HG : Hid (GivesXr W (decX Bs) (.returned (.tuple #[.agg zr, .int .i64 ec])) (w3.setRow R zr)) := Lib.hid (by
   have hp : decX Bs = (ec, noX) := by rw [HDX.out, if_pos (by rw [HEC.out]; exact h0), HEC.out]
   rw [hp]
   exact ⟨rz, [], [], [], rfl, rfl, rz_m _, below_setRow HB3.out HWR.out zr, nw_rz _⟩)
  clear h0
  go_wp2_with (first | ((try rw [HNN.out]); (with_reducible refine wpList_store_rc r HXZ.out ?_ ?_ ?_); rfl; rfl; rw [HWN.out]) | ((with_reducible refine wpList_store_rc rz HR3.out ?_ ?_ ?_); rfl; rfl))
  (try simp only [Exit.inBlock, Exit.then])
  refine bodyPost_ret (v := .tuple #[.agg zr, .int .i64 ec]) ?_ rfl HG.out
  exact results_rc rfl _ _ R rz _ rfl rfl HRF.out
 have d0 : (ec != 0) = false := by simp [h0]
 have he0 : readE Bs = 0 := HEC.out.trans h0
 have hx := HX.out he0
 obtain ⟨hok, hs1, hs2, hs3⟩ := readE_ok HBY.out he0
 rw [← hx] at hok hs1 hs2 hs3
 have hdx := HDX.out
 rw [if_neg (fun h => h he0), ← hx] at hdx
 have hgd := rec_good r L T M w3 (HWD.out.later HB3.out) HM3.out hok ⟨by have := HM3.out.l.len; have h : L.length ≤ 3 := hs1; omega, by have := HM3.out.t.len; have h : T.length ≤ 12 := hs2; omega, by have := HM3.out.o.len; have h : M.length ≤ 3 := hs3; omega⟩
 have HDD := Lib.hid hdx
 clear hdx hok hs1 hs2 hs3 hx he0 HDX HX
 go_wp2_with (first | ((try rw [HNN.out]); (with_reducible refine wpList_store_rc r HXZ.out ?_ ?_ ?_); rfl; rfl; rw [HWN.out]) | ((with_reducible refine wpList_load_rc HX3.out ?_ ?_); rfl))
 refine hgd.mono ?_
 rintro e w4 ⟨rfl, hb4⟩
 have HB4 := Lib.hid (HB3.out.trans (hb4.mono HB3.out.size))
 have HR4 := Lib.hid (HR3.out.later hb4)
 have HX4 := Lib.hid (HX3.out.later hb4)
 have HM4 := Lib.hid (HM3.out.later hb4)
 clear hb4 hgd
 cases hg : goodX (r.x L T M)
 case false =>
  have HRF := Lib.hid (HR4.out.set rz)
  have HG : Hid (GivesXr W (decX Bs) (.returned (.tuple #[.agg zr, .int .i64 8])) (w4.setRow R zr)) := Lib.hid (by
   have hp : decX Bs = (8, noX) := by rw [HDD.out, if_neg (by rw [hg]; decide)]
   rw [hp]
   exact ⟨rz, [], [], [], rfl, rfl, rz_m _, below_setRow HB4.out HWR.out zr, nw_rz _⟩)
  go_wp2_with ((with_reducible refine wpList_store_rc rz HR4.out ?_ ?_ ?_); rfl; rfl)
  (try simp only [Exit.inBlock, Exit.then])
  refine bodyPost_ret (v := .tuple #[.agg zr, .int .i64 8]) ?_ rfl HG.out
  exact results_rc rfl _ _ R rz _ rfl rfl HRF.out
 have HRF := Lib.hid (HR4.out.set r)
 have HG : Hid (GivesXr W (decX Bs) (.returned (.tuple #[.agg (rcs r), .int .i64 0])) (w4.setRow R (rcs r))) := Lib.hid (by
  have hp : decX Bs = (0, r.x L T M) := by rw [HDD.out, if_pos hg]
  rw [hp]
  exact ⟨r, L, T, M, rfl, rfl, pgm_chg HM4.out (S := fun k => k = R) ⟨rfl, rfl, rfl, by simp [World.setRow], fun k _ hn => setRow_other _ _ _ _ hn⟩ (fun a h e => by have := HFR.out.1 a h; omega) (fun a h e => by have := HFR.out.2.1 a h; omega) (fun a h e => by have := HFR.out.2.2 a h; omega), below_setRow HB4.out HWR.out (rcs r), (fun a h => by have := HFR.out.1 a h; have := HRE.out; omega), (fun a h => by have := HFR.out.2.1 a h; have := HRE.out; omega), fun a h => by have := HFR.out.2.2 a h; have := HRE.out; omega⟩)
 clear hg
 go_wp2_with (first | ((with_reducible refine wpList_load_rc HX4.out ?_ ?_); rfl) | ((with_reducible refine wpList_store_rc r HR4.out ?_ ?_ ?_); rfl; rfl))
 (try simp only [Exit.inBlock, Exit.then])
 refine bodyPost_ret (v := .tuple #[.agg (rcs r), .int .i64 0]) ?_ rfl HG.out
 exact results_rc rfl _ _ R r _ rfl rfl HRF.out
theorem gk1 (sg tx st : Int) (cp : Bool) (key : K) (d o : Int) (pg : Pg) : goodX ⟨1, sg, tx, st, cp, key, d, o, pg⟩ = ((sg != 0) && goodP 4 4 pg && decide ((⟨1, sg, tx, st, cp, key, d, o, pg⟩ : Rx) = ⟨1, sg, 0, 0, false, (0, 0, 0), 0, 0, pg⟩)) := by
 rw [Bool.eq_iff_iff]
 simp [goodX, kOk, kS, kT, kB, kA, kO, kP, stepB, addB, outB, progB]
 grind
theorem gk2 (sg tx st : Int) (cp : Bool) (key : K) (d o : Int) (pg : Pg) : goodX ⟨2, sg, tx, st, cp, key, d, o, pg⟩ = ((sg != 0) && (tx != 0) && decide (st < 5) && decide ((⟨2, sg, tx, st, cp, key, d, o, pg⟩ : Rx) = ⟨2, sg, tx, st, cp, (0, 0, 0), 0, 0, noP⟩)) := by
 rw [Bool.eq_iff_iff]
 simp [goodX, kOk, kS, kT, kB, kA, kO, kP, stepB, addB, outB, progB]
 grind
theorem gk3 (sg tx st : Int) (cp : Bool) (key : K) (d o : Int) (pg : Pg) (hd : In64 d) : goodX ⟨3, sg, tx, st, cp, key, d, o, pg⟩ = ((tx != 0) && goodB 4 4 key.1 key.2.1 key.2.2 && (d != 0) && decide (-9223372036854775807 ≤ d) && decide ((⟨3, sg, tx, st, cp, key, d, o, pg⟩ : Rx) = ⟨3, 0, tx, 0, false, key, d, 0, noP⟩)) := by
 have h1 := hd.1
 have h2 : (d != -9223372036854775808) = decide (-9223372036854775807 ≤ d) := by
  rw [Bool.eq_iff_iff]; simp; omega
 rw [Bool.eq_iff_iff]
 simp [goodX, kOk, kS, kT, kB, kA, kO, kP, stepB, addB, outB, progB, h2]
 grind
theorem gk6 (sg tx st : Int) (cp : Bool) (key : K) (d o : Int) (pg : Pg) (hd : In64 d) : goodX ⟨6, sg, tx, st, cp, key, d, o, pg⟩ = ((tx != 0) && goodB 4 4 key.1 key.2.1 key.2.2 && (d != 0) && decide (-9223372036854775807 ≤ d) && decide ((⟨6, sg, tx, st, cp, key, d, o, pg⟩ : Rx) = ⟨6, 0, tx, 0, false, key, d, 0, noP⟩)) := by
 have h1 := hd.1
 have h2 : (d != -9223372036854775808) = decide (-9223372036854775807 ≤ d) := by
  rw [Bool.eq_iff_iff]; simp; omega
 rw [Bool.eq_iff_iff]
 simp [goodX, kOk, kS, kT, kB, kA, kO, kP, stepB, addB, outB, progB, h2]
 grind
theorem gk4 (k sg tx st : Int) (cp : Bool) (key : K) (d o : Int) (pg : Pg) (hk : k = 4 ∨ k = 5 ∨ k = 7) : goodX ⟨k, sg, tx, st, cp, key, d, o, pg⟩ = ((tx != 0) && decide ((⟨k, sg, tx, st, cp, key, d, o, pg⟩ : Rx) = ⟨k, 0, tx, 0, false, (0, 0, 0), 0, 0, noP⟩)) := by
 rw [Bool.eq_iff_iff]
 rcases hk with rfl | rfl | rfl <;> simp [goodX, kOk, kS, kT, kB, kA, kO, kP, stepB, addB, outB, progB] <;> grind
theorem gk8 (sg tx st : Int) (cp : Bool) (key : K) (d o : Int) (pg : Pg) : goodX ⟨8, sg, tx, st, cp, key, d, o, pg⟩ = ((sg != 0) && decide ((⟨8, sg, tx, st, cp, key, d, o, pg⟩ : Rx) = ⟨8, sg, 0, 0, false, (0, 0, 0), 0, 0, noP⟩)) := by
 rw [Bool.eq_iff_iff]
 simp [goodX, kOk, kS, kT, kB, kA, kO, kP, stepB, addB, outB, progB]
 grind
theorem gk9 (sg tx st : Int) (cp : Bool) (key : K) (d o : Int) (pg : Pg) : goodX ⟨9, sg, tx, st, cp, key, d, o, pg⟩ = ((sg != 0) && ((o == 1) || (o == 2)) && decide ((⟨9, sg, tx, st, cp, key, d, o, pg⟩ : Rx) = ⟨9, sg, 0, 0, false, (0, 0, 0), 0, o, noP⟩)) := by
 rw [Bool.eq_iff_iff]
 simp [goodX, kOk, kS, kT, kB, kA, kO, kP, stepB, addB, outB, progB]
 grind
end Go.Proofs.YtfdgnniicjdjdaaGreatDoor
