import Derived.Test.YtfdgnniicjdjdaaGreatDoorPr28
namespace Go.Proofs.YtfdgnniicjdjdaaGreatDoor
open Go.RowKit Go.ChangeShapes Go.WideShapes
set_option linter.unusedVariables false
set_option linter.unusedSimpArgs false
set_option maxRecDepth 10000
def GivesD2 (W : World) (r : Int × Pg) (e : Ending) (w' : World) : Prop := ∃ lp lc tp tc wp wc, e = .returned (.tuple #[.agg #[.int .u8 r.2.kind, .int .u32 r.2.order, .int .u8 r.2.policy, .slice lp r.2.lines.length lc, .slice tp r.2.takes.length tc, .slice wp r.2.owes.length wc, .int .u8 r.2.sku, .int .u8 r.2.frm, .int .u8 r.2.to, .int .i64 r.2.qty], .int .i64 r.1]) ∧ PgM w' lp r.2.lines.length lc r.2.lines tp r.2.takes.length tc r.2.takes wp r.2.owes.length wc r.2.owes ∧ Below W.heap.size W w' ∧ (∀ a, lp = some a → W.heap.size ≤ a.block) ∧ (∀ a, tp = some a → W.heap.size ≤ a.block) ∧ (∀ a, wp = some a → W.heap.size ≤ a.block)
theorem results_pg {fn : Func} (h : fn.results = #[.cell 2 49, .tmp 3]) (tmps : Array Value) (W : World) (R : Nat) (C : Array Value) (v : Value) (hp : tmps.getD 2 undef = .pointer (some ⟨R, 0, none⟩)) (hv : tmps.getD 3 undef = v)
 (hB : W.heap[R]? = some (.cells C 49 (0, 0))) (hC : C.size = 10) : (results fn tmps).run Tryz.prog W = .ok (.tuple #[.agg C, v]) W := by
 rw [results_cell_tmp h, hp, hv]
 simp [asAddr, Result.andThen, run_loadVar_row W R 49 49 C (0, 0) _ hB Tryz.underlying49 rfl (by rw [hC]; kernel_rfl)]
theorem wpList_store_pg (k od po : Int) (lp : Option Addr) (ln lcp : Nat) (tp : Option Addr) (tn tcp : Nat) (wp : Option Addr) (wn wcp : Nat) (sk fr to q : Int) {ops : Array Oper} {rest : List Oper} {a : Act} {w : World} {Q : Exit → Act → World → Prop} {dst : Option Tmp} {x y : Operand} {ty : TypeId} {pos : String} {after : Array Edge} {B : Nat} (hB : w.heap[B]? = some (.cells zc 49 (0, 0)))
 (hx : a.eval x = .pointer (some ⟨B, 0, none⟩)) (hy : a.eval y = .agg #[.int .u8 k, .int .u32 od, .int .u8 po, .slice lp ln lcp, .slice tp tn tcp, .slice wp wn wcp, .int .u8 sk, .int .u8 fr, .int .u8 to, .int .i64 q])
 (h : wpList Tryz.prog ops Q rest (a.put dst undef) (w.setRow B #[.int .u8 k, .int .u32 od, .int .u8 po, .slice lp ln lcp, .slice tp tn tcp, .slice wp wn wcp, .int .u8 sk, .int .u8 fr, .int .u8 to, .int .i64 q])) : wpList Tryz.prog ops Q (Oper.mk dst (.store 49 x y) ty pos after none :: rest) a w :=
 wpList_store_row rfl 49 x y rfl B #[.int .u8 k, .int .u32 od, .int .u8 po, .slice lp ln lcp, .slice tp tn tcp, .slice wp wn wcp, .int .u8 sk, .int .u8 fr, .int .u8 to, .int .i64 q] hx hy 49 zc hB (by kernel_rfl) rfl (by simp [Value.oneCell']) h
set_option maxHeartbeats 16000000 in
theorem zdecode2 (p : Option Addr) (n c : Nat) (Bs : List Nat) (W : World) (hw : Words W) (hS : Sl W p n c Bs) (hn : n ≤ 600) :
 Calls Tryz.prog 140 #[.slice p n c] W (GivesD2 W (decP Bs)) := by
 obtain ⟨R, hR⟩ : ∃ R, W.heap.size = R := ⟨_, rfl⟩
 obtain ⟨W0, hW0, hs0, hr0, hb0⟩ : ∃ W0, W.alloc (.cells zc 49) = W0 ∧ W0.heap.size = R + 1 ∧ W0.heap[R]? = some (.cells zc 49 (0, 0)) ∧ Below W.heap.size W W0 := ⟨_, rfl, by simp [hR], by rw [← hR]; exact alloc_block W _, (Below.refl _ _).alloc (Nat.le_refl _) _⟩
 have hrd := read_any p n c Bs W0 (hS.later hb0) (by omega)
 have HRD := Lib.hid hrd
 have HLN := Lib.hid hS.len
 have HBY : Hid (∀ y ∈ Bs, y < 256) := Lib.hid hS.lt
 have HW0 := Lib.hid hW0
 have HS0 := Lib.hid hs0
 have HR0 := Lib.hid hr0
 have HB0 := Lib.hid hb0
 have HWD := Lib.hid hw
 have HRE := Lib.hid hR
 clear hW0 hs0 hr0 hb0 hrd hS hw hR
 go_enter Tryz.func140, Tryz.ntmps140
 go_upto_region 1 with (fail)
 rw [HW0.out, HRE.out]
 go_wp2_with fail
 refine HRD.out.mono ?_
 rintro e w1 ⟨B, p', c', rfl, hB, hrd, hpb, hb1⟩
 obtain ⟨X, hX⟩ : ∃ X, w1.heap.size = X := ⟨_, rfl⟩
 obtain ⟨w3, hw3, hs3, hx3, hy3, hb3⟩ : ∃ w3, (w1.alloc (.cells #[.pointer (some ⟨B, 0, none⟩), .int .i64 0] 245)).alloc (.cells zc 49) = w3 ∧ w3.heap.size = X + 2 ∧ w3.heap[X]? = some (.cells #[.pointer (some ⟨B, 0, none⟩), .int .i64 0] 245 (0, 0)) ∧ w3.heap[X + 1]? = some (.cells zc 49 (0, 0)) ∧ Below w1.heap.size w1 w3 := ⟨_, rfl, by simp [hX], by rw [← hX]; exact (Below.heap_alloc _ _ _ (by simp)).trans (alloc_block w1 _), by have := alloc_block (w1.alloc (.cells #[.pointer (some ⟨B, 0, none⟩), .int .i64 0] 245)) (.cells zc 49); rwa [World.size_alloc, hX] at this, ((Below.refl _ _).alloc (Nat.le_refl _) _).alloc (by simp) _⟩
 have hBl := hrd.lt
 have hW := HS0.out
 have hWe := HRE.out
 have hD : Dz W w3 (X + 1) B X (X + 1) R 0 (0, Bs) zc := by
  refine ⟨⟨⟨p', c', hrd.chg (Chg.of_below (S := fun _ => False) hb3) (fun h => h) (fun _ _ h => h), fun a ha => ⟨by have := (hpb a ha).2; omega, by have := (hpb a ha).2; omega⟩⟩, hx3, by omega, ⟨by omega, by omega⟩, by omega, by show Bs.length ≤ 1000; rw [HLN.out]; omega, HBY.out⟩, hy3, block_later (block_later HR0.out hb1) hb3, Nat.le_refl _, ⟨by omega, by omega, by omega⟩, HB0.out.trans ((hb1.trans (hb3.mono hb1.size)).mono HB0.out.size), ⟨by omega, by omega, by omega⟩⟩
 have HD0 := Lib.hid hD
 have HW3 := Lib.hid hw3
 have HXE := Lib.hid hX
 have x0 := HD0.out.z.c0
 clear hB hrd hpb hb1 hX hw3 hs3 hx3 hy3 hb3 hBl hW hWe hD
 go_upto_region 3 with (fail)
 rw [HW3.out, HXE.out]
 clear HW3 HXE HRD
 obtain ⟨R0, hR0⟩ : ∃ R, numR ((0, Bs) : St) 1 = R := ⟨_, rfl⟩
 have hn := z_num HD0.out.z 1
 rw [hR0] at hn
 have hf : R0.2 < 256 := by rw [← hR0]; exact fit1 HD0.out.z.bytes
 have hx0 : IntKind.u8.wrap ((R0.2 : Nat) : Int) = (R0.2 : Nat) := by simp [IntKind.wrap, IntKind.bits, IntKind.signed]; omega
 have HFT0 := Lib.hid hf
 clear hf
 have HR0 := Lib.hid hR0
 clear hR0
 go_wp2_with fail
 refine hn.mono ?_
 rintro e y0 ⟨rfl, hz, hc⟩
 have HDb := Lib.hid (HD0.out.low hz hc)
 clear hz hc hn x0
 obtain ⟨cy, cf⟩ := HDb.out.cy (j := 0) rfl
 go_upto_region 4 with (fail)
 clear cy cf
 have hd := HDb.out.put 0 (.int .u8 ((R0.2 : Nat) : Int))
 simp only [List.setIfInBounds_toArray, List.set_cons_zero, List.set_cons_succ] at hd
 generalize y0.setCell ⟨X + 1, 0, none⟩ (.int .u8 ((R0.2 : Nat) : Int)) = z0 at *
 have HD1 := Lib.hid hd
 have x0 := HD1.out.z.c0
 clear hd HDb HD0 
 obtain ⟨R1, hR1⟩ : ∃ R, numR R0.1 4 = R := ⟨_, rfl⟩
 have hn := z_num HD1.out.z 4
 rw [hR1] at hn
 have hf : R1.2 < 4294967296 := by rw [← hR1]; exact fit4 HD1.out.z.bytes
 have hx1 : IntKind.u32.wrap ((R1.2 : Nat) : Int) = (R1.2 : Nat) := by simp [IntKind.wrap, IntKind.bits, IntKind.signed]; omega
 have HFT1 := Lib.hid hf
 clear hf
 have HR1 := Lib.hid hR1
 clear hR1
 go_wp2_with fail
 refine hn.mono ?_
 rintro e y1 ⟨rfl, hz, hc⟩
 have HDb := Lib.hid (HD1.out.low hz hc)
 clear hz hc hn x0
 obtain ⟨cy, cf⟩ := HDb.out.cy (j := 1) rfl
 go_upto_region 5 with (fail)
 clear cy cf
 have hd := HDb.out.put 1 (.int .u32 ((R1.2 : Nat) : Int))
 simp only [List.setIfInBounds_toArray, List.set_cons_zero, List.set_cons_succ] at hd
 generalize y1.setCell ⟨X + 1, 1, none⟩ (.int .u32 ((R1.2 : Nat) : Int)) = z1 at *
 have HD2 := Lib.hid hd
 have x0 := HD2.out.z.c0
 clear hd HDb HD1 
 obtain ⟨R2, hR2⟩ : ∃ R, numR R1.1 1 = R := ⟨_, rfl⟩
 have hn := z_num HD2.out.z 1
 rw [hR2] at hn
 have hf : R2.2 < 256 := by rw [← hR2]; exact fit1 HD2.out.z.bytes
 have hx2 : IntKind.u8.wrap ((R2.2 : Nat) : Int) = (R2.2 : Nat) := by simp [IntKind.wrap, IntKind.bits, IntKind.signed]; omega
 have HFT2 := Lib.hid hf
 clear hf
 have HR2 := Lib.hid hR2
 clear hR2
 go_wp2_with fail
 refine hn.mono ?_
 rintro e y2 ⟨rfl, hz, hc⟩
 have HDb := Lib.hid (HD2.out.low hz hc)
 clear hz hc hn x0
 obtain ⟨cy, cf⟩ := HDb.out.cy (j := 2) rfl
 go_upto_region 6 with (fail)
 clear cy cf
 have hd := HDb.out.put 2 (.int .u8 ((R2.2 : Nat) : Int))
 simp only [List.setIfInBounds_toArray, List.set_cons_zero, List.set_cons_succ] at hd
 generalize y2.setCell ⟨X + 1, 2, none⟩ (.int .u8 ((R2.2 : Nat) : Int)) = z2 at *
 have HD3 := Lib.hid hd
 have x0 := HD3.out.z.c0
 clear hd HDb HD2 
 obtain ⟨R3, hR3⟩ : ∃ R, listR lineR 3 R2.1 = R := ⟨_, rfl⟩
 have hn := zlist_ln HD3.out.z 3 (by omega)
 rw [hR3] at hn
 have HOKl : Hid (∀ x ∈ R3.1.2, Lnok x) := Lib.hid (by rw [← hR3]; exact listR_all (fun S h => lineR_by h) (fun S h => lineR_ok h) 3 HD3.out.z.bytes)
 have HMSl : Hid (R3.1.2.length ≤ 3) := Lib.hid (by rw [← hR3]; exact listR_most lineR 3 _)
 have HR3 := Lib.hid hR3
 clear hR3
 obtain ⟨nl, hnl⟩ : ∃ n, R3.1.2.length = n := ⟨_, rfl⟩
 rw [hnl] at hn HMSl
 have HNl := Lib.hid hnl
 clear hnl
 obtain ⟨m3, hm3⟩ : ∃ m, (if R3.2 = true then (8 : Int) else 0) = m := ⟨_, rfl⟩
 rw [hm3] at hn
 have HM3 := Lib.hid hm3
 clear hm3
 go_wp2_with fail
 refine hn.mono ?_
 rintro e y3 ⟨pl, cl, rfl, hl, hfar, hz, hc⟩
 have HFl : Hid (Far (X + 1) pl) := Lib.hid fun a ha => by have := hfar a ha; have := block_lt HD3.out.y; omega
 have HLlb := Lib.hid hl
 clear hl hfar
 have HDb := Lib.hid (HD3.out.low hz hc)
 clear hz hc hn x0
 obtain ⟨cy, cf⟩ := HDb.out.cy (j := 3) rfl
 go_upto_region 7 with (fail)
 clear cy cf
 have hd := HDb.out.put 3 (.slice pl nl cl)
 simp only [List.setIfInBounds_toArray, List.set_cons_zero, List.set_cons_succ] at hd
 have HLlc := Lib.hid (far_put HFl.out HLlb.out 3 (.slice pl nl cl))
 generalize y3.setCell ⟨X + 1, 3, none⟩ (.slice pl nl cl) = z3 at *
 have HD4 := Lib.hid hd
 have HLl := HLlc
 have x0 := HD4.out.z.c0
 clear hd HDb HD3 HLlb HLlc
 obtain ⟨R4, hR4⟩ : ∃ R, listR tkR 12 R3.1.1 = R := ⟨_, rfl⟩
 have hn := zlist_tk HD4.out.z 12 (by omega)
 rw [hR4] at hn
 have HOKt : Hid (∀ x ∈ R4.1.2, Tkok x) := Lib.hid (by rw [← hR4]; exact listR_all (fun S h => tkR_by h) (fun S h => tkR_ok h) 12 HD4.out.z.bytes)
 have HMSt : Hid (R4.1.2.length ≤ 12) := Lib.hid (by rw [← hR4]; exact listR_most tkR 12 _)
 have HR4 := Lib.hid hR4
 clear hR4
 obtain ⟨nt, hnt⟩ : ∃ n, R4.1.2.length = n := ⟨_, rfl⟩
 rw [hnt] at hn HMSt
 have HNt := Lib.hid hnt
 clear hnt
 obtain ⟨m4, hm4⟩ : ∃ m, (if R4.2 = true then (8 : Int) else m3) = m := ⟨_, rfl⟩
 rw [hm4] at hn
 have HM4 := Lib.hid hm4
 clear hm4
 go_wp2_with fail
 refine hn.mono ?_
 rintro e y4 ⟨pt, ct, rfl, hl, hfar, hz, hc⟩
 have HFt : Hid (Far (X + 1) pt) := Lib.hid fun a ha => by have := hfar a ha; have := block_lt HD4.out.y; omega
 have HLlb := Lib.hid (far_low HD4.out HFl.out HLl.out hc)
 have HLtb := Lib.hid hl
 clear hl hfar
 have HDb := Lib.hid (HD4.out.low hz hc)
 clear hz hc hn x0
 obtain ⟨cy, cf⟩ := HDb.out.cy (j := 4) rfl
 go_upto_region 8 with (fail)
 clear cy cf
 have hd := HDb.out.put 4 (.slice pt nt ct)
 simp only [List.setIfInBounds_toArray, List.set_cons_zero, List.set_cons_succ] at hd
 have HLlc := Lib.hid (far_put HFl.out HLlb.out 4 (.slice pt nt ct))
 have HLtc := Lib.hid (far_put HFt.out HLtb.out 4 (.slice pt nt ct))
 generalize y4.setCell ⟨X + 1, 4, none⟩ (.slice pt nt ct) = z4 at *
 have HD5 := Lib.hid hd
 clear HLl
 have HLl := HLlc
 have HLt := HLtc
 have x0 := HD5.out.z.c0
 clear hd HDb HD4 HLlb HLlc HLtb HLtc
 obtain ⟨R5, hR5⟩ : ∃ R, listR lineR 3 R4.1.1 = R := ⟨_, rfl⟩
 have hn := zlist_ln HD5.out.z 3 (by omega)
 rw [hR5] at hn
 have HOKo : Hid (∀ x ∈ R5.1.2, Lnok x) := Lib.hid (by rw [← hR5]; exact listR_all (fun S h => lineR_by h) (fun S h => lineR_ok h) 3 HD5.out.z.bytes)
 have HMSo : Hid (R5.1.2.length ≤ 3) := Lib.hid (by rw [← hR5]; exact listR_most lineR 3 _)
 have HR5 := Lib.hid hR5
 clear hR5
 obtain ⟨no, hno⟩ : ∃ n, R5.1.2.length = n := ⟨_, rfl⟩
 rw [hno] at hn HMSo
 have HNo := Lib.hid hno
 clear hno
 obtain ⟨m5, hm5⟩ : ∃ m, (if R5.2 = true then (8 : Int) else m4) = m := ⟨_, rfl⟩
 rw [hm5] at hn
 have HM5 := Lib.hid hm5
 clear hm5
 go_wp2_with fail
 refine hn.mono ?_
 rintro e y5 ⟨po, co, rfl, hl, hfar, hz, hc⟩
 have HFo : Hid (Far (X + 1) po) := Lib.hid fun a ha => by have := hfar a ha; have := block_lt HD5.out.y; omega
 have HLlb := Lib.hid (far_low HD5.out HFl.out HLl.out hc)
 have HLtb := Lib.hid (far_low HD5.out HFt.out HLt.out hc)
 have HLob := Lib.hid hl
 clear hl hfar
 have HDb := Lib.hid (HD5.out.low hz hc)
 clear hz hc hn x0
 obtain ⟨cy, cf⟩ := HDb.out.cy (j := 5) rfl
 go_upto_region 9 with (fail)
 clear cy cf
 have hd := HDb.out.put 5 (.slice po no co)
 simp only [List.setIfInBounds_toArray, List.set_cons_zero, List.set_cons_succ] at hd
 have HLlc := Lib.hid (far_put HFl.out HLlb.out 5 (.slice po no co))
 have HLtc := Lib.hid (far_put HFt.out HLtb.out 5 (.slice po no co))
 have HLoc := Lib.hid (far_put HFo.out HLob.out 5 (.slice po no co))
 generalize y5.setCell ⟨X + 1, 5, none⟩ (.slice po no co) = z5 at *
 have HD6 := Lib.hid hd
 clear HLl HLt
 have HLl := HLlc
 have HLt := HLtc
 have HLo := HLoc
 have x0 := HD6.out.z.c0
 clear hd HDb HD5 HLlb HLlc HLtb HLtc HLob HLoc
 obtain ⟨R6, hR6⟩ : ∃ R, numR R5.1.1 1 = R := ⟨_, rfl⟩
 have hn := z_num HD6.out.z 1
 rw [hR6] at hn
 have hf : R6.2 < 256 := by rw [← hR6]; exact fit1 HD6.out.z.bytes
 have hx6 : IntKind.u8.wrap ((R6.2 : Nat) : Int) = (R6.2 : Nat) := by simp [IntKind.wrap, IntKind.bits, IntKind.signed]; omega
 have HFT6 := Lib.hid hf
 clear hf
 have HR6 := Lib.hid hR6
 clear hR6
 go_wp2_with fail
 refine hn.mono ?_
 rintro e y6 ⟨rfl, hz, hc⟩
 have HLlb := Lib.hid (far_low HD6.out HFl.out HLl.out hc)
 have HLtb := Lib.hid (far_low HD6.out HFt.out HLt.out hc)
 have HLob := Lib.hid (far_low HD6.out HFo.out HLo.out hc)
 have HDb := Lib.hid (HD6.out.low hz hc)
 clear hz hc hn x0
 obtain ⟨cy, cf⟩ := HDb.out.cy (j := 6) rfl
 go_upto_region 10 with (fail)
 clear cy cf
 have hd := HDb.out.put 6 (.int .u8 ((R6.2 : Nat) : Int))
 simp only [List.setIfInBounds_toArray, List.set_cons_zero, List.set_cons_succ] at hd
 have HLlc := Lib.hid (far_put HFl.out HLlb.out 6 (.int .u8 ((R6.2 : Nat) : Int)))
 have HLtc := Lib.hid (far_put HFt.out HLtb.out 6 (.int .u8 ((R6.2 : Nat) : Int)))
 have HLoc := Lib.hid (far_put HFo.out HLob.out 6 (.int .u8 ((R6.2 : Nat) : Int)))
 generalize y6.setCell ⟨X + 1, 6, none⟩ (.int .u8 ((R6.2 : Nat) : Int)) = z6 at *
 have HD7 := Lib.hid hd
 clear HLl HLt HLo
 have HLl := HLlc
 have HLt := HLtc
 have HLo := HLoc
 have x0 := HD7.out.z.c0
 clear hd HDb HD6 HLlb HLlc HLtb HLtc HLob HLoc
 obtain ⟨R7, hR7⟩ : ∃ R, numR R6.1 1 = R := ⟨_, rfl⟩
 have hn := z_num HD7.out.z 1
 rw [hR7] at hn
 have hf : R7.2 < 256 := by rw [← hR7]; exact fit1 HD7.out.z.bytes
 have hx7 : IntKind.u8.wrap ((R7.2 : Nat) : Int) = (R7.2 : Nat) := by simp [IntKind.wrap, IntKind.bits, IntKind.signed]; omega
 have HFT7 := Lib.hid hf
 clear hf
 have HR7 := Lib.hid hR7
 clear hR7
 go_wp2_with fail
 refine hn.mono ?_
 rintro e y7 ⟨rfl, hz, hc⟩
 have HLlb := Lib.hid (far_low HD7.out HFl.out HLl.out hc)
 have HLtb := Lib.hid (far_low HD7.out HFt.out HLt.out hc)
 have HLob := Lib.hid (far_low HD7.out HFo.out HLo.out hc)
 have HDb := Lib.hid (HD7.out.low hz hc)
 clear hz hc hn x0
 obtain ⟨cy, cf⟩ := HDb.out.cy (j := 7) rfl
 go_upto_region 11 with (fail)
 clear cy cf
 have hd := HDb.out.put 7 (.int .u8 ((R7.2 : Nat) : Int))
 simp only [List.setIfInBounds_toArray, List.set_cons_zero, List.set_cons_succ] at hd
 have HLlc := Lib.hid (far_put HFl.out HLlb.out 7 (.int .u8 ((R7.2 : Nat) : Int)))
 have HLtc := Lib.hid (far_put HFt.out HLtb.out 7 (.int .u8 ((R7.2 : Nat) : Int)))
 have HLoc := Lib.hid (far_put HFo.out HLob.out 7 (.int .u8 ((R7.2 : Nat) : Int)))
 generalize y7.setCell ⟨X + 1, 7, none⟩ (.int .u8 ((R7.2 : Nat) : Int)) = z7 at *
 have HD8 := Lib.hid hd
 clear HLl HLt HLo
 have HLl := HLlc
 have HLt := HLtc
 have HLo := HLoc
 have x0 := HD8.out.z.c0
 clear hd HDb HD7 HLlb HLlc HLtb HLtc HLob HLoc
 obtain ⟨R8, hR8⟩ : ∃ R, numR R7.1 1 = R := ⟨_, rfl⟩
 have hn := z_num HD8.out.z 1
 rw [hR8] at hn
 have hf : R8.2 < 256 := by rw [← hR8]; exact fit1 HD8.out.z.bytes
 have hx8 : IntKind.u8.wrap ((R8.2 : Nat) : Int) = (R8.2 : Nat) := by simp [IntKind.wrap, IntKind.bits, IntKind.signed]; omega
 have HFT8 := Lib.hid hf
 clear hf
 have HR8 := Lib.hid hR8
 clear hR8
 go_wp2_with fail
 refine hn.mono ?_
 rintro e y8 ⟨rfl, hz, hc⟩
 have HLlb := Lib.hid (far_low HD8.out HFl.out HLl.out hc)
 have HLtb := Lib.hid (far_low HD8.out HFt.out HLt.out hc)
 have HLob := Lib.hid (far_low HD8.out HFo.out HLo.out hc)
 have HDb := Lib.hid (HD8.out.low hz hc)
 clear hz hc hn x0
 obtain ⟨cy, cf⟩ := HDb.out.cy (j := 8) rfl
 go_upto_region 12 with (fail)
 clear cy cf
 have hd := HDb.out.put 8 (.int .u8 ((R8.2 : Nat) : Int))
 simp only [List.setIfInBounds_toArray, List.set_cons_zero, List.set_cons_succ] at hd
 have HLlc := Lib.hid (far_put HFl.out HLlb.out 8 (.int .u8 ((R8.2 : Nat) : Int)))
 have HLtc := Lib.hid (far_put HFt.out HLtb.out 8 (.int .u8 ((R8.2 : Nat) : Int)))
 have HLoc := Lib.hid (far_put HFo.out HLob.out 8 (.int .u8 ((R8.2 : Nat) : Int)))
 generalize y8.setCell ⟨X + 1, 8, none⟩ (.int .u8 ((R8.2 : Nat) : Int)) = z8 at *
 have HD9 := Lib.hid hd
 clear HLl HLt HLo
 have HLl := HLlc
 have HLt := HLtc
 have HLo := HLoc
 have x0 := HD9.out.z.c0
 clear hd HDb HD8 HLlb HLlc HLtb HLtc HLob HLoc
 obtain ⟨R9, hR9⟩ : ∃ R, numR R8.1 8 = R := ⟨_, rfl⟩
 have hn := z_int HD9.out.z
 rw [hR9] at hn
 have HFT9 : Hid (R9.2 < 18446744073709551616) := Lib.hid (by rw [← hR9]; exact fit8 HD9.out.z.bytes)
 have HR9 := Lib.hid hR9
 clear hR9
 go_wp2_with fail
 refine hn.mono ?_
 rintro e y9 ⟨rfl, hz, hc⟩
 have HLlb := Lib.hid (far_low HD9.out HFl.out HLl.out hc)
 have HLtb := Lib.hid (far_low HD9.out HFt.out HLt.out hc)
 have HLob := Lib.hid (far_low HD9.out HFo.out HLo.out hc)
 have HDb := Lib.hid (HD9.out.low hz hc)
 clear hz hc hn x0
 obtain ⟨cy, cf⟩ := HDb.out.cy (j := 9) rfl
 go_upto_region 13 with (fail)
 clear cy cf
 have hd := HDb.out.put 9 (.int .i64 (sgn R9.2))
 simp only [List.setIfInBounds_toArray, List.set_cons_zero, List.set_cons_succ] at hd
 have HLlc := Lib.hid (far_put HFl.out HLlb.out 9 (.int .i64 (sgn R9.2)))
 have HLtc := Lib.hid (far_put HFt.out HLtb.out 9 (.int .i64 (sgn R9.2)))
 have HLoc := Lib.hid (far_put HFo.out HLob.out 9 (.int .i64 (sgn R9.2)))
 generalize y9.setCell ⟨X + 1, 9, none⟩ (.int .i64 (sgn R9.2)) = z9 at *
 have HD10 := Lib.hid hd
 clear HLl HLt HLo
 have HLl := HLlc
 have HLt := HLtc
 have HLo := HLoc
 have x0 := HD10.out.z.c0
 clear hd HDb HD9 HLlb HLlc HLtb HLtc HLob HLoc
 have HDEC : Hid (decR Bs = ⟨R9.1, ⟨((R0.2 : Nat) : Int), ((R1.2 : Nat) : Int), ((R2.2 : Nat) : Int), R3.1.2, R4.1.2, R5.1.2, ((R6.2 : Nat) : Int), ((R7.2 : Nat) : Int), ((R8.2 : Nat) : Int), sgn R9.2⟩, R3.2 || R4.2 || R5.2⟩) := Lib.hid (by
  unfold decR
  dsimp only
  rw [HR0.out, HR1.out, HR2.out, HR3.out, HR4.out, HR5.out, HR6.out, HR7.out, HR8.out, HR9.out])
 obtain ⟨er, her⟩ : ∃ er, (if m5 ≠ 0 then m5 else endR R9.1) = er := ⟨_, rfl⟩
 have HER := Lib.hid her
 have HE : Hid (decE Bs = er) := Lib.hid (by
  unfold decE
  rw [HDEC.out, ← her, ← HM5.out, ← HM4.out, ← HM3.out]
  dsimp only
  cases R3.2 <;> cases R4.2 <;> cases R5.2 <;> simp)
 have HPO : Hid (Pgok ⟨((R0.2 : Nat) : Int), ((R1.2 : Nat) : Int), ((R2.2 : Nat) : Int), R3.1.2, R4.1.2, R5.1.2, ((R6.2 : Nat) : Int), ((R7.2 : Nat) : Int), ((R8.2 : Nat) : Int), sgn R9.2⟩) := Lib.hid ⟨⟨by show (0 : Int) ≤ (R0.2 : Nat); omega, by have := HFT0.out; show ((R0.2 : Nat) : Int) ≤ 255; omega⟩, ⟨by show (0 : Int) ≤ (R1.2 : Nat); omega, by have := HFT1.out; show ((R1.2 : Nat) : Int) ≤ 4294967295; omega⟩, ⟨by show (0 : Int) ≤ (R2.2 : Nat); omega, by have := HFT2.out; show ((R2.2 : Nat) : Int) ≤ 255; omega⟩, HOKl.out, HOKt.out, HOKo.out, ⟨by show (0 : Int) ≤ (R6.2 : Nat); omega, by have := HFT6.out; show ((R6.2 : Nat) : Int) ≤ 255; omega⟩, ⟨by show (0 : Int) ≤ (R7.2 : Nat); omega, by have := HFT7.out; show ((R7.2 : Nat) : Int) ≤ 255; omega⟩, ⟨by show (0 : Int) ≤ (R8.2 : Nat); omega, by have := HFT8.out; show ((R8.2 : Nat) : Int) ≤ 255; omega⟩, sgn_in HFT9.out⟩
 have HPM : Hid (PgM z9 pl nl cl R3.1.2 pt nt ct R4.1.2 po no co R5.1.2) := Lib.hid ⟨HLl.out, HLt.out, HLo.out⟩
 clear her x0 HLl HLt HLo
 have HBX : Hid (z9.drew.heap[X]? = some (.cells #[.pointer (some ⟨B, 0, none⟩), .int .i64 m5] 245 (0, 0))) := Lib.hid HD10.out.z.box
 have HDd := Lib.hid (HD10.out.keep (show Below z9.heap.size z9 z9.drew from (Below.refl _ _).drew))
 have HPd := Lib.hid (HPM.out.later (show Below z9.heap.size z9 z9.drew from (Below.refl _ _).drew))
 refine wp_region_held_drew (S := fun w' => Hid (w'.heap[X]? = some (.cells #[.pointer (some ⟨B, 0, none⟩), .int .i64 m5] 245 (0, 0)))) (by kernel_rfl) HBX (fun hHeld => ?_)
 refine wpAnyH_take (i := 0) (oi := ⟨some 74, _, _, _, _, _⟩) (v := (.pointer (some ⟨X, 0, none⟩))) rfl (by kernel_rfl) (by kernel_rfl) (by kernel_rfl) (fun _ _ _ h => h) (Or.inl ⟨by rfl, fun w' hw' => ?_⟩) (by assumption) ?_
 · clear hHeld
   go_simp
 simp only [Act.put, List.setIfInBounds_toArray, List.set_cons_zero, List.set_cons_succ]
 refine wpAnyH_take (i := 1) (oi := ⟨some 75, _, _, _, _, _⟩) (v := (.pointer (some ⟨X, 0, none⟩))) rfl (by kernel_rfl) (by kernel_rfl) (by kernel_rfl) (fun _ _ _ h => h) (Or.inl ⟨by rfl, fun w' hw' => ?_⟩) (by assumption) ?_
 · clear hHeld
   go_simp
 simp only [Act.put, List.setIfInBounds_toArray, List.set_cons_zero, List.set_cons_succ]
 refine wpAnyH_take (i := 2) (oi := ⟨some 76, _, _, _, _, _⟩) (v := (.pointer (some ⟨X, 1, none⟩))) rfl (by kernel_rfl) (by kernel_rfl) (by kernel_rfl) (fun _ _ _ h => h) (Or.inl ⟨by rfl, fun w' hw' => ?_⟩) (by assumption) ?_
 · clear hHeld
   go_simp
 simp only [Act.put, List.setIfInBounds_toArray, List.set_cons_zero, List.set_cons_succ]
 refine wpAnyH_take (i := 3) (oi := ⟨some 77, _, _, _, _, _⟩) (v := (.int .i64 m5)) rfl (by kernel_rfl) (by kernel_rfl) (by kernel_rfl) (fun _ _ _ h => h) (Or.inl ⟨by rfl, fun w' hw' => ?_⟩) (by assumption) ?_
 · have g0 := block_cell (j := 0) (v := .pointer (some ⟨B, 0, none⟩)) hw'.out rfl
   have g1 := block_cell (j := 1) (v := .int .i64 m5) hw'.out rfl
   clear hHeld
   go_simp
 simp only [Act.put, List.setIfInBounds_toArray, List.set_cons_zero, List.set_cons_succ]
 refine wpAnyH_take (i := 4) (oi := ⟨some 78, _, _, _, _, _⟩) (v := (.pointer (some ⟨X, 0, none⟩))) rfl (by kernel_rfl) (by kernel_rfl) (by kernel_rfl) (fun _ _ _ h => h) (Or.inl ⟨by rfl, fun w' hw' => ?_⟩) (by assumption) ?_
 · clear hHeld
   go_simp
 simp only [Act.put, List.setIfInBounds_toArray, List.set_cons_zero, List.set_cons_succ]
 refine wpAnyH_take (i := 5) (oi := ⟨some 79, _, _, _, _, _⟩) (v := (.pointer (some ⟨X, 0, none⟩))) rfl (by kernel_rfl) (by kernel_rfl) (by kernel_rfl) (fun _ _ _ h => h) (Or.inl ⟨by rfl, fun w' hw' => ?_⟩) (by assumption) ?_
 · clear hHeld
   go_simp
 simp only [Act.put, List.setIfInBounds_toArray, List.set_cons_zero, List.set_cons_succ]
 refine wpAnyH_take (i := 6) (oi := ⟨some 80, _, _, _, _, _⟩) (v := (.pointer (some ⟨X, 0, none⟩))) rfl (by kernel_rfl) (by kernel_rfl) (by kernel_rfl) (fun _ _ _ h => h) (Or.inl ⟨by rfl, fun w' hw' => ?_⟩) (by assumption) ?_
 · clear hHeld
   go_simp
 simp only [Act.put, List.setIfInBounds_toArray, List.set_cons_zero, List.set_cons_succ]
 refine wpAnyH_take (i := 7) (oi := ⟨some 81, _, _, _, _, _⟩) (v := (.pointer (some ⟨B, 0, none⟩))) rfl (by kernel_rfl) (by kernel_rfl) (by kernel_rfl) (fun _ _ _ h => h) (Or.inl ⟨by rfl, fun w' hw' => ?_⟩) (by assumption) ?_
 · have g0 := block_cell (j := 0) (v := .pointer (some ⟨B, 0, none⟩)) hw'.out rfl
   have g1 := block_cell (j := 1) (v := .int .i64 m5) hw'.out rfl
   clear hHeld
   go_simp
 simp only [Act.put, List.setIfInBounds_toArray, List.set_cons_zero, List.set_cons_succ]
 generalize z9.drew = Wd at *
 refine wpAnyH_ready (rs := [8]) (by kernel_rfl) (by simp) (AllReadyH.cons rfl (fun K hK => ?_) AllReadyH.nil)
 go_simp
 go_wp2_with fail
 refine (z_end HDd.out.z).mono ?_
 rintro e x5 ⟨rfl, rfl⟩
 go_wp2_with fail
 refine hK.out _ _ HBX (fun hHeld2 => ?_)
 clear hK K hHeld
 have hHeld := hHeld2
 clear hHeld2
 try simp only [Act.put, List.setIfInBounds_toArray, List.set_cons_zero, List.set_cons_succ]
 obtain ⟨w6, hw6, hbx6, hb6⟩ : ∃ w6, (Wd.alloc (.cells #[.int .i64 m5, .int .i64 (endR R9.1)] 56)) = w6 ∧ w6.heap[Wd.heap.size]? = some (.cells #[.int .i64 m5, .int .i64 (endR R9.1)] 56 (0, 0)) ∧ Below Wd.heap.size Wd w6 := ⟨_, rfl, alloc_block Wd _, (Below.refl _ _).alloc (Nat.le_refl _) _⟩
 have HD6 := Lib.hid (HDd.out.keep hb6)
 have HP6 := Lib.hid (HPd.out.later hb6)
 have HB6 : Hid (w6.heap[X]? = some (.cells #[.pointer (some ⟨B, 0, none⟩), .int .i64 m5] 245 (0, 0))) := Lib.hid HD6.out.z.box
 have HX6 := Lib.hid hbx6
 have HW6 := Lib.hid hw6
 clear hw6 hbx6 hb6
 refine wpAnyH_ready (rs := [9]) (by kernel_rfl) (by simp) (AllReadyH.cons rfl (fun K hK => ?_) AllReadyH.nil)
 go_simp
 rw [HW6.out]
 refine hK.out _ _ HB6 (fun hHeld2 => ?_)
 clear hK K hHeld
 have hHeld := hHeld2
 clear hHeld2
 try simp only [Act.put, List.setIfInBounds_toArray, List.set_cons_zero, List.set_cons_succ]
 refine wpAnyH_ready (rs := [10]) (by kernel_rfl) (by simp) (AllReadyH.cons rfl (fun K hK => ?_) AllReadyH.nil)
 go_simp
 go_wp2_with fail
 have hor := or_errno Wd.heap.size m5 (endR R9.1) w6 (block_cell HX6.out rfl) (block_cell HX6.out rfl)
 rw [HER.out] at hor
 refine hor.mono ?_
 rintro e x7 ⟨rfl, hb7⟩
 have HD7 := Lib.hid (HD6.out.keep hb7)
 have HP7 := Lib.hid (HP6.out.later hb7)
 have HB7 : Hid (x7.heap[X]? = some (.cells #[.pointer (some ⟨B, 0, none⟩), .int .i64 m5] 245 (0, 0))) := Lib.hid HD7.out.z.box
 clear hb7 hor
 go_wp2_with fail
 refine hK.out _ _ HB7 (fun hHeld2 => ?_)
 clear hK K hHeld
 have hHeld := hHeld2
 clear hHeld2
 try simp only [Act.put, List.setIfInBounds_toArray, List.set_cons_zero, List.set_cons_succ]
 refine wpAnyH_take (i := 11) (oi := ⟨some 6, _, _, _, _, _⟩) (v := (.int .i64 er)) rfl (by kernel_rfl) (by kernel_rfl) (by kernel_rfl) (fun _ _ _ h => h) (Or.inl ⟨by rfl, fun w' hw' => ?_⟩) (by assumption) ?_
 · clear hHeld
   go_simp
 simp only [Act.put, List.setIfInBounds_toArray, List.set_cons_zero, List.set_cons_succ]
 refine wpAnyH_done (by kernel_rfl) ?_ _
 clear hHeld
 by_cases h0 : er = 0
 case neg =>
  have d0 : (er != 0) = true := by simpa using h0
  have HRF := Lib.hid (setRow_heap x7 R _ zc _ _ HD7.out.r)
  have HG : Hid (GivesD2 W (decP Bs) (.returned (.tuple #[.agg zc, .int .i64 er])) (x7.setRow R zc)) := Lib.hid (by
   have hp : decP Bs = (er, noP) := by
    unfold decP
    rw [HE.out, if_pos h0]
   rw [hp]
   exact ⟨none, 0, none, 0, none, 0, rfl, ⟨SlG.empty _, SlG.empty _, SlG.empty _⟩, below_setRow HD7.out.below HD7.out.base.2.2 zc, (fun a h => by cases h), (fun a h => by cases h), (fun a h => by cases h)⟩)
  go_wp2_with ((with_reducible refine wpList_store_pg 0 0 0 none 0 0 none 0 0 none 0 0 0 0 0 0 HD7.out.r ?_ ?_ ?_); rfl; rfl)
  (try simp only [Exit.inBlock, Exit.then])
  refine bodyPost_ret (v := .tuple #[.agg zc, .int .i64 er]) ?_ rfl HG.out
  exact results_pg rfl _ _ R zc _ rfl rfl HRF.out rfl
 have d0 : (er != 0) = false := by simp [h0]
 have HE0 : Hid (decE Bs = 0) := Lib.hid (by rw [HE.out, h0])
 clear h0
 have hgd := good_p 4 4 ((R0.2 : Nat) : Int) ((R1.2 : Nat) : Int) ((R2.2 : Nat) : Int) pl nl cl pt nt ct po no co ((R6.2 : Nat) : Int) ((R7.2 : Nat) : Int) ((R8.2 : Nat) : Int) (sgn R9.2) R3.1.2 R4.1.2 R5.1.2 x7 (HWD.out.later HD7.out.below) HP7.out HPO.out ⟨by have := HMSl.out; omega, by have := HMSt.out; omega, by have := HMSo.out; omega⟩
 obtain ⟨a0, a1, a2, a3, a4, a5, a6, a7, a8, a9⟩ := prog_cells _ _ _ _ _ _ _ _ _ _ _ _ _ _ _ _ HD7.out.y
 go_wp2_with fail
 refine hgd.mono ?_
 rintro e x8 ⟨rfl, hb8⟩
 have HD8 := Lib.hid (HD7.out.keep hb8)
 have HP8 := Lib.hid (HP7.out.later hb8)
 clear hb8 hgd a0 a1 a2 a3 a4 a5 a6 a7 a8 a9
 cases hg : goodP 4 4 (⟨((R0.2 : Nat) : Int), ((R1.2 : Nat) : Int), ((R2.2 : Nat) : Int), R3.1.2, R4.1.2, R5.1.2, ((R6.2 : Nat) : Int), ((R7.2 : Nat) : Int), ((R8.2 : Nat) : Int), sgn R9.2⟩ : Pg)
 case false =>
  have HRF := Lib.hid (setRow_heap x8 R _ zc _ _ HD8.out.r)
  have HG : Hid (GivesD2 W (decP Bs) (.returned (.tuple #[.agg zc, .int .i64 8])) (x8.setRow R zc)) := Lib.hid (by
   have hp : decP Bs = (8, noP) := by
    unfold decP
    rw [HE0.out, if_neg (fun h => h rfl), HDEC.out, if_neg (by rw [hg]; decide)]
   rw [hp]
   exact ⟨none, 0, none, 0, none, 0, rfl, ⟨SlG.empty _, SlG.empty _, SlG.empty _⟩, below_setRow HD8.out.below HD8.out.base.2.2 zc, (fun a h => by cases h), (fun a h => by cases h), (fun a h => by cases h)⟩)
  go_wp2_with ((with_reducible refine wpList_store_pg 0 0 0 none 0 0 none 0 0 none 0 0 0 0 0 0 HD8.out.r ?_ ?_ ?_); rfl; rfl)
  (try simp only [Exit.inBlock, Exit.then])
  refine bodyPost_ret (v := .tuple #[.agg zc, .int .i64 8]) ?_ rfl HG.out
  exact results_pg rfl _ _ R zc _ rfl rfl HRF.out rfl
 obtain ⟨a0, a1, a2, a3, a4, a5, a6, a7, a8, a9⟩ := prog_cells _ _ _ _ _ _ _ _ _ _ _ _ _ _ _ _ HD8.out.y
 obtain ⟨C, hC⟩ : ∃ C : Array Value, #[.int .u8 ((R0.2 : Nat) : Int), .int .u32 ((R1.2 : Nat) : Int), .int .u8 ((R2.2 : Nat) : Int), .slice pl nl cl, .slice pt nt ct, .slice po no co, .int .u8 ((R6.2 : Nat) : Int), .int .u8 ((R7.2 : Nat) : Int), .int .u8 ((R8.2 : Nat) : Int), .int .i64 (sgn R9.2)] = C := ⟨_, rfl⟩
 have HRF := Lib.hid (setRow_heap x8 R _ C _ _ HD8.out.r)
 have HCS : Hid (C.size = 10) := Lib.hid (by rw [← hC]; rfl)
 have HG : Hid (GivesD2 W (decP Bs) (.returned (.tuple #[.agg C, .int .i64 0])) (x8.setRow R C)) := Lib.hid (by
  have hp : decP Bs = (0, ⟨((R0.2 : Nat) : Int), ((R1.2 : Nat) : Int), ((R2.2 : Nat) : Int), R3.1.2, R4.1.2, R5.1.2, ((R6.2 : Nat) : Int), ((R7.2 : Nat) : Int), ((R8.2 : Nat) : Int), sgn R9.2⟩) := by
   unfold decP
   rw [HE0.out, if_neg (fun h => h rfl), HDEC.out, if_pos hg]
  rw [hp]
  have hfar : ∀ q : Option Addr, Far (X + 1) q → ∀ a, q = some a → a.block ≠ R := fun q h a ha => by have := h a ha; have := HD8.out.rn.2.2; omega
  refine ⟨pl, cl, pt, ct, po, co, by rw [HNl.out, HNt.out, HNo.out, ← hC], ?_, below_setRow HD8.out.below HD8.out.base.2.2 C, (fun a h => by have := HFl.out a h; have := HD8.out.base.2.1; omega), (fun a h => by have := HFt.out a h; have := HD8.out.base.2.1; omega), (fun a h => by have := HFo.out a h; have := HD8.out.base.2.1; omega)⟩
  rw [HNl.out, HNt.out, HNo.out]
  exact ⟨HP8.out.l.turn (by simp [World.setRow]) fun _ a ha _ => setRow_other _ _ _ _ (hfar _ HFl.out a ha), HP8.out.t.turn (by simp [World.setRow]) fun _ a ha _ => setRow_other _ _ _ _ (hfar _ HFt.out a ha), HP8.out.o.turn (by simp [World.setRow]) fun _ a ha _ => setRow_other _ _ _ _ (hfar _ HFo.out a ha)⟩)
 subst hC
 clear hg
 go_wp2_with ((with_reducible refine wpList_store_pg ((R0.2 : Nat) : Int) ((R1.2 : Nat) : Int) ((R2.2 : Nat) : Int) pl nl cl pt nt ct po no co ((R6.2 : Nat) : Int) ((R7.2 : Nat) : Int) ((R8.2 : Nat) : Int) (sgn R9.2) HD8.out.r ?_ ?_ ?_); rfl; rfl)
 (try simp only [Exit.inBlock, Exit.then])
 refine bodyPost_ret (v := .tuple #[.agg #[.int .u8 ((R0.2 : Nat) : Int), .int .u32 ((R1.2 : Nat) : Int), .int .u8 ((R2.2 : Nat) : Int), .slice pl nl cl, .slice pt nt ct, .slice po no co, .int .u8 ((R6.2 : Nat) : Int), .int .u8 ((R7.2 : Nat) : Int), .int .u8 ((R8.2 : Nat) : Int), .int .i64 (sgn R9.2)], .int .i64 0]) ?_ rfl HG.out
 exact results_pg rfl _ _ R _ _ rfl rfl HRF.out rfl
structure Zw (w : World) (N B : Nat) (S : St) : Prop where
 rd : ∃ p c, Rd w B p c S ∧ ∀ a, p = some a → a.block < N
 low : B < N
 size : N ≤ w.heap.size
 small : S.2.length ≤ 1000
 bytes : ∀ y ∈ S.2, y < 256
theorem Zw.later {w w' : World} {N B : Nat} {S : St} (h : Zw w N B S) (hc : Chg (fun k => N ≤ k) w w') : Zw w' N B S := by
 obtain ⟨p, c, hr, hp⟩ := h.rd
 have hs := h.size
 exact ⟨⟨p, c, hr.chg hc (by have := h.low; omega) (fun a ha => by have := hp a ha; omega), hp⟩, h.low, Nat.le_trans hs hc.size, h.small, h.bytes⟩
theorem Zw.below {w w' : World} {N B : Nat} {S : St} (h : Zw w N B S) (hb : Below w.heap.size w w') : Zw w' N B S := h.later (Chg.of_below hb)
theorem Zw.went {w w' : World} {N B : Nat} {S T : St} {p : Option Addr} {c : Nat} (h : Zw w N B S) (hp : ∀ a, p = some a → a.block < N) (hw : Went w B p T w') (hl : T.2.length ≤ S.2.length) (hb : ∀ y ∈ T.2, y < 256) : Zw w' N B T ∧ Chg (fun k => k = B) w w' := by
 obtain ⟨p', c', h1, h2⟩ := hw.rd
 refine ⟨⟨⟨p', c', h1, fun a ha => ?_⟩, h.low, Nat.le_trans h.size hw.chg.size, Nat.le_trans hl h.small, hb⟩, hw.chg⟩
 obtain ⟨a', e1, e2⟩ := h2 a ha
 rw [e2]
 exact hp a' e1
theorem zw_num {w : World} {N B : Nat} {S : St} (h : Zw w N B S) (size : Int) : Calls Tryz.prog 134 #[.pointer (some ⟨B, 0, none⟩), .int .i64 size] w fun e w' => e = .returned (.int .u64 (((numR S size).2 : Nat) : Int)) ∧ Zw w' N B (numR S size).1 ∧ Chg (fun k => k = B) w w' := by
 obtain ⟨p, c, hr, hp⟩ := h.rd
 refine (num_any B c p S size w hr (by have := h.small; omega)).mono ?_
 rintro e w' ⟨rfl, hw⟩
 obtain ⟨h1, h2⟩ := h.went (c := c) hp hw (numR_less S size) (numR_bytes h.bytes size)
 exact ⟨rfl, h1, h2⟩
theorem zw_int {w : World} {N B : Nat} {S : St} (h : Zw w N B S) : Calls Tryz.prog 138 #[.pointer (some ⟨B, 0, none⟩)] w fun e w' => e = .returned (.int .i64 (sgn (numR S 8).2)) ∧ Zw w' N B (numR S 8).1 ∧ Chg (fun k => k = B) w w' := by
 obtain ⟨p, c, hr, hp⟩ := h.rd
 refine (int_any B c p S w hr (by have := h.small; omega)).mono ?_
 rintro e w' ⟨rfl, hw⟩
 obtain ⟨h1, h2⟩ := h.went (c := c) hp hw (numR_less S 8) (numR_bytes h.bytes 8)
 exact ⟨rfl, h1, h2⟩
theorem bad_2 (e : Int) (S : St) : (bad e S).2 = S.2 := by unfold bad; split <;> rfl
theorem boolR_2 (S : St) : (boolR S).1.2 = (numR S 1).1.2 := by unfold boolR; split; exact bad_2 _ _; rfl
theorem zw_bool {w : World} {N B : Nat} {S : St} (h : Zw w N B S) : Calls Tryz.prog 137 #[.pointer (some ⟨B, 0, none⟩)] w fun e w' => e = .returned (.bool (boolR S).2) ∧ Zw w' N B (boolR S).1 ∧ Chg (fun k => k = B) w w' := by
 obtain ⟨p, c, hr, hp⟩ := h.rd
 refine (bool_any B c p S w hr (by have := h.small; omega)).mono ?_
 rintro e w' ⟨rfl, hw⟩
 obtain ⟨h1, h2⟩ := h.went (c := c) hp hw (by rw [boolR_2]; exact numR_less S 1) (by rw [boolR_2]; exact numR_bytes h.bytes 1)
 exact ⟨rfl, h1, h2⟩
theorem takeR_less (S : St) (n : Nat) : (takeR S n).1.2.length ≤ S.2.length := by
 unfold takeR
 split
 · split
   · exact Nat.le_refl _
   · show (S.2.drop n).length ≤ _
     rw [List.length_drop]; omega
 · exact Nat.le_refl _
theorem takeR_bytes {S : St} (h : ∀ y ∈ S.2, y < 256) (n : Nat) : ∀ y ∈ (takeR S n).1.2, y < 256 := by
 unfold takeR
 split
 · split
   · exact h
   · intro y hy
     exact h y (List.mem_of_mem_drop hy)
 · exact h
theorem bytesR_less (S : St) (most : Int) : (bytesR S most).1.2.length ≤ S.2.length := by
 unfold bytesR
 refine Nat.le_trans (takeR_less _ _) ?_
 split
 · rw [bad_2]; exact numR_less S 2
 · exact numR_less S 2
theorem bytesR_bytes {S : St} (h : ∀ y ∈ S.2, y < 256) (most : Int) : ∀ y ∈ (bytesR S most).1.2, y < 256 := by
 unfold bytesR
 refine takeR_bytes ?_ _
 split
 · rw [bad_2]; exact numR_bytes h 2
 · exact numR_bytes h 2
theorem bytesR_most (S : St) : (bytesR S 512).2.length ≤ 512 := by
 unfold bytesR
 by_cases h : (512 : Int) < ((numR S 2).2 : Int)
 · rw [if_pos h]
   unfold takeR
   rw [if_neg]
   · exact Nat.zero_le _
   · unfold bad
     split
     · show ¬ (7 : Int) = 0
       decide
     · assumption
 · rw [if_neg h]
   have := takeR_len (numR S 2).1 (numR S 2).2
   omega
theorem bytesR_lt {S : St} (h : ∀ y ∈ S.2, y < 256) (most : Int) : ∀ y ∈ (bytesR S most).2, y < 256 := by
 unfold bytesR
 refine takeR_lt _ _ ?_
 split
 · rw [bad_2]; exact numR_bytes h 2
 · exact numR_bytes h 2
theorem zw_bytes {w : World} {N B : Nat} {S : St} (h : Zw w N B S) (most : Int) : Calls Tryz.prog 139 #[.pointer (some ⟨B, 0, none⟩), .int .i64 most] w fun e w' => ∃ p c, e = .returned (.slice p (bytesR S most).2.length c) ∧ Sl w' p (bytesR S most).2.length c (bytesR S most).2 ∧ Zw w' N B (bytesR S most).1 ∧ Chg (fun k => k = B) w w' := by
 obtain ⟨p, c, hr, hp⟩ := h.rd
 refine (bytes_any B c p S most w hr (by have := h.small; omega)).mono ?_
 rintro e w' ⟨v, rfl, hrow, _, hw⟩
 obtain ⟨h1, h2⟩ := h.went (c := c) hp hw (bytesR_less S most) (bytesR_bytes h.bytes most)
 obtain ⟨p', c', rfl, _, hs, _⟩ := hrow.sl
 exact ⟨p', c', rfl, hs, h1, h2⟩
theorem zw_end {w : World} {N B : Nat} {S : St} (h : Zw w N B S) : Calls Tryz.prog 141 #[.pointer (some ⟨B, 0, none⟩)] w fun e w' => e = .returned (.int .i64 (endR S)) ∧ w = w' := by
 obtain ⟨p, c, hr, hp⟩ := h.rd
 exact end_any B c p S w hr (by have := h.small; omega)
theorem zw_err {w : World} {N B : Nat} {S : St} (h : Zw w N B S) : Calls Tryz.prog 136 #[.pointer (some ⟨B, 0, none⟩)] w fun e w' => e = .returned (.int .i64 S.1) ∧ w = w' := by
 obtain ⟨p, c, hr, hp⟩ := h.rd
 exact err_any B S.1 w hr.c0
theorem held_load_rc {a : Act} {w : World} {dst : Option Tmp} {x : Operand} {ty : TypeId} {pos : String} {after : Array Edge} {gd : Option (Nat × Bool)} {B : Nat} {r : Rv} (hx : a.eval x = .pointer (some ⟨B, 0, none⟩)) (hC : RB w B r) :
 (execOp a.eval (Oper.mk dst (.load 51 x) ty pos after gd)).run Tryz.prog w = .ok (.value (.agg (rcs r))) w := by
 unfold execOp
 simp only [hx, Instr.loadAt, Instr.sureAddr, Sem.run_bind, Sem.run_pure, Result.andThen_ok, run_loadVar_row w B 51 51 (rcs r) (0, 0) _ hC Tryz.underlying51 rfl (by kernel_rfl)]
def readE (B : List Nat) : Int := if kOk (((numR (0, B) 1).2 : Nat) : Int) = true then rdE (rdX (((numR (0, B) 1).2 : Nat) : Int) (numR (0, B) 1).1) else if (numR (0, B) 1).1.1 ≠ 0 then (numR (0, B) 1).1.1 else 8
structure Qz (W w : World) (N B R X : Nat) (S : St) (r : Rv) : Prop where
 z : Zw w N B S
 x : RB w X r
 res : RB w R rz
 chg : Chg (fun k => k = B) W w
 ord : N ≤ R ∧ R < X ∧ W.heap.size ≤ R
theorem Qz.low {W w w' : World} {N B R X : Nat} {S S' : St} {r : Rv} (h : Qz W w N B R X S r) (hz : Zw w' N B S') (hc : Chg (fun k => k = B) w w') : Qz W w' N B R X S' r := by
 have ho := h.ord
 have hl := h.z.low
 exact ⟨hz, h.x.chg hc (by omega), h.res.chg hc (by omega), h.chg.trans hc fun _ _ e => e, ho⟩
theorem Qz.later {W w w' : World} {N B R X : Nat} {S : St} {r : Rv} (h : Qz W w N B R X S r) (hb : Below w.heap.size w w') : Qz W w' N B R X S r :=
 ⟨h.z.below hb, h.x.later hb, h.res.later hb, h.chg.trans (Chg.of_below (S := fun k => k = B) hb) fun _ _ e => e, h.ord⟩
theorem Qz.put {W w : World} {N B R X : Nat} {S : St} {r : Rv} (h : Qz W w N B R X S r) (j : Nat) (v : Value) (r' : Rv) (he : (rcs r).setIfInBounds j v = rcs r') : Qz W (w.setCell ⟨X, j, none⟩ v) N B R X S r' := by
 have ho := h.ord
 have hc : Chg (fun k => k = X) w (w.setCell ⟨X, j, none⟩ v) := (Chg.refl _ _).setCell ⟨X, j, none⟩ _ fun _ => rfl
 exact ⟨h.z.later (hc.mono fun k _ hk => by omega), h.x.put j v r' he, h.res.chg hc (by omega), h.chg.trans hc fun k hk e => by omega, ho⟩
theorem Qz.set {W w : World} {N B R X : Nat} {S : St} {r : Rv} (h : Qz W w N B R X S r) (r' : Rv) : Qz W (w.setRow X (rcs r')) N B R X S r' := by
 have ho := h.ord
 have hc : Chg (fun k => k = X) w (w.setRow X (rcs r')) := ⟨rfl, rfl, rfl, by simp [World.setRow], fun k _ hn => setRow_other _ _ _ _ hn⟩
 exact ⟨h.z.later (hc.mono fun k _ hk => by omega), h.x.set r', h.res.chg hc (by omega), h.chg.trans hc fun k hk e => by omega, ho⟩
theorem Qz.cx {W w : World} {N B R X : Nat} {S : St} {r : Rv} (h : Qz W w N B R X S r) {j : Nat} {v : Value} (hj : (rcs r)[j]? = some v) : w.cell? ⟨X, j, none⟩ = some v ∧ w.frozen? ⟨X, j, none⟩ = false := ⟨block_cell h.x hj, block_free j h.x⟩
structure Qp (W w : World) (N B R X Pb : Nat) (C : Array Value) (S : St) (r : Rv) : Prop where
 q : Qz W w N B R X S r
 p : w.heap[Pb]? = some (.cells C 194 (0, 0))
 lt : X < Pb
theorem Qp.low {W w w' : World} {N B R X Pb : Nat} {C : Array Value} {S S' : St} {r : Rv} (h : Qp W w N B R X Pb C S r) (hz : Zw w' N B S') (hc : Chg (fun k => k = B) w w') : Qp W w' N B R X Pb C S' r := by
 have ho := h.q.ord
 have hl := h.q.z.low
 have ht := h.lt
 exact ⟨h.q.low hz hc, (hc.block Pb (block_lt h.p) (by omega)).trans h.p, h.lt⟩
theorem Qp.later {W w w' : World} {N B R X Pb : Nat} {C : Array Value} {S : St} {r : Rv} (h : Qp W w N B R X Pb C S r) (hb : Below w.heap.size w w') : Qp W w' N B R X Pb C S r := ⟨h.q.later hb, block_later h.p hb, h.lt⟩
theorem Qp.put {W w : World} {N B R X Pb : Nat} {C : Array Value} {S : St} {r : Rv} (h : Qp W w N B R X Pb C S r) (j : Nat) (v : Value) (r' : Rv) (he : (rcs r).setIfInBounds j v = rcs r') : Qp W (w.setCell ⟨X, j, none⟩ v) N B R X Pb C S r' :=
 ⟨h.q.put j v r' he, (Below.heap_setCell _ _ _ _ (by have := h.lt; show Pb ≠ X; omega)).trans h.p, h.lt⟩
theorem Qp.set {W w : World} {N B R X Pb : Nat} {C : Array Value} {S : St} {r : Rv} (h : Qp W w N B R X Pb C S r) (r' : Rv) : Qp W (w.setRow X (rcs r')) N B R X Pb C S r' :=
 ⟨h.q.set r', (setRow_other _ _ _ _ (by have := h.lt; omega)).trans h.p, h.lt⟩
theorem Qp.c {W w : World} {N B R X Pb : Nat} {C : Array Value} {S : St} {r : Rv} (h : Qp W w N B R X Pb C S r) {j : Nat} {v : Value} (hj : C[j]? = some v) : w.cell? ⟨Pb, j, none⟩ = some v := block_cell h.p hj
theorem rd_of {Bs : List Nat} {R0 : St × Nat} {kk : Int} {D : Rdd} (h0 : numR (0, Bs) 1 = R0) (hk : ((R0.2 : Nat) : Int) = kk) (ho : kOk kk = true) (hd : rdX kk R0.1 = D) : readE Bs = rdE D ∧ rdX (((numR (0, Bs) 1).2 : Nat) : Int) (numR (0, Bs) 1).1 = D := by
 subst h0 hk
 refine ⟨?_, hd⟩
 unfold readE
 rw [if_pos ho, hd]
theorem rd_bad {Bs : List Nat} {R0 : St × Nat} {kk : Int} (h0 : numR (0, Bs) 1 = R0) (hk : ((R0.2 : Nat) : Int) = kk) (ho : kOk kk = false) : readE Bs = if R0.1.1 ≠ 0 then R0.1.1 else 8 := by
 subst h0 hk
 unfold readE
 rw [if_neg (by rw [ho]; decide)]
abbrev zr : Array Value := #[.int .u8 0, .int .u32 0, .int .u32 0, .int .u8 0, .bool false, .int .u8 0, .int .u8 0, .int .u8 0, .int .i64 0, .int .u8 0, .int .u8 0, .int .u32 0, .int .u8 0, .slice none 0 0, .slice none 0 0, .slice none 0 0, .int .u8 0, .int .u8 0, .int .u8 0, .int .i64 0]
def GivesRd (W : World) (B : Nat) (Bs : List Nat) (e : Ending) (w' : World) : Prop := ∃ r L T M, e = .returned (.tuple #[.agg (rcs r), .int .i64 (readE Bs)]) ∧ RvM w' r L T M ∧ (readE Bs = 0 → r.x L T M = (rdX (((numR (0, Bs) 1).2 : Nat) : Int) (numR (0, Bs) 1).1).rx) ∧ Chg (fun k => k = B) W w' ∧ (∀ a, r.lp = some a → W.heap.size ≤ a.block) ∧ (∀ a, r.tp = some a → W.heap.size ≤ a.block) ∧ (∀ a, r.wp = some a → W.heap.size ≤ a.block)
theorem no_lists {r : Rv} (h : r.lp = none ∧ r.ln = 0 ∧ r.lcp = 0 ∧ r.tp = none ∧ r.tn = 0 ∧ r.tcp = 0 ∧ r.wp = none ∧ r.wn = 0 ∧ r.wcp = 0) (w : World) : RvM w r [] [] [] := by
 obtain ⟨e1, e2, e3, e4, e5, e6, e7, e8, e9⟩ := h
 unfold RvM
 rw [e1, e2, e3, e4, e5, e6, e7, e8, e9]
 exact ⟨SlG.empty _, SlG.empty _, SlG.empty _⟩
end Go.Proofs.YtfdgnniicjdjdaaGreatDoor
