import Derived.Test.YtccgjdmbongbaaaGreatDoorPA39
import Derived.Great.BuildSlice
namespace Go.Proofs.YtccgjdmbongbaaaGreatDoor
open Go.RowKit Go.ChangeShapes Go.WideShapes
set_option linter.unusedVariables false
set_option linter.unusedSimpArgs false
set_option maxRecDepth 10000
theorem infoRec19 : (Tryz.prog.info? 40).map (fun i => (i.zero, i.size)) = some (some (.agg (rcs rz)), 20) := by kernel_rfl
theorem run_slice_rc (r : Rv) (w : World) : (Instr.buildSlice 23 1 #[(0, .agg (rcs r))]).run Tryz.prog w = .ok (.slice (some ⟨w.heap.size, 0, none⟩) 1 1) (w.alloc (.cells (rcs r) 40)) := by
 have hin := infoRec19
 cases hi : Tryz.prog.info? 40 with
 | none => rw [hi] at hin; cases hin
 | some i =>
  rw [hi] at hin
  simp only [Option.map_some, Option.some.injEq, Prod.mk.injEq] at hin
  refine run_buildSlice w 23 40 1 _ (rcs r) i (.agg (rcs rz)) Tryz.underlying23 hi hin.1 (by rw [hin.2]; decide) (by rw [hin.2]; decide) ?_
  rw [hin.2]
  kernel_rfl
theorem wpList_slice_rc {ops : Array Oper} {rest : List Oper} {a : Act} {w : World} {Q : Exit → Act → World → Prop} {dst : Option Tmp} {parts : Array (Nat × Operand)} {x : Operand} {ty : TypeId} {pos : String} {after : Array Edge} {r : Rv} (hp : parts = #[(0, x)]) (hx : a.eval x = .agg (rcs r))
 (h : wpList Tryz.prog ops Q rest (a.put dst (.slice (some ⟨w.heap.size, 0, none⟩) 1 1)) (w.alloc (.cells (rcs r) 40))) : wpList Tryz.prog ops Q (Oper.mk dst (.buildSlice 23 1 parts) ty pos after none :: rest) a w := by
 refine wpList_plain rfl fun K hK => ?_
 subst hp
 have hb := run_slice_rc r w
 unfold Oper.wp execOp
 simp [hx, hb, Result.andThen, Sem.run_bind]
 exact hK _ _ h
theorem rcl_one {w : World} {B : Nat} {r : Rv} (hb : RB w B r) (hr : RvIn w r) : RcL w (some ⟨B, 0, none⟩) 1 1 [r] := by
 refine ⟨⟨rfl, Nat.le_refl _, by unfold maxLen; omega, (fun h => by cases h), fun _ => ⟨B, 0, rfl, hb.lt, fun j hj i v hv => ?_⟩⟩, fun y hy => by rw [List.mem_singleton.1 hy]; exact hr⟩
 obtain rfl : j = 0 := by omega
 have hv' : (rcs r).toList[i]? = some v := hv
 have e : (0 + 0 * 20 + i) = i := by omega
 rw [e]
 exact block_cell hb (by simpa using hv')
structure JnNilI (Wd : World → Prop) (Ju : World → Nat → List Tc → (Nat → Prop) → Prop) : Prop where
 get : ∀ (w : World) (i : Int), 0 ≤ i ∧ i ≤ 4294967295 → Calls Tryz.prog 16 #[.pointer none, .int .u32 i] w fun e w' => ∃ p m, e = .returned (.tuple #[.agg #[.int .u32 0, .int .u32 0, .int .u8 0, .bool false, .bool false, .slice p 0 m, .int .i64 0, .int .i64 0], .bool false]) ∧ Below w.heap.size w w'
 of_ : ∀ (w : World) (i : Int), Calls Tryz.prog 17 #[.pointer none, .int .u32 i] w fun e w' => ∃ p m, e = .returned (.tuple #[.agg #[.int .u32 0, .int .u32 0, .int .u8 0, .bool false, .bool false, .slice p 0 m, .int .i64 0, .int .i64 0], .bool false]) ∧ Below w.heap.size w w'
 first : ∀ (w : World), Calls Tryz.prog 18 #[.pointer none] w fun e w' => e = .returned (.tuple #[.int .i64 0, .bool false]) ∧ Below w.heap.size w w'
 apply : ∀ (w : World) (at_ : Int) (r : Rv) (La : List Ln) (Ta : List Tk) (Ma : List Ln), Wd w → RvM w r La Ta Ma → Rxok (r.x La Ta Ma) → SmV r → Calls Tryz.prog 12 #[.pointer none, .int .i64 at_, .agg (rcs r)] w fun e w' => e = .returned (.int .i64 1) ∧ Below w.heap.size w w'
 all : ∀ (w : World), Calls Tryz.prog 14 #[.pointer none] w fun e w' => ∃ r c, e = .returned (.slice r 0 c) ∧ Below w.heap.size w w'
 copy : ∀ (w : World), Calls Tryz.prog 15 #[.pointer none] w fun e w' => ∃ B Q, e = .returned (.pointer (some ⟨B, 0, none⟩)) ∧ Ju w' B [] Q ∧ Below w.heap.size w w'
variable {NB : Nat} {Wd : World → Prop} {Ju : World → Nat → List Tc → (Nat → Prop) → Prop}
set_option maxHeartbeats 8000000 in
theorem law_jnil (I : JnI NB Wd Ju) (K : JnNilI Wd Ju) (r : Rv) (La : List Ln) (Ta : List Tk) (Ma : List Ln) (id : Int) (hid : 0 ≤ id ∧ id ≤ 4294967295) (W : World) (hW : Wd W) (hr : RvM W r La Ta Ma) (hx : Rxok (r.x La Ta Ma)) :
 Calls Tryz.prog 5 #[.agg (rcs r), .int .u32 id] W fun e w' => e = .returned (.bool true) ∧ Below W.heap.size W w' := by
 have HI := Lib.hid I
 have HK := Lib.hid K
 have HIDB := Lib.hid hid
 clear hid
 have HR := Lib.hid fun w' (hb : Below W.heap.size W w') => hr.later hb
 have HX := Lib.hid hx
 have HW := Lib.hid fun w' (hb : Below W.heap.size W w') => I.wd hW hb
 have HWK := Lib.hid fun w' (hb : Below W.heap.size W w') => jworks_any I w' (I.wd hW hb)
 obtain ⟨W1, hW1, hb1⟩ : ∃ W1, W.alloc (.cells (rcs r) 40) = W1 ∧ Below W.heap.size W W1 := ⟨_, rfl, (Below.refl _ _).alloc (Nat.le_refl _) _⟩
 obtain ⟨Y, hY⟩ : ∃ Y, W.heap.size = Y := ⟨_, rfl⟩
 have hrb := RB.new W r
 rw [hW1, hY] at hrb
 have HY1 := Lib.hid hrb
 have HW1 := Lib.hid hW1
 have HB1 := Lib.hid hb1
 have HYE := Lib.hid hY
 have hbn : Below W1.heap.size W1 (W1.alloc (.cells (rcs r) 40)) := (Below.refl _ _).alloc (Nat.le_refl _) _
 have HB2 := Lib.hid (hb1.trans (hbn.mono hb1.size))
 have HFW := Lib.hid (jfew_any (some ⟨W1.heap.size, 0, none⟩) 1 1 [r] (W1.alloc (.cells (rcs r) 40)) (rcl_one (RB.new W1 r) ⟨La, Ta, Ma, hx, hr.later (hb1.trans (hbn.mono hb1.size))⟩))
 have HY2 := Lib.hid (hrb.later hbn)
 clear hW1 hY hb1 hrb hbn hr hx hW I K
 go_enter Tryz.func5, Tryz.ntmps5
 go_upto_region 1 with (fail)
 rw [HW1.out, HYE.out]
 go_wp2_with (first | ((with_reducible refine wpList_load_rc HY1.out ?_ ?_); rfl) | ((with_reducible refine wpList_slice_rc (r := r) rfl ?_ ?_); rfl))
 generalize W1.alloc (.cells (rcs r) 40) = W2 at *
 refine HFW.out.mono ?_
 rintro e3 w3 ⟨t, rfl, ht, hb3⟩
 have HT := Lib.hid ht
 have HB3 := Lib.hid (HB2.out.trans (hb3.mono HB2.out.size))
 have HY3 := Lib.hid (HY2.out.later hb3)
 clear ht hb3 HFW HB2 HY2 HB1 HY1 HW1
 cases t with
 | false =>
  go_wp2_with fail
  refine (HWK.out _ HB3.out).mono ?_
  rintro e4 w4 ⟨rfl, hb4⟩
  have HB4 := Lib.hid (HB3.out.trans (hb4.mono HB3.out.size))
  clear hb4
  go_wp2_with fail
  go_ret
  exact ⟨rfl, HB4.out⟩
 | true =>
  have HSV : Hid (SmV r) := Lib.hid ((HT.out rfl).2 0 (by omega))
  clear HT
  go_wp2_with fail
  refine (HK.out.get _ _ HIDB.out).mono ?_
  rintro e4 w4 ⟨p4, m4, rfl, hb4⟩
  have HB4 := Lib.hid (HB3.out.trans ((hb4.trans (((Below.refl _ _).alloc (Nat.le_refl _) (.cells #[.int .u32 0, .int .u32 0, .int .u8 0, .bool false, .bool false, .slice p4 0 m4, .int .i64 0, .int .i64 0] 47)).mono hb4.size)).mono HB3.out.size))
  have HY4 := Lib.hid ((HY3.out.later hb4).later ((Below.refl _ _).alloc (Nat.le_refl _) (.cells #[.int .u32 0, .int .u32 0, .int .u8 0, .bool false, .bool false, .slice p4 0 m4, .int .i64 0, .int .i64 0] 47)))
  clear hb4 HB3 HY3
  go_upto_region 5 with (fail)
  generalize w4.alloc (.cells #[.int .u32 0, .int .u32 0, .int .u8 0, .bool false, .bool false, .slice p4 0 m4, .int .i64 0, .int .i64 0] 47) = W4 at *
  generalize w4.heap.size = T4 at *
  go_wp2_with fail
  refine (HK.out.of_ _ _).mono ?_
  rintro e5 w5 ⟨p5, m5, rfl, hb5⟩
  have HB5 := Lib.hid (HB4.out.trans ((hb5.trans (((Below.refl _ _).alloc (Nat.le_refl _) (.cells #[.int .u32 0, .int .u32 0, .int .u8 0, .bool false, .bool false, .slice p5 0 m5, .int .i64 0, .int .i64 0] 47)).mono hb5.size)).mono HB4.out.size))
  have HY5 := Lib.hid ((HY4.out.later hb5).later ((Below.refl _ _).alloc (Nat.le_refl _) (.cells #[.int .u32 0, .int .u32 0, .int .u8 0, .bool false, .bool false, .slice p5 0 m5, .int .i64 0, .int .i64 0] 47)))
  clear hb5 HB4 HY4
  go_upto_region 6 with (fail)
  generalize w5.alloc (.cells #[.int .u32 0, .int .u32 0, .int .u8 0, .bool false, .bool false, .slice p5 0 m5, .int .i64 0, .int .i64 0] 47) = W5 at *
  generalize w5.heap.size = T5 at *
  go_wp2_with fail
  refine (HK.out.first _).mono ?_
  rintro e6 w6 ⟨rfl, hb6⟩
  have HB6 := Lib.hid (HB5.out.trans (hb6.mono HB5.out.size))
  have HY6 := Lib.hid (HY5.out.later hb6)
  clear hb6 HB5 HY5
  go_wp2_with ((with_reducible refine wpList_load_rcg HY6.out ?_ ?_ ?_); rfl; rfl)
  refine (HK.out.apply _ 0 r La Ta Ma (HW.out _ HB6.out) (HR.out _ HB6.out) HX.out HSV.out).mono ?_
  rintro e7 w7 ⟨rfl, hb7⟩
  have HB7 := Lib.hid (HB6.out.trans (hb7.mono HB6.out.size))
  clear hb7 HB6 HY6
  go_wp2_with fail
  refine (HK.out.all _).mono ?_
  rintro e8 w8 ⟨r8, c8, rfl, hb8⟩
  have HB8 := Lib.hid (HB7.out.trans (hb8.mono HB7.out.size))
  clear hb8 HB7
  go_wp2_with fail
  refine (HK.out.copy _).mono ?_
  rintro e9 w9 ⟨B, Q, rfl, hj, hb9⟩
  have HJ := Lib.hid hj
  have HB9 := Lib.hid (HB8.out.trans (hb9.mono HB8.out.size))
  clear hj hb9 HB8
  go_wp2_with fail
  refine (HI.out.all _ B [] Q HJ.out (jok_nil.mono (by omega) (by omega)) (Nat.zero_le _)).mono ?_
  rintro e10 w10 ⟨r10, m10, d10, L10, rfl, htl, hmp, _, hb10⟩
  obtain rfl : m10 = 0 := by rw [← htl.row.len, ← List.length_map (f := (·.c)), hmp]; rfl
  have HB10 := Lib.hid (HB9.out.trans (hb10.mono HB9.out.size))
  clear htl hmp hb10 HB9
  go_wp2_with fail
  refine (HWK.out _ HB10.out).mono ?_
  rintro e11 w11 ⟨rfl, hb11⟩
  have HB11 := Lib.hid (HB10.out.trans (hb11.mono HB10.out.size))
  clear hb11
  go_wp2_with fail
  go_ret
  exact ⟨rfl, HB11.out⟩
end Go.Proofs.YtccgjdmbongbaaaGreatDoor
