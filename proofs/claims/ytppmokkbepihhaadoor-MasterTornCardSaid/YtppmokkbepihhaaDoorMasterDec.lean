/- master.Decode: what it answers of any bytes. (Written by tools/src/mkmasterdec.py.) -/
import Derived.Test.YtppmokkbepihhaaDoorMasterRead
import Derived.Deep.Cut
namespace Go.Proofs.YtppmokkbepihhaaDoor
open Go.RowKit Go.ChangeShapes Go.WideShapes
set_option linter.unusedVariables false
set_option linter.unusedSimpArgs false
set_option maxRecDepth 10000

theorem zeros45 : (#[.int .u8 0, .int .u8 0, .int .u8 0, .int .u8 0, .int .u8 0, .int .u8 0, .int .u8 0, .int .u8 0, .int .u8 0, .int .u8 0, .int .u8 0, .int .u8 0, .int .u8 0, .int .u8 0, .int .u8 0, .int .u8 0, .int .u8 0, .int .u8 0, .int .u8 0, .int .u8 0, .int .u8 0, .int .u8 0, .int .u8 0, .int .u8 0, .int .u8 0, .int .u8 0, .int .u8 0, .int .u8 0, .int .u8 0, .int .u8 0, .int .u8 0, .int .u8 0, .int .u8 0, .int .u8 0, .int .u8 0, .int .u8 0, .int .u8 0, .int .u8 0, .int .u8 0, .int .u8 0, .int .u8 0, .int .u8 0, .int .u8 0, .int .u8 0, .int .u8 0] : Array Value) = (vB (zi (List.replicate 45 0))).toArray := rfl
theorem mret_z {W w : World} (h : Below W.heap.size W w) (x : Int) : GivesMM W mz x (.returned (.tuple #[.agg #[.int .u64 0, .int .u8 0, .int .i64 0, .int .i64 0, .int .i64 0], .int .i64 x])) w := ⟨rfl, h⟩
theorem dE_take (L : List Nat) (h : 45 ≤ L.length) : dE (L.take 45) = dE L ∧ dV (L.take 45) = dV L := by
  have e1 : (L.take 45).take 8 = L.take 8 := by rw [List.take_take]; rfl
  have e2 : ((L.take 45).drop 37).take 8 = (L.drop 37).take 8 := by rw [List.drop_take, List.take_take]; rfl
  have e3 : (L.take 45).take 33 = L.take 33 := by rw [List.take_take]; rfl
  have e4 : ((L.take 45).drop 33).take 4 = (L.drop 33).take 4 := by rw [List.drop_take, List.take_take]; rfl
  have e5 : ((L.take 45).drop 8).take 1 = (L.drop 8).take 1 := by rw [List.drop_take, List.take_take]; rfl
  have e6 : ((L.take 45).drop 9).take 8 = (L.drop 9).take 8 := by rw [List.drop_take, List.take_take]; rfl
  have e7 : ((L.take 45).drop 17).take 8 = (L.drop 17).take 8 := by rw [List.drop_take, List.take_take]; rfl
  have e8 : ((L.take 45).drop 25).take 8 = (L.drop 25).take 8 := by rw [List.drop_take, List.take_take]; rfl
  have em : dM (L.take 45) = dM L := by unfold dM; rw [e1, e5, e6, e7, e8]
  have ee : dE (L.take 45) = dE L := by
    unfold dE
    rw [em, e1, e3]
    unfold dH dS
    rw [e2, e4, List.length_take, if_neg (show ¬ min 45 L.length < 45 by omega), if_neg (show ¬ L.length < 45 by omega)]
  refine ⟨ee, ?_⟩
  unfold dV
  rw [ee, em]
/-- A whole array of 45 bytes out of its block. -/
theorem wpList_load_45 {ops : Array Oper} {rest : List Oper} {a : Act} {w : World} {Q : Exit → Act → World → Prop} {dst : Option Tmp} {x : Operand} {ty : TypeId} {pos : String} {after : Array Edge} {B : Nat} {cs : Array Value} (hB : w.heap[B]? = some (.cells cs 53 (0, 0))) (hs : cs.size = 45) (hx : a.eval x = .pointer (some ⟨B, 0, none⟩))
    (h : wpList Tryd.prog ops Q rest (a.put dst (.agg cs)) w) : wpList Tryd.prog ops Q (Oper.mk dst (.load 53 x) ty pos after none :: rest) a w :=
  wpList_load_row rfl 53 x rfl B hx 53 cs (0, 0) _ hB Tryd.underlying53 rfl (by rw [hs]; kernel_rfl) h
set_option maxHeartbeats 2000000 in
theorem mdec_short (p : Option Addr) (n c : Nat) (L : List Nat) (w : World) (hS : Sl w p n c L) (hc : c ≤ maxLen) (hn : n ≤ 1000000) (hT : Tab w) (h45 : n < 45) :
    Calls Tryd.prog 10 #[.slice p n c] w (GivesMM w (dV L) (dE L)) := by
  have HS := Lib.hid hS
  have HT := Lib.hid hT
  have hl := hS.len
  have hlt := hS.lt
  have hb : Below w.heap.size w (w.alloc (.cells #[.int .u64 0, .int .u8 0, .int .i64 0, .int .i64 0, .int .i64 0] 24)) := (Below.refl _ _).alloc (Nat.le_refl _) _
  have hr := alloc_block w (.cells #[.int .u64 0, .int .u8 0, .int .i64 0, .int .i64 0, .int .i64 0] 24)
  have HB := Lib.hid hb
  have HR := Lib.hid hr
  clear hb hr
  have he := dE_short (L := L) (by omega)
  rw [he, dV_bad (by rw [he]; omega)]
  obtain ⟨r0, r1, r2, r3, r4⟩ := mcells HR.out
  obtain ⟨q0, q1, q2, q3, q4⟩ := mfree HR.out
  clear he hl hlt hS hT
  go_enter Tryd.func10, Tryd.ntmps10
  go_wp2_with fail
  refine bodyPost_ret (v := .tuple #[.agg #[.int .u64 0, .int .u8 0, .int .i64 0, .int .i64 0, .int .i64 0], .int .i64 6]) ?_ rfl (mret_z HB.out 6)
  exact results_mm rfl _ _ w.heap.size _ rfl _ rfl rfl HR.out
set_option maxHeartbeats 2000000 in
theorem mdec_torn (p : Option Addr) (n c : Nat) (L : List Nat) (w : World) (hS : Sl w p n c L) (hc : c ≤ maxLen) (hn : n ≤ 1000000) (hT : Tab w) (h45 : ¬ n < 45) (ht : ¬ un ((L.take 45).take 8) = dH (L.take 45)) :
    Calls Tryd.prog 10 #[.slice p n c] w (GivesMM w (dV L) (dE L)) := by
  have HS := Lib.hid hS
  have HT := Lib.hid hT
  have hl := hS.len
  have hlt := hS.lt
  have hb : Below w.heap.size w (w.alloc (.cells #[.int .u64 0, .int .u8 0, .int .i64 0, .int .i64 0, .int .i64 0] 24)) := (Below.refl _ _).alloc (Nat.le_refl _) _
  have hr := alloc_block w (.cells #[.int .u64 0, .int .u8 0, .int .i64 0, .int .i64 0, .int .i64 0] 24)
  have HB := Lib.hid hb
  have HR := Lib.hid hr
  clear hb hr
  have hz := mtwo w #[.int .u64 0, .int .u8 0, .int .i64 0, .int .i64 0, .int .i64 0] #[.int .u8 0, .int .u8 0, .int .u8 0, .int .u8 0, .int .u8 0, .int .u8 0, .int .u8 0, .int .u8 0, .int .u8 0, .int .u8 0, .int .u8 0, .int .u8 0, .int .u8 0, .int .u8 0, .int .u8 0, .int .u8 0, .int .u8 0, .int .u8 0, .int .u8 0, .int .u8 0, .int .u8 0, .int .u8 0, .int .u8 0, .int .u8 0, .int .u8 0, .int .u8 0, .int .u8 0, .int .u8 0, .int .u8 0, .int .u8 0, .int .u8 0, .int .u8 0, .int .u8 0, .int .u8 0, .int .u8 0, .int .u8 0, .int .u8 0, .int .u8 0, .int .u8 0, .int .u8 0, .int .u8 0, .int .u8 0, .int .u8 0, .int .u8 0, .int .u8 0] 24 53
  obtain ⟨hb2, hx2⟩ := hz
  have hr2 := block_later HR.out ((Below.refl _ _).alloc (Nat.le_refl _) (.cells #[.int .u8 0, .int .u8 0, .int .u8 0, .int .u8 0, .int .u8 0, .int .u8 0, .int .u8 0, .int .u8 0, .int .u8 0, .int .u8 0, .int .u8 0, .int .u8 0, .int .u8 0, .int .u8 0, .int .u8 0, .int .u8 0, .int .u8 0, .int .u8 0, .int .u8 0, .int .u8 0, .int .u8 0, .int .u8 0, .int .u8 0, .int .u8 0, .int .u8 0, .int .u8 0, .int .u8 0, .int .u8 0, .int .u8 0, .int .u8 0, .int .u8 0, .int .u8 0, .int .u8 0, .int .u8 0, .int .u8 0, .int .u8 0, .int .u8 0, .int .u8 0, .int .u8 0, .int .u8 0, .int .u8 0, .int .u8 0, .int .u8 0, .int .u8 0, .int .u8 0] 53))
  obtain ⟨W2, hW2⟩ : ∃ W2, W2 = (w.alloc (.cells #[.int .u64 0, .int .u8 0, .int .i64 0, .int .i64 0, .int .i64 0] 24)).alloc (.cells #[.int .u8 0, .int .u8 0, .int .u8 0, .int .u8 0, .int .u8 0, .int .u8 0, .int .u8 0, .int .u8 0, .int .u8 0, .int .u8 0, .int .u8 0, .int .u8 0, .int .u8 0, .int .u8 0, .int .u8 0, .int .u8 0, .int .u8 0, .int .u8 0, .int .u8 0, .int .u8 0, .int .u8 0, .int .u8 0, .int .u8 0, .int .u8 0, .int .u8 0, .int .u8 0, .int .u8 0, .int .u8 0, .int .u8 0, .int .u8 0, .int .u8 0, .int .u8 0, .int .u8 0, .int .u8 0, .int .u8 0, .int .u8 0, .int .u8 0, .int .u8 0, .int .u8 0, .int .u8 0, .int .u8 0, .int .u8 0, .int .u8 0, .int .u8 0, .int .u8 0] 53) := ⟨_, rfl⟩
  rw [← hW2] at hb2 hx2 hr2
  have HW2 := Lib.hid hW2
  rw [zeros45] at hx2
  have HB2 := Lib.hid hb2
  have HSL := Lib.hid ((HS.out.later hb2).bl hc)
  obtain ⟨X, hX⟩ : ∃ X, w.heap.size = X := ⟨_, rfl⟩
  rw [hX] at hr2 hx2
  have HX2 := Lib.hid hx2
  have HR2 := Lib.hid hr2
  have hk45 : (L.take 45).length = 45 := by rw [List.length_take, hl]; omega
  have hklt : ∀ x ∈ L.take 45, x < 256 := fun x hx => hlt x (List.mem_of_mem_take hx)
  have hee := dE_take L (by omega)
  rw [← hee.1, ← hee.2]
  clear hb2 hx2 hr2 HB HR hS hT hW2 hl hlt hee
  generalize hKL : L.take 45 = K at *
  have HK := Lib.hid hk45
  have HKL := Lib.hid hklt
  have HKK := Lib.hid hKL
  have hs32 := dS_lt hklt
  clear hk45 hklt hKL
  generalize hSM : dS K = sm at *
  have htorn := fun w' => torn_any K HK.out HKL.out w'
  have hread := fun w' => mread_any K HK.out HKL.out w'
  rw [hSM] at hread
  have he := dE_torn (L := K) (by rw [HK.out]; omega) ht
  rw [he, dV_bad (by rw [he]; omega)]
  have hb1 : (!decide (un (K.take 8) = dH K)) = true := by simp [ht]
  rw [hb1] at htorn
  clear he hb1 ht
  have HTORN := Lib.hid htorn
  have HREAD := Lib.hid hread
  have HSM := Lib.hid hSM
  have HSS := Lib.hid hs32
  clear htorn hread hSM hs32
  go_enter Tryd.func10, Tryd.ntmps10
  go_upto_region 4 with (fail)
  rw [← HW2.out]
  have HXX := Lib.hid hX
  go_upto_region 5 with ((with_reducible refine wpList_copy_op (dp := some ⟨X + 1, 0, none⟩) (dLen := 45) (dCap := 45) (m := 45) (off := 0) HX2.out HSL.out (Nat.min_eq_right (by omega)) (fun _ => rfl) (by rw [zi_len, List.length_replicate]; omega) ?_ ?_ ?_); rfl; rfl; intro w3 h3 hc3)
  have h31 := h3.out
  rw [← zi_take, HKK.out, splice_zi, splice_whole _ _ (by rw [List.length_replicate, HK.out]), vB_zi] at h31
  have H3 := Lib.hid h31
  have HR3 := Lib.hid ((hc3.block X (block_lt HR2.out) (by omega)).trans HR2.out)
  have HB3 : Hid (Below w.heap.size w w3) := Lib.hid (hc3.below HB2.out HB2.out.size fun k hk => by rw [HXX.out, hk]; omega)
  have HT3 := Lib.hid (HT.out.later HB3.out HT.out.lt)
  clear h3 h31 hc3 HR2 HB2 HX2 HSL HS HW2 hX HT
  go_wp2_with ((with_reducible refine wpList_load_45 H3.out (by simp [vL, HK.out]) ?_ ?_); rfl)
  refine (HTORN.out _).mono ?_
  rintro e w4 ⟨rfl, hb4⟩
  have HR4 := Lib.hid (block_later HR3.out hb4)
  have H4 := Lib.hid (block_later H3.out hb4)
  have HB4 := Lib.hid (HB3.out.trans (hb4.mono HB3.out.size))
  have HT4 := Lib.hid (HT3.out.later hb4 HT3.out.lt)
  clear hb4 HR3 H3 HB3 HT3 HTORN
  obtain ⟨r0, r1, r2, r3, r4⟩ := mcells HR4.out
  obtain ⟨q0, q1, q2, q3, q4⟩ := mfree HR4.out
  have HF := Lib.hid (mstored (a' := .int .u64 0) (b' := .int .u8 0) (c' := .int .i64 0) (d' := .int .i64 0) (e' := .int .i64 0) HR4.out)
  have HG := Lib.hid (mkept HB4.out (Nat.le_of_eq HXX.out) (.int .u64 0) (.int .u8 0) (.int .i64 0) (.int .i64 0) (.int .i64 0))
  go_wp2_with fail
  refine bodyPost_ret (v := .tuple #[.agg #[.int .u64 0, .int .u8 0, .int .i64 0, .int .i64 0, .int .i64 0], .int .i64 8]) ?_ rfl ⟨rfl, HG.out⟩
  exact results_mm rfl _ _ X _ rfl _ rfl rfl HF.out
set_option maxHeartbeats 2000000 in
theorem mdec_sum (p : Option Addr) (n c : Nat) (L : List Nat) (w : World) (hS : Sl w p n c L) (hc : c ≤ maxLen) (hn : n ≤ 1000000) (hT : Tab w) (h45 : ¬ n < 45) (ht : un ((L.take 45).take 8) = dH (L.take 45)) (hs : ¬ sumL ((L.take 45).take 33) = dS (L.take 45)) :
    Calls Tryd.prog 10 #[.slice p n c] w (GivesMM w (dV L) (dE L)) := by
  have HS := Lib.hid hS
  have HT := Lib.hid hT
  have hl := hS.len
  have hlt := hS.lt
  have hb : Below w.heap.size w (w.alloc (.cells #[.int .u64 0, .int .u8 0, .int .i64 0, .int .i64 0, .int .i64 0] 24)) := (Below.refl _ _).alloc (Nat.le_refl _) _
  have hr := alloc_block w (.cells #[.int .u64 0, .int .u8 0, .int .i64 0, .int .i64 0, .int .i64 0] 24)
  have HB := Lib.hid hb
  have HR := Lib.hid hr
  clear hb hr
  have hz := mtwo w #[.int .u64 0, .int .u8 0, .int .i64 0, .int .i64 0, .int .i64 0] #[.int .u8 0, .int .u8 0, .int .u8 0, .int .u8 0, .int .u8 0, .int .u8 0, .int .u8 0, .int .u8 0, .int .u8 0, .int .u8 0, .int .u8 0, .int .u8 0, .int .u8 0, .int .u8 0, .int .u8 0, .int .u8 0, .int .u8 0, .int .u8 0, .int .u8 0, .int .u8 0, .int .u8 0, .int .u8 0, .int .u8 0, .int .u8 0, .int .u8 0, .int .u8 0, .int .u8 0, .int .u8 0, .int .u8 0, .int .u8 0, .int .u8 0, .int .u8 0, .int .u8 0, .int .u8 0, .int .u8 0, .int .u8 0, .int .u8 0, .int .u8 0, .int .u8 0, .int .u8 0, .int .u8 0, .int .u8 0, .int .u8 0, .int .u8 0, .int .u8 0] 24 53
  obtain ⟨hb2, hx2⟩ := hz
  have hr2 := block_later HR.out ((Below.refl _ _).alloc (Nat.le_refl _) (.cells #[.int .u8 0, .int .u8 0, .int .u8 0, .int .u8 0, .int .u8 0, .int .u8 0, .int .u8 0, .int .u8 0, .int .u8 0, .int .u8 0, .int .u8 0, .int .u8 0, .int .u8 0, .int .u8 0, .int .u8 0, .int .u8 0, .int .u8 0, .int .u8 0, .int .u8 0, .int .u8 0, .int .u8 0, .int .u8 0, .int .u8 0, .int .u8 0, .int .u8 0, .int .u8 0, .int .u8 0, .int .u8 0, .int .u8 0, .int .u8 0, .int .u8 0, .int .u8 0, .int .u8 0, .int .u8 0, .int .u8 0, .int .u8 0, .int .u8 0, .int .u8 0, .int .u8 0, .int .u8 0, .int .u8 0, .int .u8 0, .int .u8 0, .int .u8 0, .int .u8 0] 53))
  obtain ⟨W2, hW2⟩ : ∃ W2, W2 = (w.alloc (.cells #[.int .u64 0, .int .u8 0, .int .i64 0, .int .i64 0, .int .i64 0] 24)).alloc (.cells #[.int .u8 0, .int .u8 0, .int .u8 0, .int .u8 0, .int .u8 0, .int .u8 0, .int .u8 0, .int .u8 0, .int .u8 0, .int .u8 0, .int .u8 0, .int .u8 0, .int .u8 0, .int .u8 0, .int .u8 0, .int .u8 0, .int .u8 0, .int .u8 0, .int .u8 0, .int .u8 0, .int .u8 0, .int .u8 0, .int .u8 0, .int .u8 0, .int .u8 0, .int .u8 0, .int .u8 0, .int .u8 0, .int .u8 0, .int .u8 0, .int .u8 0, .int .u8 0, .int .u8 0, .int .u8 0, .int .u8 0, .int .u8 0, .int .u8 0, .int .u8 0, .int .u8 0, .int .u8 0, .int .u8 0, .int .u8 0, .int .u8 0, .int .u8 0, .int .u8 0] 53) := ⟨_, rfl⟩
  rw [← hW2] at hb2 hx2 hr2
  have HW2 := Lib.hid hW2
  rw [zeros45] at hx2
  have HB2 := Lib.hid hb2
  have HSL := Lib.hid ((HS.out.later hb2).bl hc)
  obtain ⟨X, hX⟩ : ∃ X, w.heap.size = X := ⟨_, rfl⟩
  rw [hX] at hr2 hx2
  have HX2 := Lib.hid hx2
  have HR2 := Lib.hid hr2
  have hk45 : (L.take 45).length = 45 := by rw [List.length_take, hl]; omega
  have hklt : ∀ x ∈ L.take 45, x < 256 := fun x hx => hlt x (List.mem_of_mem_take hx)
  have hee := dE_take L (by omega)
  rw [← hee.1, ← hee.2]
  clear hb2 hx2 hr2 HB HR hS hT hW2 hl hlt hee
  generalize hKL : L.take 45 = K at *
  have HK := Lib.hid hk45
  have HKL := Lib.hid hklt
  have HKK := Lib.hid hKL
  have hs32 := dS_lt hklt
  clear hk45 hklt hKL
  generalize hSM : dS K = sm at *
  have htorn := fun w' => torn_any K HK.out HKL.out w'
  have hread := fun w' => mread_any K HK.out HKL.out w'
  rw [hSM] at hread
  have he := dE_sum (L := K) (by rw [HK.out]; omega) ht (by rw [hSM]; exact hs)
  rw [he, dV_bad (by rw [he]; omega)]
  have hb1 : (!decide (un (K.take 8) = dH K)) = false := by simp [ht]
  rw [hb1] at htorn
  generalize hdm : dM K = m at *
  obtain ⟨g, a, r, t, s⟩ := m
  have hsame : (((sumL (K.take 33) : Nat) : Int) == (sm : Int)) = false := by simpa using fun h => hs (by exact_mod_cast h)
  clear he hb1 ht hs
  have HTORN := Lib.hid htorn
  have HREAD := Lib.hid hread
  have HSM := Lib.hid hSM
  have HSS := Lib.hid hs32
  clear htorn hread hSM hs32
  go_enter Tryd.func10, Tryd.ntmps10
  go_upto_region 4 with (fail)
  rw [← HW2.out]
  have HXX := Lib.hid hX
  go_upto_region 5 with ((with_reducible refine wpList_copy_op (dp := some ⟨X + 1, 0, none⟩) (dLen := 45) (dCap := 45) (m := 45) (off := 0) HX2.out HSL.out (Nat.min_eq_right (by omega)) (fun _ => rfl) (by rw [zi_len, List.length_replicate]; omega) ?_ ?_ ?_); rfl; rfl; intro w3 h3 hc3)
  have h31 := h3.out
  rw [← zi_take, HKK.out, splice_zi, splice_whole _ _ (by rw [List.length_replicate, HK.out]), vB_zi] at h31
  have H3 := Lib.hid h31
  have HR3 := Lib.hid ((hc3.block X (block_lt HR2.out) (by omega)).trans HR2.out)
  have HB3 : Hid (Below w.heap.size w w3) := Lib.hid (hc3.below HB2.out HB2.out.size fun k hk => by rw [HXX.out, hk]; omega)
  have HT3 := Lib.hid (HT.out.later HB3.out HT.out.lt)
  clear h3 h31 hc3 HR2 HB2 HX2 HSL HS HW2 hX HT
  go_wp2_with ((with_reducible refine wpList_load_45 H3.out (by simp [vL, HK.out]) ?_ ?_); rfl)
  refine (HTORN.out _).mono ?_
  rintro e w4 ⟨rfl, hb4⟩
  have HR4 := Lib.hid (block_later HR3.out hb4)
  have H4 := Lib.hid (block_later H3.out hb4)
  have HB4 := Lib.hid (HB3.out.trans (hb4.mono HB3.out.size))
  have HT4 := Lib.hid (HT3.out.later hb4 HT3.out.lt)
  clear hb4 HR3 H3 HB3 HT3 HTORN
  go_wp2_with ((with_reducible refine wpList_load_45 H4.out (by simp [vL, HK.out]) ?_ ?_); rfl)
  refine (HREAD.out _).mono ?_
  rintro e w5 ⟨rfl, hb5⟩
  have hbn := ((Below.refl w5.heap.size w5).alloc (Nat.le_refl _) (.cells #[.int .u64 (g : Int), .int .u8 (a : Int), .int .i64 (sgn r), .int .i64 (sgn t), .int .i64 (sgn s)] 24))
  have HY6 := Lib.hid (alloc_block w5 (.cells #[.int .u64 (g : Int), .int .u8 (a : Int), .int .i64 (sgn r), .int .i64 (sgn t), .int .i64 (sgn s)] 24))
  have HR6 := Lib.hid (block_later (block_later HR4.out hb5) hbn)
  have H6 := Lib.hid (block_later (block_later H4.out hb5) hbn)
  have hb6 := hb5.trans (hbn.mono hb5.size)
  have HB6 := Lib.hid (HB4.out.trans (hb6.mono HB4.out.size))
  have HT6 := Lib.hid (HT4.out.later hb6 HT4.out.lt)
  have HSL6 := Lib.hid ((sl_block H6.out HK.out HKL.out).take 33 (by omega))
  clear hb5 hbn hb6 HR4 H4 HB4 HT4 HREAD
  go_wp2_with fail
  generalize w5.alloc (.cells #[.int .u64 (g : Int), .int .u8 (a : Int), .int .i64 (sgn r), .int .i64 (sgn t), .int .i64 (sgn s)] 24) = W6 at *
  generalize w5.heap.size = Y at *
  refine (same_sl _ _ _ (K.take 33) _ _ HSL6.out (by omega) HT6.out).mono ?_
  rw [hsame]
  rintro e w7 ⟨rfl, rfl⟩
  obtain ⟨r0, r1, r2, r3, r4⟩ := mcells HR6.out
  obtain ⟨q0, q1, q2, q3, q4⟩ := mfree HR6.out
  have HF := Lib.hid (mstored (a' := .int .u64 0) (b' := .int .u8 0) (c' := .int .i64 0) (d' := .int .i64 0) (e' := .int .i64 0) HR6.out)
  have HG := Lib.hid (mkept HB6.out (Nat.le_of_eq HXX.out) (.int .u64 0) (.int .u8 0) (.int .i64 0) (.int .i64 0) (.int .i64 0))
  go_wp2_with fail
  refine bodyPost_ret (v := .tuple #[.agg #[.int .u64 0, .int .u8 0, .int .i64 0, .int .i64 0, .int .i64 0], .int .i64 9]) ?_ rfl ⟨rfl, HG.out⟩
  exact results_mm rfl _ _ X _ rfl _ rfl rfl HF.out
set_option maxHeartbeats 2000000 in
theorem mdec_form (p : Option Addr) (n c : Nat) (L : List Nat) (w : World) (hS : Sl w p n c L) (hc : c ≤ maxLen) (hn : n ≤ 1000000) (hT : Tab w) (h45 : ¬ n < 45) (ht : un ((L.take 45).take 8) = dH (L.take 45)) (hs : sumL ((L.take 45).take 33) = dS (L.take 45)) (hg : goodM (dM (L.take 45)) = false) :
    Calls Tryd.prog 10 #[.slice p n c] w (GivesMM w (dV L) (dE L)) := by
  have HS := Lib.hid hS
  have HT := Lib.hid hT
  have hl := hS.len
  have hlt := hS.lt
  have hb : Below w.heap.size w (w.alloc (.cells #[.int .u64 0, .int .u8 0, .int .i64 0, .int .i64 0, .int .i64 0] 24)) := (Below.refl _ _).alloc (Nat.le_refl _) _
  have hr := alloc_block w (.cells #[.int .u64 0, .int .u8 0, .int .i64 0, .int .i64 0, .int .i64 0] 24)
  have HB := Lib.hid hb
  have HR := Lib.hid hr
  clear hb hr
  have hz := mtwo w #[.int .u64 0, .int .u8 0, .int .i64 0, .int .i64 0, .int .i64 0] #[.int .u8 0, .int .u8 0, .int .u8 0, .int .u8 0, .int .u8 0, .int .u8 0, .int .u8 0, .int .u8 0, .int .u8 0, .int .u8 0, .int .u8 0, .int .u8 0, .int .u8 0, .int .u8 0, .int .u8 0, .int .u8 0, .int .u8 0, .int .u8 0, .int .u8 0, .int .u8 0, .int .u8 0, .int .u8 0, .int .u8 0, .int .u8 0, .int .u8 0, .int .u8 0, .int .u8 0, .int .u8 0, .int .u8 0, .int .u8 0, .int .u8 0, .int .u8 0, .int .u8 0, .int .u8 0, .int .u8 0, .int .u8 0, .int .u8 0, .int .u8 0, .int .u8 0, .int .u8 0, .int .u8 0, .int .u8 0, .int .u8 0, .int .u8 0, .int .u8 0] 24 53
  obtain ⟨hb2, hx2⟩ := hz
  have hr2 := block_later HR.out ((Below.refl _ _).alloc (Nat.le_refl _) (.cells #[.int .u8 0, .int .u8 0, .int .u8 0, .int .u8 0, .int .u8 0, .int .u8 0, .int .u8 0, .int .u8 0, .int .u8 0, .int .u8 0, .int .u8 0, .int .u8 0, .int .u8 0, .int .u8 0, .int .u8 0, .int .u8 0, .int .u8 0, .int .u8 0, .int .u8 0, .int .u8 0, .int .u8 0, .int .u8 0, .int .u8 0, .int .u8 0, .int .u8 0, .int .u8 0, .int .u8 0, .int .u8 0, .int .u8 0, .int .u8 0, .int .u8 0, .int .u8 0, .int .u8 0, .int .u8 0, .int .u8 0, .int .u8 0, .int .u8 0, .int .u8 0, .int .u8 0, .int .u8 0, .int .u8 0, .int .u8 0, .int .u8 0, .int .u8 0, .int .u8 0] 53))
  obtain ⟨W2, hW2⟩ : ∃ W2, W2 = (w.alloc (.cells #[.int .u64 0, .int .u8 0, .int .i64 0, .int .i64 0, .int .i64 0] 24)).alloc (.cells #[.int .u8 0, .int .u8 0, .int .u8 0, .int .u8 0, .int .u8 0, .int .u8 0, .int .u8 0, .int .u8 0, .int .u8 0, .int .u8 0, .int .u8 0, .int .u8 0, .int .u8 0, .int .u8 0, .int .u8 0, .int .u8 0, .int .u8 0, .int .u8 0, .int .u8 0, .int .u8 0, .int .u8 0, .int .u8 0, .int .u8 0, .int .u8 0, .int .u8 0, .int .u8 0, .int .u8 0, .int .u8 0, .int .u8 0, .int .u8 0, .int .u8 0, .int .u8 0, .int .u8 0, .int .u8 0, .int .u8 0, .int .u8 0, .int .u8 0, .int .u8 0, .int .u8 0, .int .u8 0, .int .u8 0, .int .u8 0, .int .u8 0, .int .u8 0, .int .u8 0] 53) := ⟨_, rfl⟩
  rw [← hW2] at hb2 hx2 hr2
  have HW2 := Lib.hid hW2
  rw [zeros45] at hx2
  have HB2 := Lib.hid hb2
  have HSL := Lib.hid ((HS.out.later hb2).bl hc)
  obtain ⟨X, hX⟩ : ∃ X, w.heap.size = X := ⟨_, rfl⟩
  rw [hX] at hr2 hx2
  have HX2 := Lib.hid hx2
  have HR2 := Lib.hid hr2
  have hk45 : (L.take 45).length = 45 := by rw [List.length_take, hl]; omega
  have hklt : ∀ x ∈ L.take 45, x < 256 := fun x hx => hlt x (List.mem_of_mem_take hx)
  have hee := dE_take L (by omega)
  rw [← hee.1, ← hee.2]
  clear hb2 hx2 hr2 HB HR hS hT hW2 hl hlt hee
  generalize hKL : L.take 45 = K at *
  have HK := Lib.hid hk45
  have HKL := Lib.hid hklt
  have HKK := Lib.hid hKL
  have hs32 := dS_lt hklt
  clear hk45 hklt hKL
  generalize hSM : dS K = sm at *
  have htorn := fun w' => torn_any K HK.out HKL.out w'
  have hread := fun w' => mread_any K HK.out HKL.out w'
  rw [hSM] at hread
  have he := dE_form (L := K) (by rw [HK.out]; omega) ht (by rw [hSM]; exact hs) hg
  rw [he, dV_bad (by rw [he]; omega)]
  have hb1 : (!decide (un (K.take 8) = dH K)) = false := by simp [ht]
  rw [hb1] at htorn
  generalize hdm : dM K = m at *
  obtain ⟨g, a, r, t, s⟩ := m
  have hgm := goodI_m ⟨g, a, r, t, s⟩
  rw [hg] at hgm
  replace hgm : goodI (g : Int) (a : Int) (sgn r) (sgn t) (sgn s) = false := hgm
  have hsame : (((sumL (K.take 33) : Nat) : Int) == (sm : Int)) = true := by rw [hs]; simp
  clear he hb1 ht hs hg
  have HTORN := Lib.hid htorn
  have HREAD := Lib.hid hread
  have HSM := Lib.hid hSM
  have HSS := Lib.hid hs32
  clear htorn hread hSM hs32
  go_enter Tryd.func10, Tryd.ntmps10
  go_upto_region 4 with (fail)
  rw [← HW2.out]
  have HXX := Lib.hid hX
  go_upto_region 5 with ((with_reducible refine wpList_copy_op (dp := some ⟨X + 1, 0, none⟩) (dLen := 45) (dCap := 45) (m := 45) (off := 0) HX2.out HSL.out (Nat.min_eq_right (by omega)) (fun _ => rfl) (by rw [zi_len, List.length_replicate]; omega) ?_ ?_ ?_); rfl; rfl; intro w3 h3 hc3)
  have h31 := h3.out
  rw [← zi_take, HKK.out, splice_zi, splice_whole _ _ (by rw [List.length_replicate, HK.out]), vB_zi] at h31
  have H3 := Lib.hid h31
  have HR3 := Lib.hid ((hc3.block X (block_lt HR2.out) (by omega)).trans HR2.out)
  have HB3 : Hid (Below w.heap.size w w3) := Lib.hid (hc3.below HB2.out HB2.out.size fun k hk => by rw [HXX.out, hk]; omega)
  have HT3 := Lib.hid (HT.out.later HB3.out HT.out.lt)
  clear h3 h31 hc3 HR2 HB2 HX2 HSL HS HW2 hX HT
  go_wp2_with ((with_reducible refine wpList_load_45 H3.out (by simp [vL, HK.out]) ?_ ?_); rfl)
  refine (HTORN.out _).mono ?_
  rintro e w4 ⟨rfl, hb4⟩
  have HR4 := Lib.hid (block_later HR3.out hb4)
  have H4 := Lib.hid (block_later H3.out hb4)
  have HB4 := Lib.hid (HB3.out.trans (hb4.mono HB3.out.size))
  have HT4 := Lib.hid (HT3.out.later hb4 HT3.out.lt)
  clear hb4 HR3 H3 HB3 HT3 HTORN
  go_wp2_with ((with_reducible refine wpList_load_45 H4.out (by simp [vL, HK.out]) ?_ ?_); rfl)
  refine (HREAD.out _).mono ?_
  rintro e w5 ⟨rfl, hb5⟩
  have hbn := ((Below.refl w5.heap.size w5).alloc (Nat.le_refl _) (.cells #[.int .u64 (g : Int), .int .u8 (a : Int), .int .i64 (sgn r), .int .i64 (sgn t), .int .i64 (sgn s)] 24))
  have HY6 := Lib.hid (alloc_block w5 (.cells #[.int .u64 (g : Int), .int .u8 (a : Int), .int .i64 (sgn r), .int .i64 (sgn t), .int .i64 (sgn s)] 24))
  have HR6 := Lib.hid (block_later (block_later HR4.out hb5) hbn)
  have H6 := Lib.hid (block_later (block_later H4.out hb5) hbn)
  have hb6 := hb5.trans (hbn.mono hb5.size)
  have HB6 := Lib.hid (HB4.out.trans (hb6.mono HB4.out.size))
  have HT6 := Lib.hid (HT4.out.later hb6 HT4.out.lt)
  have HSL6 := Lib.hid ((sl_block H6.out HK.out HKL.out).take 33 (by omega))
  clear hb5 hbn hb6 HR4 H4 HB4 HT4 HREAD
  go_wp2_with fail
  generalize w5.alloc (.cells #[.int .u64 (g : Int), .int .u8 (a : Int), .int .i64 (sgn r), .int .i64 (sgn t), .int .i64 (sgn s)] 24) = W6 at *
  generalize w5.heap.size = Y at *
  refine (same_sl _ _ _ (K.take 33) _ _ HSL6.out (by omega) HT6.out).mono ?_
  rw [hsame]
  rintro e w7 ⟨rfl, rfl⟩
  obtain ⟨y0, y1, y2, y3, y4⟩ := mcells HY6.out
  go_wp2_with fail
  refine (mgood_any (g : Int) (a : Int) (sgn r) (sgn t) (sgn s) _).mono ?_
  rw [hgm]
  rintro e w8 ⟨rfl, hb8⟩
  have HR8 := Lib.hid (block_later HR6.out hb8)
  have HY8 := Lib.hid (block_later HY6.out hb8)
  have HB8 := Lib.hid (HB6.out.trans (hb8.mono HB6.out.size))
  clear hb8 HR6 HY6 HB6 y0 y1 y2 y3 y4
  obtain ⟨r0, r1, r2, r3, r4⟩ := mcells HR8.out
  obtain ⟨q0, q1, q2, q3, q4⟩ := mfree HR8.out
  have HF := Lib.hid (mstored (a' := .int .u64 0) (b' := .int .u8 0) (c' := .int .i64 0) (d' := .int .i64 0) (e' := .int .i64 0) HR8.out)
  have HG := Lib.hid (mkept HB8.out (Nat.le_of_eq HXX.out) (.int .u64 0) (.int .u8 0) (.int .i64 0) (.int .i64 0) (.int .i64 0))
  go_wp2_with fail
  refine bodyPost_ret (v := .tuple #[.agg #[.int .u64 0, .int .u8 0, .int .i64 0, .int .i64 0, .int .i64 0], .int .i64 8]) ?_ rfl ⟨rfl, HG.out⟩
  exact results_mm rfl _ _ X _ rfl _ rfl rfl HF.out
set_option maxHeartbeats 2000000 in
theorem mdec_ok (p : Option Addr) (n c : Nat) (L : List Nat) (w : World) (hS : Sl w p n c L) (hc : c ≤ maxLen) (hn : n ≤ 1000000) (hT : Tab w) (h45 : ¬ n < 45) (ht : un ((L.take 45).take 8) = dH (L.take 45)) (hs : sumL ((L.take 45).take 33) = dS (L.take 45)) (hg : goodM (dM (L.take 45)) = true) :
    Calls Tryd.prog 10 #[.slice p n c] w (GivesMM w (dV L) (dE L)) := by
  have HS := Lib.hid hS
  have HT := Lib.hid hT
  have hl := hS.len
  have hlt := hS.lt
  have hb : Below w.heap.size w (w.alloc (.cells #[.int .u64 0, .int .u8 0, .int .i64 0, .int .i64 0, .int .i64 0] 24)) := (Below.refl _ _).alloc (Nat.le_refl _) _
  have hr := alloc_block w (.cells #[.int .u64 0, .int .u8 0, .int .i64 0, .int .i64 0, .int .i64 0] 24)
  have HB := Lib.hid hb
  have HR := Lib.hid hr
  clear hb hr
  have hz := mtwo w #[.int .u64 0, .int .u8 0, .int .i64 0, .int .i64 0, .int .i64 0] #[.int .u8 0, .int .u8 0, .int .u8 0, .int .u8 0, .int .u8 0, .int .u8 0, .int .u8 0, .int .u8 0, .int .u8 0, .int .u8 0, .int .u8 0, .int .u8 0, .int .u8 0, .int .u8 0, .int .u8 0, .int .u8 0, .int .u8 0, .int .u8 0, .int .u8 0, .int .u8 0, .int .u8 0, .int .u8 0, .int .u8 0, .int .u8 0, .int .u8 0, .int .u8 0, .int .u8 0, .int .u8 0, .int .u8 0, .int .u8 0, .int .u8 0, .int .u8 0, .int .u8 0, .int .u8 0, .int .u8 0, .int .u8 0, .int .u8 0, .int .u8 0, .int .u8 0, .int .u8 0, .int .u8 0, .int .u8 0, .int .u8 0, .int .u8 0, .int .u8 0] 24 53
  obtain ⟨hb2, hx2⟩ := hz
  have hr2 := block_later HR.out ((Below.refl _ _).alloc (Nat.le_refl _) (.cells #[.int .u8 0, .int .u8 0, .int .u8 0, .int .u8 0, .int .u8 0, .int .u8 0, .int .u8 0, .int .u8 0, .int .u8 0, .int .u8 0, .int .u8 0, .int .u8 0, .int .u8 0, .int .u8 0, .int .u8 0, .int .u8 0, .int .u8 0, .int .u8 0, .int .u8 0, .int .u8 0, .int .u8 0, .int .u8 0, .int .u8 0, .int .u8 0, .int .u8 0, .int .u8 0, .int .u8 0, .int .u8 0, .int .u8 0, .int .u8 0, .int .u8 0, .int .u8 0, .int .u8 0, .int .u8 0, .int .u8 0, .int .u8 0, .int .u8 0, .int .u8 0, .int .u8 0, .int .u8 0, .int .u8 0, .int .u8 0, .int .u8 0, .int .u8 0, .int .u8 0] 53))
  obtain ⟨W2, hW2⟩ : ∃ W2, W2 = (w.alloc (.cells #[.int .u64 0, .int .u8 0, .int .i64 0, .int .i64 0, .int .i64 0] 24)).alloc (.cells #[.int .u8 0, .int .u8 0, .int .u8 0, .int .u8 0, .int .u8 0, .int .u8 0, .int .u8 0, .int .u8 0, .int .u8 0, .int .u8 0, .int .u8 0, .int .u8 0, .int .u8 0, .int .u8 0, .int .u8 0, .int .u8 0, .int .u8 0, .int .u8 0, .int .u8 0, .int .u8 0, .int .u8 0, .int .u8 0, .int .u8 0, .int .u8 0, .int .u8 0, .int .u8 0, .int .u8 0, .int .u8 0, .int .u8 0, .int .u8 0, .int .u8 0, .int .u8 0, .int .u8 0, .int .u8 0, .int .u8 0, .int .u8 0, .int .u8 0, .int .u8 0, .int .u8 0, .int .u8 0, .int .u8 0, .int .u8 0, .int .u8 0, .int .u8 0, .int .u8 0] 53) := ⟨_, rfl⟩
  rw [← hW2] at hb2 hx2 hr2
  have HW2 := Lib.hid hW2
  rw [zeros45] at hx2
  have HB2 := Lib.hid hb2
  have HSL := Lib.hid ((HS.out.later hb2).bl hc)
  obtain ⟨X, hX⟩ : ∃ X, w.heap.size = X := ⟨_, rfl⟩
  rw [hX] at hr2 hx2
  have HX2 := Lib.hid hx2
  have HR2 := Lib.hid hr2
  have hk45 : (L.take 45).length = 45 := by rw [List.length_take, hl]; omega
  have hklt : ∀ x ∈ L.take 45, x < 256 := fun x hx => hlt x (List.mem_of_mem_take hx)
  have hee := dE_take L (by omega)
  rw [← hee.1, ← hee.2]
  clear hb2 hx2 hr2 HB HR hS hT hW2 hl hlt hee
  generalize hKL : L.take 45 = K at *
  have HK := Lib.hid hk45
  have HKL := Lib.hid hklt
  have HKK := Lib.hid hKL
  have hs32 := dS_lt hklt
  clear hk45 hklt hKL
  generalize hSM : dS K = sm at *
  have htorn := fun w' => torn_any K HK.out HKL.out w'
  have hread := fun w' => mread_any K HK.out HKL.out w'
  rw [hSM] at hread
  have he := dE_ok (L := K) (by rw [HK.out]; omega) ht (by rw [hSM]; exact hs) hg
  rw [dV_ok he, he]
  have hb1 : (!decide (un (K.take 8) = dH K)) = false := by simp [ht]
  rw [hb1] at htorn
  generalize hdm : dM K = m at *
  obtain ⟨g, a, r, t, s⟩ := m
  have hgm := goodI_m ⟨g, a, r, t, s⟩
  rw [hg] at hgm
  replace hgm : goodI (g : Int) (a : Int) (sgn r) (sgn t) (sgn s) = true := hgm
  have hsame : (((sumL (K.take 33) : Nat) : Int) == (sm : Int)) = true := by rw [hs]; simp
  clear he hb1 ht hs hg
  have HTORN := Lib.hid htorn
  have HREAD := Lib.hid hread
  have HSM := Lib.hid hSM
  have HSS := Lib.hid hs32
  clear htorn hread hSM hs32
  go_enter Tryd.func10, Tryd.ntmps10
  go_upto_region 4 with (fail)
  rw [← HW2.out]
  have HXX := Lib.hid hX
  go_upto_region 5 with ((with_reducible refine wpList_copy_op (dp := some ⟨X + 1, 0, none⟩) (dLen := 45) (dCap := 45) (m := 45) (off := 0) HX2.out HSL.out (Nat.min_eq_right (by omega)) (fun _ => rfl) (by rw [zi_len, List.length_replicate]; omega) ?_ ?_ ?_); rfl; rfl; intro w3 h3 hc3)
  have h31 := h3.out
  rw [← zi_take, HKK.out, splice_zi, splice_whole _ _ (by rw [List.length_replicate, HK.out]), vB_zi] at h31
  have H3 := Lib.hid h31
  have HR3 := Lib.hid ((hc3.block X (block_lt HR2.out) (by omega)).trans HR2.out)
  have HB3 : Hid (Below w.heap.size w w3) := Lib.hid (hc3.below HB2.out HB2.out.size fun k hk => by rw [HXX.out, hk]; omega)
  have HT3 := Lib.hid (HT.out.later HB3.out HT.out.lt)
  clear h3 h31 hc3 HR2 HB2 HX2 HSL HS HW2 hX HT
  go_wp2_with ((with_reducible refine wpList_load_45 H3.out (by simp [vL, HK.out]) ?_ ?_); rfl)
  refine (HTORN.out _).mono ?_
  rintro e w4 ⟨rfl, hb4⟩
  have HR4 := Lib.hid (block_later HR3.out hb4)
  have H4 := Lib.hid (block_later H3.out hb4)
  have HB4 := Lib.hid (HB3.out.trans (hb4.mono HB3.out.size))
  have HT4 := Lib.hid (HT3.out.later hb4 HT3.out.lt)
  clear hb4 HR3 H3 HB3 HT3 HTORN
  go_wp2_with ((with_reducible refine wpList_load_45 H4.out (by simp [vL, HK.out]) ?_ ?_); rfl)
  refine (HREAD.out _).mono ?_
  rintro e w5 ⟨rfl, hb5⟩
  have hbn := ((Below.refl w5.heap.size w5).alloc (Nat.le_refl _) (.cells #[.int .u64 (g : Int), .int .u8 (a : Int), .int .i64 (sgn r), .int .i64 (sgn t), .int .i64 (sgn s)] 24))
  have HY6 := Lib.hid (alloc_block w5 (.cells #[.int .u64 (g : Int), .int .u8 (a : Int), .int .i64 (sgn r), .int .i64 (sgn t), .int .i64 (sgn s)] 24))
  have HR6 := Lib.hid (block_later (block_later HR4.out hb5) hbn)
  have H6 := Lib.hid (block_later (block_later H4.out hb5) hbn)
  have hb6 := hb5.trans (hbn.mono hb5.size)
  have HB6 := Lib.hid (HB4.out.trans (hb6.mono HB4.out.size))
  have HT6 := Lib.hid (HT4.out.later hb6 HT4.out.lt)
  have HSL6 := Lib.hid ((sl_block H6.out HK.out HKL.out).take 33 (by omega))
  clear hb5 hbn hb6 HR4 H4 HB4 HT4 HREAD
  go_wp2_with fail
  generalize w5.alloc (.cells #[.int .u64 (g : Int), .int .u8 (a : Int), .int .i64 (sgn r), .int .i64 (sgn t), .int .i64 (sgn s)] 24) = W6 at *
  generalize w5.heap.size = Y at *
  refine (same_sl _ _ _ (K.take 33) _ _ HSL6.out (by omega) HT6.out).mono ?_
  rw [hsame]
  rintro e w7 ⟨rfl, rfl⟩
  obtain ⟨y0, y1, y2, y3, y4⟩ := mcells HY6.out
  go_wp2_with fail
  refine (mgood_any (g : Int) (a : Int) (sgn r) (sgn t) (sgn s) _).mono ?_
  rw [hgm]
  rintro e w8 ⟨rfl, hb8⟩
  have HR8 := Lib.hid (block_later HR6.out hb8)
  have HY8 := Lib.hid (block_later HY6.out hb8)
  have HB8 := Lib.hid (HB6.out.trans (hb8.mono HB6.out.size))
  clear hb8 HR6 HY6 HB6 y0 y1 y2 y3 y4
  obtain ⟨y0, y1, y2, y3, y4⟩ := mcells HY8.out
  obtain ⟨r0, r1, r2, r3, r4⟩ := mcells HR8.out
  obtain ⟨q0, q1, q2, q3, q4⟩ := mfree HR8.out
  have HF := Lib.hid (mstored (a' := .int .u64 (g : Int)) (b' := .int .u8 (a : Int)) (c' := .int .i64 (sgn r)) (d' := .int .i64 (sgn t)) (e' := .int .i64 (sgn s)) HR8.out)
  have HG := Lib.hid (mkept HB8.out (Nat.le_of_eq HXX.out) (.int .u64 (g : Int)) (.int .u8 (a : Int)) (.int .i64 (sgn r)) (.int .i64 (sgn t)) (.int .i64 (sgn s)))
  go_wp2_with fail
  refine bodyPost_ret (v := .tuple #[.agg #[.int .u64 (g : Int), .int .u8 (a : Int), .int .i64 (sgn r), .int .i64 (sgn t), .int .i64 (sgn s)], .int .i64 0]) ?_ rfl ⟨rfl, HG.out⟩
  exact results_mm rfl _ _ X _ rfl _ rfl rfl HF.out
theorem mdec_any (p : Option Addr) (n c : Nat) (L : List Nat) (w : World) (hS : Sl w p n c L) (hc : c ≤ maxLen) (hn : n ≤ 1000000) (hT : Tab w) :
    Calls Tryd.prog 10 #[.slice p n c] w (GivesMM w (dV L) (dE L)) := by
  by_cases h45 : n < 45
  · exact mdec_short p n c L w hS hc hn hT h45
  · by_cases ht : un ((L.take 45).take 8) = dH (L.take 45)
    · by_cases hs : sumL ((L.take 45).take 33) = dS (L.take 45)
      · cases hg : goodM (dM (L.take 45)) with
        | true => exact mdec_ok p n c L w hS hc hn hT h45 ht hs hg
        | false => exact mdec_form p n c L w hS hc hn hT h45 ht hs hg
      · exact mdec_sum p n c L w hS hc hn hT h45 ht hs
    · exact mdec_torn p n c L w hS hc hn hT h45 ht
end Go.Proofs.YtppmokkbepihhaaDoor
