/- A table held against the document's rows: true, where it has just these. -/
import Derived.Test.YtnjihplhahkljaaTabWorks
import Derived.Sort.QuietIn
import Derived.Test.YtnjihplhahkljaaQuietRound
namespace Go.Proofs.Ytnjihplhahkljaa
open Go.RowKit Go.ChangeShapes Go.WideShapes
set_option linter.unusedVariables false
attribute [local go_sem] Oper.semAt_some

theorem results_cell_one {fn : Func} {p : Tmp} {ty : TypeId} (h : fn.results = #[.cell p ty]) (tmps : Array Value) (P : Program) (w : World) :
    (results fn tmps).run P w = ((asAddr (tmps.getD p undef)).run P w).andThen fun a w₁ => (loadVar ty a).run P w₁ := by
  simp only [results, h]
  simp [Sem.run_bind, Result.andThen]
theorem Turn.keep {S : Nat → Prop} {A W W' : World} {row : Option Nat} (h : Turn S A W) (hg : W.grownBy W' row) (hr : ∀ r, row = some r → A.heap.size ≤ r) : Turn S A W' :=
  ⟨hg.os.trans h.os, hg.tape.trans h.tape, hg.output.trans h.output, Nat.le_trans h.size hg.size, fun k hk hn => (hg.block k (Nat.lt_of_lt_of_le hk h.size) (fun e => by have := hr k e.symm; omega)).trans (h.block k hk hn)⟩
theorem fields_at {M : List Rw} {j : Nat} (h : j < M.length) : M[j] = M.getD j r0 := by simp [List.getD, List.getElem?_eq_getElem h]
theorem prefix_step {M pre : List Rw} {x : Rw} (h : pre ++ [x] <+: M) : x = M.getD pre.length r0 := by
  obtain ⟨t, rfl⟩ := h
  simp [List.getD]

set_option maxRecDepth 100000 in
set_option maxHeartbeats 4000000 in
theorem same_true (W : World) (B : Nat) (mb : Option Nat) (M : List Rw) (p : Option Addr) (n c : Nat) (hT : Tab W B mb M) (hR : RL W p n c M) (hM : M.length ≤ 1000) :
    Calls Try.prog 10 #[.pointer (some ⟨B, 0, none⟩), .slice p n c] W fun e w' => e = .returned (.bool true) ∧ Below W.heap.size W w' := by
  obtain rfl : M.length = n := hR.len
  have hba : Below W.heap.size W ((W.alloc (.cells #[.slice p M.length c] 26)).alloc (.cells #[.bool false] 4)) := ((Below.refl _ _).alloc (Nat.le_refl _) _).alloc (by simp) _
  have HBa := Lib.hid hba
  have h3 : ((W.alloc (.cells #[.slice p M.length c] 26)).alloc (.cells #[.bool false] 4)).heap[W.heap.size]? = some (.cells #[.slice p M.length c] 26 (0, 0)) := (Below.heap_alloc _ _ _ (by simp)).trans (alloc_block W _)
  have h4 : ((W.alloc (.cells #[.slice p M.length c] 26)).alloc (.cells #[.bool false] 4)).heap[W.heap.size + 1]? = some (.cells #[.bool false] 4 (0, 0)) := by
    have := alloc_block (W.alloc (.cells #[.slice p M.length c] 26)) (.cells #[.bool false] 4)
    simpa using this
  have H3 := Lib.hid h3
  have H4 := Lib.hid h4
  have HTa := Lib.hid (hT.later hba)
  have HRa := Lib.hid (hR.later hba)
  have hka := callsIn_wide (n := 5).2 (keysp_any _ B mb M HTa.out hM)
  have HM := Lib.hid hM
  have hlk := len_keys M
  have HRB : Hid (0 < M.length → ∀ a, p = some a → a.block < W.heap.size) := Lib.hid fun h0 a ha => by
    obtain ⟨b, off, hp, hlt, _⟩ := hR.cell h0
    rw [hp] at ha
    cases ha
    exact hlt
  clear hT hR hba h3 h4
  refine callsIn_wide (n := 6).1 ?_
  refine callsIn_of_wp_marks Try.func10 rfl trivial ?_ rfl
  simp only [Try.ntmps10, List.size_toArray, List.length_cons, List.length_nil, Nat.reduceAdd, Nat.reduceSub, Array.replicate_succ, Array.replicate_zero, List.push_toArray, List.append_toArray, List.nil_append, List.cons_append]
  gi_wp2
  generalize (W.alloc (.cells #[.slice p M.length c] 26)).alloc (.cells #[.bool false] 4) = Wa at *
  generalize hm : M.length = m at *
  have HMM := Lib.hid hm
  clear hm
  refine ⟨trivial, hka.mono ?_⟩
  rintro e W1 ⟨kp, kc, rfl, hk, hb, _⟩
  rw [hlk] at hk
  rw [hlk]
  have hcap := hk.cap
  have hb2 : Below W1.heap.size W1 (W1.alloc (.cells #[.slice kp m kc] 35)) := (Below.refl _ _).alloc (Nat.le_refl _) _
  have hbb : Below Wa.heap.size Wa (W1.alloc (.cells #[.slice kp m kc] 35)) := hb.trans (hb2.mono hb.size)
  have HB2 := Lib.hid (HBa.out.trans (hbb.mono HBa.out.size))
  have H32 := Lib.hid (block_later H3.out hbb)
  have H42 := Lib.hid (block_later H4.out hbb)
  have H52 := Lib.hid (alloc_block W1 (.cells #[.slice kp m kc] 35))
  have HT2 := Lib.hid (HTa.out.later hbb)
  have HR2 := Lib.hid (HRa.out.later hbb)
  have HK2 := Lib.hid (hk.later hb2)
  have HKB : Hid (0 < m → ∀ a, kp = some a → a.block < W1.heap.size) := Lib.hid fun h0 a ha => by
    obtain ⟨b, off, hp, hc⟩ := hk.cell h0
    rw [hp] at ha
    cases ha
    exact World.block_lt_of_cell? _ _ (hc 0 h0).1
  have x3 := block_cell (j := 0) H32.out rfl
  have x5 := block_cell (j := 0) H52.out rfl
  have hlen := fun q => callsIn_wide (n := 5).2 (len_any ((W1.alloc (.cells #[.slice kp m kc] 35)).drewN q) B mb M (HT2.out.later (below_drewN (Below.refl _ _) q)))
  rw [HMM.out] at hlen
  clear hka hk hb hb2 hbb H3 H4 HTa HRa HBa
  have hwide : ∀ f, Fence.wide.fn f := fun _ => trivial
  gi_wp2
  generalize W1.alloc (.cells #[.slice kp m kc] 35) = W2 at *
  gi_quiet (first | (gi_at_call 14; refine CallsIn.quiet_of_same (hlen _)))
  generalize hW3 : W2.drewN nq = W3 at *
  have hb23 : Below W2.heap.size W2 W3 := by rw [← hW3]; exact below_drewN (Below.refl _ _) nq
  have hsz3 : Hid (W3.heap.size = W2.heap.size) := Lib.hid (by rw [← hW3]; rfl)
  have hbe : Below W2.heap.size W2 ((W3.alloc (.cells #[.pointer (some ⟨B, 0, none⟩)] 25)).alloc (.cells #[.int .i64 0] 3)) := (hb23.alloc hb23.size _).alloc (by have := hb23.size; simp; omega) _
  have HB4 := Lib.hid (HB2.out.trans (hbe.mono HB2.out.size))
  have H34 := Lib.hid (block_later H32.out hbe)
  have H44 := Lib.hid (block_later H42.out hbe)
  have H54 := Lib.hid (block_later H52.out hbe)
  have HT4 := Lib.hid (HT2.out.later hbe)
  have HR4 := Lib.hid (HR2.out.later hbe)
  have HK4 := Lib.hid (HK2.out.later hbe)
  have h7 := alloc_block (W3.alloc (.cells #[.pointer (some ⟨B, 0, none⟩)] 25)) (.cells #[.int .i64 0] 3)
  have h6 := (Below.heap_alloc _ (.cells #[.int .i64 0] 3) W3.heap.size (by simp)).trans (alloc_block W3 (.cells #[.pointer (some ⟨B, 0, none⟩)] 25))
  rw [World.size_alloc] at h7
  have hx6 := block_cell (j := 0) h6 rfl
  have H7 : Hid (Boxed ((W3.alloc (.cells #[.pointer (some ⟨B, 0, none⟩)] 25)).alloc (.cells #[.int .i64 0] 3)) (W3.heap.size + 1) 3 (.int .i64 0)) := Lib.hid h7
  have hs4 : ((W3.alloc (.cells #[.pointer (some ⟨B, 0, none⟩)] 25)).alloc (.cells #[.int .i64 0] 3)).heap.size = W3.heap.size + 2 := by simp
  have HS4 := Lib.hid hs4
  have hs2 := HB2.out.size
  have h5lt : W1.heap.size < W2.heap.size := block_lt H52.out
  have h4lt : W.heap.size + 1 < W2.heap.size := block_lt H42.out
  have eg : ∀ args w, (callFunc 27 args).run Try.prog w = .ok (.enter 27 args) w := enters_of Try.func27 (by kernel_rfl) rfl
  clear hlen hb23 hbe h6 h7 hW3 HT2 HR2 HK2 H32 H42 H52
  have hfe := fun w => func_eql w (.func 27) #[] #[.pointer (some ⟨W3.heap.size, 0, none⟩)]
  gi_wp2
  refine (callsIn_wide.2 (all_any _ _)).mono ?_
  rintro e w' ⟨rfl, rfl⟩
  gi_wp2
  generalize (W3.alloc (.cells #[.pointer (some ⟨B, 0, none⟩)] 25)).alloc (.cells #[.int .i64 0] 3) = W4 at *
  refine wpIn_rangeFunc_ownH (n := 6) (encs := fun x : Rw => #[encK x.1, .int .i64 x.2]) (ps := #[29, 30]) rfl (by decide) (gf := 27) (lb := #[.pointer (some ⟨W3.heap.size, 0, none⟩)]) rfl trivial eg (all_stops W3.heap.size B W4.heap.size mb M W4 (Nat.le_refl _) hx6 HT4.out (by rw [HMM.out]; exact HM.out)) kpC_t kpC_b (Below.refl _ _) (fun _ => rfl)
    (fun pre X => Boxed X (W3.heap.size + 1) 3 (.int .i64 (pre.length : Nat)) ∧ Turn (fun k => k = W3.heap.size + 1) W4 X)
    (fun _ pre _ => ¬ pre <+: M)
    (fun s X X' row hs hg hr => ⟨hs.1.kept hg (fun e => by obtain ⟨_, o, ho, hc⟩ := hr _ e.symm; rw [show X.heap[W3.heap.size + 1]? = _ from hs.1] at ho; cases ho; cases hc), hs.2.keep hg (fun r e => (hr r e).1)⟩)
    (fun _ _ _ _ _ hs _ _ => hs)
    ⟨H7.out, Turn.refl _ _⟩
    (fun x a' X => ∃ Bx, W4.heap.size ≤ Bx ∧ X.heap[Bx]? = some (.cells #[.int .u8 x.1.1, .int .u8 x.1.2.1, .int .u8 x.1.2.2] 24 (0, 0)) ∧ a' = { tmps := #[.pointer (some ⟨B, 0, none⟩), .slice p m c, undef, .pointer (some ⟨W.heap.size, 0, none⟩), .pointer (some ⟨W.heap.size + 1, 0, none⟩), .pointer (some ⟨W1.heap.size, 0, none⟩), .func (.func 27) #[] #[.pointer (some ⟨W3.heap.size, 0, none⟩)], .pointer (some ⟨W3.heap.size + 1, 0, none⟩), .pointer (some ⟨Bx, 0, none⟩), .int .i64 x.2, .pointer (some ⟨B, 0, none⟩), .slice kp m kc, .pointer (some ⟨B, 0, none⟩), .int .i64 (m : Nat), .slice p m c, .int .i64 (m : Nat), .bool false, .bool false, .slice kp m kc, .int .i64 (m : Nat), .slice p m c, .int .i64 (m : Nat), .bool false, .bool false, .pointer (some ⟨B, 0, none⟩), .func (.func 27) #[] #[.pointer (some ⟨W3.heap.size, 0, none⟩)], .func (.func 27) #[] #[.pointer (some ⟨W3.heap.size, 0, none⟩)], .bool false, .func (.func 27) #[] #[.pointer (some ⟨W3.heap.size, 0, none⟩)], encK x.1, .int .i64 x.2, undef, undef, undef, undef, undef, undef, undef, undef, undef, undef, undef, undef, undef, undef, undef, undef, undef, undef, undef, undef, undef, undef, undef, undef, undef, undef, undef, undef, undef, undef, undef, undef, undef, undef, undef, undef], defers := [] })
    ?ownA ?assign ?body ?done ?stop
  case ownA =>
    rintro x a' s X X' row ⟨Bx, h1, h2, h3⟩ hg hrow
    refine ⟨Bx, h1, (hg.block Bx (block_lt h2) ?_).trans h2, h3⟩
    intro e
    obtain ⟨_, o, ho, hc⟩ := hrow Bx e.symm
    rw [h2] at ho
    cases ho
    cases hc
  case assign =>
    rintro l pre x X K' ⟨hb7, htu⟩ hK
    gi_wp2
    exact hK _ _ ((KeepsOthers.alloc _ _).from _) ⟨by simp, fun k o _ ho _ => (Below.heap_alloc _ _ k (block_lt ho)).trans ho⟩ ⟨hb7.alloc _, htu.keep (World.grownBy_alloc _ _ none) (fun r e => by cases e)⟩ ⟨X.heap.size, htu.size, alloc_block X _, rfl⟩
  case body =>
    rintro l pre x a' X hl ⟨r, hr⟩ ⟨hb7, htu⟩ ⟨Bx, hBx, bX, rfl⟩ hlt
    rw [HMM.out] at hlt
    have hlt' : (pre.length : Int) < m := by omega
    have hm0 : 0 < m := by omega
    have hd1 : decide ((m : Int) ≤ (pre.length : Int)) = false := decide_eq_false (by omega)
    have hd2 : ((m : Int) ≤ (pre.length : Int)) = False := by simp; omega
    have e3 := hsz3.out
    have x3 := block_cell (j := 0) ((htu.block _ (block_lt H34.out) (by omega)).trans H34.out) rfl
    have x5 := block_cell (j := 0) ((htu.block _ (block_lt H54.out) (by omega)).trans H54.out) rfl
    have x7 := hb7.cell
    have f7 := hb7.frozen
    have hX4 : Boxed X (W.heap.size + 1) 4 (.bool false) := (htu.block _ (block_lt H44.out) (by omega)).trans H44.out
    have x4 := hX4.cell
    have f4 := hX4.frozen
    have hRX : RL X p m c M := HR4.out.turn htu.size fun _ a ha hl2 => htu.block a.block hl2 (by have := HRB.out hm0 a ha; omega)
    have hKX : KL X kp m kc (keysM M) := HK4.out.turn fun a ha => htu.block a.block (by have := HKB.out hm0 a ha; omega) (by have := HKB.out hm0 a ha; omega)
    obtain ⟨b, off, rfl, c0, c1, c2, c3⟩ := row_cells hRX hlt
    obtain ⟨kb, koff, rfl, hkc⟩ := hKX.cell hm0
    obtain ⟨k0, k1, k2⟩ := hkc _ hlt
    rw [keys_at M _ (by rw [HMM.out]; exact hlt)] at k0 k1 k2
    have hps := fun h : pre ++ [x] <+: M => prefix_step h
    clear hkc hRX hKX
    have HPS := Lib.hid hps
    clear hps
    generalize hy : M.getD pre.length r0 = y at *
    have z0 := block_cell (j := 0) bX rfl
    have z1 := block_cell (j := 1) bX rfl
    have z2 := block_cell (j := 2) bX rfl
    have q1 := fun W => key_neq x.1.1 x.1.2.1 x.1.2.2 y.1.1 y.1.2.1 y.1.2.2 W
    have q2 := fun W => key_neq y.1.1 y.1.2.1 y.1.2.2 x.1.1 x.1.2.1 x.1.2.2 W
    have d1 : decide (((x.1.1, x.1.2.1, x.1.2.2) : K) = (y.1.1, y.1.2.1, y.1.2.2)) = decide (x.1 = y.1) := rfl
    have d2 : decide (((y.1.1, y.1.2.1, y.1.2.2) : K) = (x.1.1, x.1.2.1, x.1.2.2)) = decide (y.1 = x.1) := rfl
    rw [d1] at q1
    rw [d2] at q2
    clear d1 d2 e3 hy
    by_cases hk : x.1 = y.1
    · rw [decide_eq_true hk] at q1
      rw [decide_eq_true hk.symm] at q2
      by_cases hv : x.2 = y.2
      · obtain rfl : x = y := Prod.ext hk hv
        clear hk hv
        gi_wp2
        refine wpIn_region_round (by kernel_rfl) (by kernel_rfl) (by kernel_rfl) ?_
        repeat (gi_big_quiet_step (fail))
        refine wpQuietIn_nil ?_
        rintro X5 ⟨nq, rfl⟩
        gi_wp2
        have h5 := grownBy_setCell' (X.drewN nq) (W3.heap.size + 1) (.int .i64 ((pre.length : Int) + 1))
        have hg : X.grownBy ((X.drewN nq).setCell ⟨W3.heap.size + 1, 0, none⟩ (.int .i64 ((pre.length : Int) + 1))) (some (W3.heap.size + 1)) := ⟨h5.os, h5.tape, h5.output, h5.size, h5.block⟩
        have e4 := HS4.out
        refine ⟨KeepsFrom.of_grownBy hg (fun j e => by cases e; omega), ⟨hg.size, fun k o hk ho _ => (hg.block k (block_lt ho) (fun e => by cases e; omega)).trans ho⟩, ?_, htu.trans (Turn.of_grown (S := fun k => k = W3.heap.size + 1) hg (fun k e => by cases e; rfl)) (fun _ _ e => e)⟩
        have hlen : (((pre ++ [x]).length : Nat) : Int) = (pre.length : Int) + 1 := by simp
        rw [hlen]
        exact Boxed.set _ (show Boxed (X.drewN nq) _ _ _ from hb7)
      · have HNE : Hid (x ≠ y) := Lib.hid fun e => hv (by rw [e])
        have hv' : (x.2 == y.2) = false := by simpa using hv
        have hv2 : (x.2 != y.2) = true := by simpa using hv
        clear hv hk
        gi_wp2
        refine wpIn_region_round (by kernel_rfl) (by kernel_rfl) (by kernel_rfl) ?_
        repeat (gi_big_quiet_step (fail))
        refine wpQuietIn_nil ?_
        rintro X5 ⟨nq, rfl⟩
        gi_wp2
        have h5 := grownBy_setCell' (X.drewN nq) (W.heap.size + 1) (.bool false)
        exact ⟨KeepsFrom.of_grownBy (W := X) (row := some (W.heap.size + 1)) ⟨h5.os, h5.tape, h5.output, h5.size, h5.block⟩ (fun j e => by cases e; have := HS4.out; have := hsz3.out; omega), fun h => HNE.out (HPS.out h)⟩
    · have HNE : Hid (x ≠ y) := Lib.hid fun e => hk (by rw [e])
      rw [decide_eq_false hk] at q1
      rw [decide_eq_false (fun e => hk e.symm)] at q2
      clear hk
      gi_wp2
      refine wpIn_region_round (by kernel_rfl) (by kernel_rfl) (by kernel_rfl) ?_
      repeat (gi_big_quiet_step (fail))
      refine wpQuietIn_nil ?_
      rintro X5 ⟨nq, rfl⟩
      gi_wp2
      have h5 := grownBy_setCell' (X.drewN nq) (W.heap.size + 1) (.bool false)
      exact ⟨KeepsFrom.of_grownBy (W := X) (row := some (W.heap.size + 1)) ⟨h5.os, h5.tape, h5.output, h5.size, h5.block⟩ (fun j e => by cases e; have := HS4.out; have := hsz3.out; omega), fun h => HNE.out (HPS.out h)⟩
  case done =>
    rintro D ys X hD rfl ⟨hb7, htu⟩ hK
    rw [HMM.out] at hb7
    have x3 := block_cell (j := 0) ((htu.block _ (block_lt H34.out) (by have := hsz3.out; omega)).trans H34.out) rfl
    have hX4 : Boxed X (W.heap.size + 1) 4 (.bool false) := (htu.block _ (block_lt H44.out) (by have := hsz3.out; omega)).trans H44.out
    have x4 := hX4.cell
    have f4 := hX4.frozen
    have x7 := hb7.cell
    gi_wp2
    have hK' := (KeepsOthers.setCell X ⟨W.heap.size + 1, 0, none⟩ (.bool true)).same D _ hK rfl
    refine ⟨by simp, .inl ⟨_, _, rfl, run_takeDeferred hK', ?_⟩⟩
    have hc5 := cell_kept (hX4.set (.bool true)).cell (grownBy_putObj' _ D (.deferred none)) (fun r e => by cases e; exact ⟨_, hK', rfl⟩)
    have HBX := HB4.out.trans (htu.below (n := W.heap.size) HB4.out.size (fun k e => by have := hsz3.out; omega))
    refine ⟨.bool true, ?_, rfl, (HBX.setCell (p := ⟨W.heap.size + 1, 0, none⟩) (by simp) _).trans (belowK_b (w := W) (Nat.le_refl _) _ D _ _ (by have := HB4.out.size; omega) hK' rfl rfl)⟩
    rw [results_cell_one rfl]
    simp [asAddr, loadVar, go_sem, hc5, Result.andThen]
  case stop =>
    rintro D cc pre X _ hpre hn _
    exact absurd hpre hn
end Go.Proofs.Ytnjihplhahkljaa
