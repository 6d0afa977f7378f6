import Derived.Test.YtmdldbchdnkfcaaPA33
namespace Go.Proofs.Ytmdldbchdnkfcaa
open Go.RowKit Go.ChangeShapes Go.WideShapes
set_option linter.unusedVariables false
set_option linter.unusedSimpArgs false
set_option maxRecDepth 10000
theorem fmin_of (n B : Nat) : ∃ k : Nat, min (n : Int) (B : Int) = (k : Int) ∧ k ≤ n ∧ k ≤ B := ⟨min n B, by omega, by omega, by omega⟩
theorem take_all {α : Type} {P : α → Prop} {L : List α} (h : ∀ x ∈ L, P x) (k : Nat) : ∀ x ∈ L.take k, P x := fun x hx => h x (List.mem_of_mem_take hx)
variable {Fu : World → Nat → List FW → (Nat → Prop) → Prop}
structure FPl (Fu : World → Nat → List FW → (Nat → Prop) → Prop) (w wr : World) (B : Nat) (M : List FW) (Q : Nat → Prop) (r : Option Addr) (m d : Nat) : Prop where
 fu : Fu wr B M Q
 rows : FWL wr r m d M
 ok : FOk M
 len : M.length ≤ 20
 low : ∀ j, Q j → w.heap.size ≤ j
 apart : 0 < m → ∀ a, r = some a → ¬ Q a.block
 below : Below w.heap.size w wr
theorem FPl.later (I : FundI Fu) {w wr w' : World} {B : Nat} {M : List FW} {Q : Nat → Prop} {r : Option Addr} {m d : Nat} (h : FPl Fu w wr B M Q r m d) (hb : Below wr.heap.size wr w') : FPl Fu w w' B M Q r m d :=
 ⟨I.later h.fu hb, h.rows.later hb, h.ok, h.len, h.low, h.apart, h.below.trans (hb.mono h.below.size)⟩
theorem apart_new (I : FundI Fu) {wr : World} {B : Nat} {M : List FW} {Q : Nat → Prop} (h : Fu wr B M Q) {r : Option Addr} (hr : ∀ a, r = some a → wr.heap.size ≤ a.block) : ∀ a, r = some a → ¬ Q a.block := fun a ha hq => by
 have h1 := I.lt h _ hq
 have h2 := hr a ha
 omega
theorem FPl.acted (I : FundI Fu) {w w1 w2 : World} {B : Nat} {N : List FW} {Q : Nat → Prop} {r : Option Addr} {m d : Nat} (hw : Below w.heap.size w w1) (hlow : ∀ j, Q j → w.heap.size ≤ j) (hr : FWL w1 r m d N) (hap : 0 < m → ∀ a, r = some a → ¬ Q a.block) (hok : FOk N) (hlen : N.length ≤ 20) (ha : Acted Fu w1 w2 B N Q) : ∃ Q', FPl Fu w w2 B N Q' r m d := by
 obtain ⟨Q', h1, h2, h3⟩ := ha
 refine ⟨Q', h1, hr.turn h3.size fun h0 a hp hlt => h3.block a.block hlt (hap h0 a hp), hok, hlen, fun j hj => ?_, fun h0 a hp hq => ?_, hw.trans (h3.below hw.size hlow)⟩
 · rcases h2 j hj with h | h
   · exact hlow j h
   · exact Nat.le_trans hw.size h
 · rcases h2 _ hq with h | h
   · exact hap h0 a hp h
   · obtain ⟨b, off, hb, hlt, _⟩ := hr.cell h0
     rw [hp] at hb
     cases hb
     have : b < w1.heap.size := hlt
     have h' : w1.heap.size ≤ b := h
     omega
structure SA (bb oo : Nat) (a : Int) (k : K) (dl : Int) (w : World) : Prop where
 c0 : w.cell? ⟨bb, oo, none⟩ = some (.int .u8 a)
 c1 : w.cell? ⟨bb, oo + 1, none⟩ = some (.int .u8 k.1)
 c2 : w.cell? ⟨bb, oo + 2, none⟩ = some (.int .u8 k.2.1)
 c3 : w.cell? ⟨bb, oo + 3, none⟩ = some (.int .u8 k.2.2)
 c4 : w.cell? ⟨bb, oo + 4, none⟩ = some (.int .i64 dl)
theorem SA.later {bb oo : Nat} {a : Int} {k : K} {dl : Int} {w w' : World} (h : SA bb oo a k dl w) (hb : Below w.heap.size w w') : SA bb oo a k dl w' :=
 ⟨cell_b6 h.c0 hb, cell_b6 h.c1 hb, cell_b6 h.c2 hb, cell_b6 h.c3 hb, cell_b6 h.c4 hb⟩
set_option maxHeartbeats 4000000 in
theorem law_fplays (I : FundI Fu) (p : Option Addr) (n c : Nat) (L : List FD) (q : Option Addr) (n2 c2 : Nat) (T : List FA) (w : World) (hL : FDL w p n c L) (hx : ∀ x ∈ L, FDok x) (hT : FAL w q n2 c2 T) (hy : ∀ x ∈ T, FAok x) :
 Calls Try.prog 3 #[.slice p n c, .slice q n2 c2] w fun e w' => e = .returned (.bool true) ∧ Below w.heap.size w w' := by
 obtain ⟨k1, hk, hkn, hk20⟩ : ∃ k : Nat, min (n : Int) 20 = (k : Int) ∧ k ≤ n ∧ k ≤ 20 := fmin_of n 20
 obtain ⟨k2, hj, hjn, hj40⟩ : ∃ k : Nat, min (n2 : Int) 40 = (k : Int) ∧ k ≤ n2 ∧ k ≤ 40 := fmin_of n2 40
 have hki : (if (20 : Int) < (n : Int) then (20 : Int) else (n : Int)) = (k1 : Int) := by rw [← hk]; omega
 have hji : (if (40 : Int) < (n2 : Int) then (40 : Int) else (n2 : Int)) = (k2 : Int) := by rw [← hj]; omega
 have hcap := hL.cap
 have hdap := hT.cap
 have hmax := hL.max
 have hmax2 := hT.max
 unfold maxLen at hmax hmax2
 have hkc : (k1 : Int) ≤ (c : Int) := by omega
 have hjd : (k2 : Int) ≤ (c2 : Int) := by omega
 have HTW := Lib.hid (hT.take k2 hjn)
 have HSL := Lib.hid fun z => (hL.take k1 hkn).later (below_drewN (Below.refl w.heap.size w) z)
 have HST := Lib.hid fun z => (hT.take k2 hjn).later (below_drewN (Below.refl w.heap.size w) z)
 have HXL := Lib.hid (take_all hx k1)
 have HYT := Lib.hid (take_all hy k2)
 have HLL := Lib.hid (show (L.take k1).length ≤ 20 by rw [List.length_take]; omega)
 have HTN := Lib.hid (show (T.take k2).length = k2 by rw [List.length_take, hT.len]; omega)
 generalize L.take k1 = L1 at *
 generalize T.take k2 = T1 at *
 have HI := Lib.hid I
 clear hL hT hx hy
 go_enter Try.func3, Try.ntmps3
 go_wp2_with fail
 go_quiet (fail)
 have HL0 := Lib.hid (HSL.out nq)
 have HT0 := Lib.hid (HST.out nq)
 have HB0 : Hid (Below w.heap.size w (w.drewN nq)) := Lib.hid (below_drewN (Below.refl _ _) nq)
 clear HSL HST
 generalize w.drewN nq = w0 at *
 go_wp2_with fail
 refine (HI.out.new _ _ _ L1 _ HL0.out (by omega) HXL.out).mono ?_
 rintro e1 w1 ⟨B, Q, rfl, hF, hQ, hb1⟩
 have HF1 := Lib.hid hF
 have HQ1 := Lib.hid fun j hj => Nat.le_trans HB0.out.size (hQ j hj)
 have HL1 := Lib.hid (HL0.out.later hb1)
 have HT1 := Lib.hid (HT0.out.later hb1)
 have HB1 := Lib.hid (HB0.out.trans (hb1.mono HB0.out.size))
 clear hF hQ hb1 HL0 HT0 HB0
 go_wp2_with fail
 refine (fwnew_any _ _ _ L1 _ HL1.out (by omega)).mono ?_
 rintro e2 w2 ⟨r, m, d, rfl, hr, hb2, ha2⟩
 have HP2 : Hid (FPl Fu w w2 B (fnewL L1) Q r m d) := Lib.hid ⟨HI.out.later HF1.out hb2, hr, FOk.newL HXL.out, by have := fnewL_len L1 []; simp only [List.length_nil] at this; have h2 := HLL.out; exact Nat.le_trans this (by omega), HQ1.out, fun _ => apart_new HI.out HF1.out ha2, HB1.out.trans (hb2.mono HB1.out.size)⟩
 have HT2 := Lib.hid (HT1.out.later hb2)
 clear hr hb2 ha2 HF1 HQ1 HL1 HT1 HB1
 generalize fnewL L1 = M at *
 go_wp2_with fail
 refine (HI.out.same HP2.out.fu HP2.out.ok (Nat.le_trans HP2.out.len (by omega)) _ _ _ HP2.out.rows).mono ?_
 rintro e3 w3 ⟨rfl, hb3⟩
 have HP3 := Lib.hid (HP2.out.later HI.out hb3)
 have HT3 := Lib.hid (HT2.out.later hb3)
 have HTT : Hid (FAL w q k2 c2 T1) := HTW
 clear hb3 HP2 HT2
 go_wp2_with fail
 go_loopw [6, 7] (fun v i wr => ∃ (j : Nat) (M : List FW) (Q : Nat → Prop) (r : Option Addr) (m d : Nat), j ≤ k2 ∧ i = .int .i64 (j : Int) ∧ v = .slice r m d ∧ Hid (FPl Fu w wr B M Q r m d)) (fun _ i _ => k2 - (Go.RowKit.intOf i).toNat)
 case atStart => exact ⟨0, M, Q, r, m, d, Nat.zero_le _, rfl, rfl, HP3⟩
 case round =>
  obtain ⟨j, M, Q, r, m, d, hjk, rfl, rfl, HP⟩ := hrel
  by_cases hlt : j < k2
  · have t1 : (j : Int) < k2 := by omega
    obtain ⟨b, off, rfl, hbl, c0, c1, c2', c3, c4⟩ := facells (HTT.out.later HP.out.below) hlt
    have hok := HYT.out (T1.getD j fa0) (by rw [List.getD, List.getElem?_eq_getElem (by rw [HTN.out]; exact hlt)]; exact List.getElem_mem _)
    generalize T1.getD j fa0 = x at *
    obtain ⟨a, k, dl⟩ := x
    have ha0 : 0 ≤ a := hok.1.1
    have ha1 : a ≤ 255 := hok.1.2
    have hkk : Kok k := hok.2.1
    have hdd : I64 dl := hok.2.2
    have ew : IntKind.i64.wrap (a % 6) = a % 6 := i64w _ (by omega)
    have HKD := Lib.hid (And.intro hkk hdd)
    have hdo := fun w' hb => fwdo_any r m d M (a % 6) dl k w' ((HP.out.rows).later hb) (by have := HP.out.len; have := HP.out.rows.len; omega) HP.out.ok.fok hdd (by omega) (by omega)
    have HDO := Lib.hid hdo
    have HSA : Hid (SA b (off + j * 5) a k dl wr.drew) := Lib.hid ⟨c0, c1, c2', c3, c4⟩
    have HBD0 := Lib.hid (below_drewN (Below.refl wr.heap.size wr) 1)
    have HBD : Hid (Below wr.heap.size wr wr.drew) := Lib.hid HBD0.out
    have HE := Lib.hid (And.intro (fdoL_length (M := M) HP.out.ok.up (a % 6) k dl) (HP.out.ok.doL (a % 6) k dl hkk))
    have HFD := Lib.hid fun w' (hb : Below wr.heap.size wr w') h2 => fdcall_any HI.out a dl k w' B M Q (HI.out.later HP.out.fu hb) HP.out.ok (Nat.le_trans HP.out.len (by omega)) hkk hdd h2
    generalize fdoL (a % 6) M k dl = N at *
    generalize fdoE (a % 6) M k dl = z at *
    clear hok hkk hdd hdo c0 c1 c2' c3 c4 HBD0
    go_wp2_with fail
    refine wp_region_held_drew (S := fun w' => Hid (SA b (off + j * 5) a k dl w')) (by kernel_rfl) HSA (fun hHeld => ?_)
    generalize wr.drew = W3 at *
    refine wpAnyH_take (i := 0) (oi := ⟨some 35, _, _, _, _, _⟩) (v := .slice r m d) rfl (by kernel_rfl) (by kernel_rfl) (by kernel_rfl) (fun _ _ _ h => h) (Or.inl ⟨by rfl, fun w' hw' => ?_⟩) (by assumption) ?_
    · clear hHeld
      go_simp
    simp only [Act.put, List.setIfInBounds_toArray, List.set_cons_zero, List.set_cons_succ]
    refine wpAnyH_take (i := 1) (oi := ⟨some 36, _, _, _, _, _⟩) (v := .slice (some ⟨b, off, none⟩) k2 c2) rfl (by kernel_rfl) (by kernel_rfl) (by kernel_rfl) (fun _ _ _ h => h) (Or.inl ⟨by rfl, fun w' hw' => ?_⟩) (by assumption) ?_
    · clear hHeld
      go_simp
    simp only [Act.put, List.setIfInBounds_toArray, List.set_cons_zero, List.set_cons_succ]
    refine wpAnyH_take (i := 2) (oi := ⟨some 37, _, _, _, _, _⟩) (v := .int .i64 (j : Int)) rfl (by kernel_rfl) (by kernel_rfl) (by kernel_rfl) (fun _ _ _ h => h) (Or.inl ⟨by rfl, fun w' hw' => ?_⟩) (by assumption) ?_
    · clear hHeld
      go_simp
    simp only [Act.put, List.setIfInBounds_toArray, List.set_cons_zero, List.set_cons_succ]
    refine wpAnyH_take (i := 3) (oi := ⟨some 38, _, _, _, _, _⟩) (v := .pointer (some ⟨b, off + j * 5, none⟩)) rfl (by kernel_rfl) (by kernel_rfl) (by kernel_rfl) (fun _ _ _ h => h) (Or.inl ⟨by rfl, fun w' hw' => ?_⟩) (by assumption) ?_
    · clear hHeld
      go_simp
    simp only [Act.put, List.setIfInBounds_toArray, List.set_cons_zero, List.set_cons_succ]
    refine wpAnyH_take (i := 4) (oi := ⟨some 39, _, _, _, _, _⟩) (v := .pointer (some ⟨b, off + j * 5, none⟩)) rfl (by kernel_rfl) (by kernel_rfl) (by kernel_rfl) (fun _ _ _ h => h) (Or.inl ⟨by rfl, fun w' hw' => ?_⟩) (by assumption) ?_
    · clear hHeld
      go_simp
    simp only [Act.put, List.setIfInBounds_toArray, List.set_cons_zero, List.set_cons_succ]
    refine wpAnyH_take (i := 5) (oi := ⟨some 40, _, _, _, _, _⟩) (v := .int .u8 a) rfl (by kernel_rfl) (by kernel_rfl) (by kernel_rfl) (fun _ _ _ h => h) (Or.inl ⟨by rfl, fun w' hw' => ?_⟩) (by assumption) ?_
    · have c0 := hw'.out.c0
      clear hHeld
      go_simp
    simp only [Act.put, List.setIfInBounds_toArray, List.set_cons_zero, List.set_cons_succ]
    refine wpAnyH_take (i := 6) (oi := ⟨some 41, _, _, _, _, _⟩) (v := .int .u8 (a % 6)) rfl (by kernel_rfl) (by kernel_rfl) (by kernel_rfl) (fun _ _ _ h => h) (Or.inl ⟨by rfl, fun w' hw' => ?_⟩) (by assumption) ?_
    · clear hHeld
      go_simp
      try exact Int.tmod_eq_emod_of_nonneg ha0
    simp only [Act.put, List.setIfInBounds_toArray, List.set_cons_zero, List.set_cons_succ]
    refine wpAnyH_take (i := 7) (oi := ⟨some 42, _, _, _, _, _⟩) (v := .int .i64 (a % 6)) rfl (by kernel_rfl) (by kernel_rfl) (by kernel_rfl) (fun _ _ _ h => h) (Or.inl ⟨by rfl, fun w' hw' => ?_⟩) (by assumption) ?_
    · clear hHeld
      go_simp
    simp only [Act.put, List.setIfInBounds_toArray, List.set_cons_zero, List.set_cons_succ]
    refine wpAnyH_take (i := 8) (oi := ⟨some 43, _, _, _, _, _⟩) (v := .slice (some ⟨b, off, none⟩) k2 c2) rfl (by kernel_rfl) (by kernel_rfl) (by kernel_rfl) (fun _ _ _ h => h) (Or.inl ⟨by rfl, fun w' hw' => ?_⟩) (by assumption) ?_
    · clear hHeld
      go_simp
    simp only [Act.put, List.setIfInBounds_toArray, List.set_cons_zero, List.set_cons_succ]
    refine wpAnyH_take (i := 9) (oi := ⟨some 44, _, _, _, _, _⟩) (v := .int .i64 (j : Int)) rfl (by kernel_rfl) (by kernel_rfl) (by kernel_rfl) (fun _ _ _ h => h) (Or.inl ⟨by rfl, fun w' hw' => ?_⟩) (by assumption) ?_
    · clear hHeld
      go_simp
    simp only [Act.put, List.setIfInBounds_toArray, List.set_cons_zero, List.set_cons_succ]
    refine wpAnyH_take (i := 10) (oi := ⟨some 45, _, _, _, _, _⟩) (v := .pointer (some ⟨b, off + j * 5, none⟩)) rfl (by kernel_rfl) (by kernel_rfl) (by kernel_rfl) (fun _ _ _ h => h) (Or.inl ⟨by rfl, fun w' hw' => ?_⟩) (by assumption) ?_
    · clear hHeld
      go_simp
    simp only [Act.put, List.setIfInBounds_toArray, List.set_cons_zero, List.set_cons_succ]
    refine wpAnyH_take (i := 11) (oi := ⟨some 46, _, _, _, _, _⟩) (v := .pointer (some ⟨b, off + j * 5 + 1, none⟩)) rfl (by kernel_rfl) (by kernel_rfl) (by kernel_rfl) (fun _ _ _ h => h) (Or.inl ⟨by rfl, fun w' hw' => ?_⟩) (by assumption) ?_
    · clear hHeld
      go_simp
    simp only [Act.put, List.setIfInBounds_toArray, List.set_cons_zero, List.set_cons_succ]
    refine wpAnyH_take (i := 12) (oi := ⟨some 47, _, _, _, _, _⟩) (v := .agg #[.int .u8 k.1, .int .u8 k.2.1, .int .u8 k.2.2, .int .i64 dl]) rfl (by kernel_rfl) (by kernel_rfl) (by kernel_rfl) (fun _ _ _ h => h) (Or.inl ⟨by rfl, fun w' hw' => ?_⟩) (by assumption) ?_
    · have c0 := hw'.out.c1; have c1 := hw'.out.c2; have c2x := hw'.out.c3; have c3x := hw'.out.c4
      clear hHeld
      go_simp
    simp only [Act.put, List.setIfInBounds_toArray, List.set_cons_zero, List.set_cons_succ]
    refine wpAnyH_ready (rs := [13]) (by kernel_rfl) (by simp) (AllReadyH.cons rfl (fun K hK => ?_) (AllReadyH.nil))
    go_simp
    go_wp2_with fail
    refine (HDO.out _ HBD.out).mono ?_
    rintro e9 w9 ⟨r9, m9, d9, rfl, hs9, hb9, hr9⟩
    have hSN : Hid (SA b (off + j * 5) a k dl w9) := Lib.hid (hHeld.out.later hb9)
    have HS9 := Lib.hid hs9
    have HB9 := Lib.hid (HBD.out.trans (hb9.mono HBD.out.size))
    have HAP : Hid (0 < m9 → ∀ x, r9 = some x → ¬ Q x.block) := Lib.hid fun h0 x hx => by
     rcases hr9 with e | hr9
     · subst e
       by_cases hm : 0 < m
       · exact HP.out.apart hm x hx
       · exact absurd h0 (by have h1 := HS9.out.len; have h2 := HP.out.rows.len; have h3 := HE.out.1; omega)
     · exact apart_new HI.out HP.out.fu (fun a ha => Nat.le_trans HBD.out.size (hr9 a ha)) x hx
    clear hs9 hb9 hr9
    go_wp2_with fail
    refine hK.out _ _ hSN (fun hHeld2 => ?_)
    try simp only [Act.put, List.setIfInBounds_toArray, List.set_cons_zero, List.set_cons_succ]
    clear hSN hK K hHeld
    have hHeld := hHeld2
    clear hHeld2
    refine wpAnyH_take (i := 14) (oi := ⟨some 34, _, _, _, _, _⟩) (v := .tuple #[.slice r9 m9 d9, .int .i64 z]) rfl (by kernel_rfl) (by kernel_rfl) (by kernel_rfl) (fun _ _ _ h => h) (Or.inl ⟨by rfl, fun w' hw' => ?_⟩) (by assumption) ?_
    · clear hHeld
      go_simp
    simp only [Act.put, List.setIfInBounds_toArray, List.set_cons_zero, List.set_cons_succ]
    refine wpAnyH_take (i := 15) (oi := ⟨some 49, _, _, _, _, _⟩) (v := .slice r9 m9 d9) rfl (by kernel_rfl) (by kernel_rfl) (by kernel_rfl) (fun _ _ _ h => h) (Or.inl ⟨by rfl, fun w' hw' => ?_⟩) (by assumption) ?_
    · clear hHeld
      go_simp
    simp only [Act.put, List.setIfInBounds_toArray, List.set_cons_zero, List.set_cons_succ]
    refine wpAnyH_take (i := 16) (oi := ⟨some 50, _, _, _, _, _⟩) (v := .int .i64 z) rfl (by kernel_rfl) (by kernel_rfl) (by kernel_rfl) (fun _ _ _ h => h) (Or.inl ⟨by rfl, fun w' hw' => ?_⟩) (by assumption) ?_
    · clear hHeld
      go_simp
    simp only [Act.put, List.setIfInBounds_toArray, List.set_cons_zero, List.set_cons_succ]
    refine wpAnyH_take (i := 17) (oi := ⟨some 8, _, _, _, _, _⟩) (v := .slice r9 m9 d9) rfl (by kernel_rfl) (by kernel_rfl) (by kernel_rfl) (fun _ _ _ h => h) (Or.inl ⟨by rfl, fun w' hw' => ?_⟩) (by assumption) ?_
    · clear hHeld
      go_simp
    simp only [Act.put, List.setIfInBounds_toArray, List.set_cons_zero, List.set_cons_succ]
    refine wpAnyH_take (i := 18) (oi := ⟨some 9, _, _, _, _, _⟩) (v := .int .i64 z) rfl (by kernel_rfl) (by kernel_rfl) (by kernel_rfl) (fun _ _ _ h => h) (Or.inl ⟨by rfl, fun w' hw' => ?_⟩) (by assumption) ?_
    · clear hHeld
      go_simp
    simp only [Act.put, List.setIfInBounds_toArray, List.set_cons_zero, List.set_cons_succ]
    refine wpAnyH_done (by kernel_rfl) ?_ _
    have HCC := hHeld
    clear hHeld
    have HN9 := Lib.hid (show FWL w9 r9 m9 d9 N from HS9.out)
    have c0 := HCC.out.c0
    have c1 := HCC.out.c1
    have c2' := HCC.out.c2
    have c3 := HCC.out.c3
    have c4 := HCC.out.c4
    go_wp2_with fail
    clear c0 c1 c2' c3 c4
    refine (HFD.out _ HB9.out ha0).mono ?_
    rintro e10 w10 ⟨rfl, hact⟩
    obtain ⟨Q2, hp10⟩ := FPl.acted HI.out (HP.out.below.trans (HB9.out.mono HP.out.below.size)) HP.out.low HN9.out HAP.out HE.out.2 (by rw [HE.out.1]; exact HP.out.len) hact
    have HP10 := Lib.hid hp10
    clear hact hp10 HN9
    go_wp2_with fail
    refine (HI.out.same HP10.out.fu HP10.out.ok (Nat.le_trans HP10.out.len (by omega)) _ _ _ HP10.out.rows).mono ?_
    rintro e11 w11 ⟨rfl, hb11⟩
    have HP11 := Lib.hid (HP10.out.later HI.out hb11)
    clear hb11 HP10
    go_wp2_with fail
    go_roundw
    case rel => exact ⟨j + 1, N, Q2, r9, m9, d9, by omega, by go_num, rfl, HP11⟩
    case measure =>
     simp [Go.RowKit.intOf]
     omega
  · have t1 : ¬ (j : Int) < k2 := by omega
    go_wp2_with fail
    refine (fund_works HI.out _).mono ?_
    rintro e9 w9 ⟨rfl, hb9⟩
    have HZ := Lib.hid (HP.out.below.trans (hb9.mono HP.out.below.size))
    clear hb9
    go_wp2_with fail
    go_ret
    exact ⟨rfl, HZ.out⟩
variable {Fu : World → Nat → List FW → (Nat → Prop) → Prop}
structure FTr (Fu : World → Nat → List FW → (Nat → Prop) → Prop) (w wr : World) (B B0 : Nat) (M M0 : List FW) (Q Q0 : Nat → Prop) : Prop where
 fu : Fu wr B M Q
 was : Fu wr B0 M0 Q0
 apart : ∀ j, Q j → ¬ Q0 j
 ok : FOk M
 len : M.length ≤ 20
 low : ∀ j, Q j → w.heap.size ≤ j
 below : Below w.heap.size w wr
theorem FTr.later (I : FundI Fu) {w wr w' : World} {B B0 : Nat} {M M0 : List FW} {Q Q0 : Nat → Prop} (h : FTr Fu w wr B B0 M M0 Q Q0) (hb : Below wr.heap.size wr w') : FTr Fu w w' B B0 M M0 Q Q0 :=
 ⟨I.later h.fu hb, I.later h.was hb, h.apart, h.ok, h.len, h.low, h.below.trans (hb.mono h.below.size)⟩
theorem FTr.acted (I : FundI Fu) {w w1 w2 : World} {B B0 : Nat} {M N M0 : List FW} {Q Q0 : Nat → Prop} (h : FTr Fu w w1 B B0 M M0 Q Q0) (hok : FOk N) (hlen : N.length ≤ 20) (ha : Acted Fu w1 w2 B N Q) : ∃ Q', FTr Fu w w2 B B0 N M0 Q' Q0 := by
 obtain ⟨Q', h1, h2, h3⟩ := ha
 refine ⟨Q', h1, I.keep h.was h3 (fun j h0 hq => h.apart j hq h0), fun j hj h0 => ?_, hok, hlen, fun j hj => ?_, h.below.trans (h3.below h.below.size h.low)⟩
 · rcases h2 j hj with e | e
   · exact h.apart j e h0
   · have := I.lt h.was j h0
     omega
 · rcases h2 j hj with e | e
   · exact h.low j e
   · exact Nat.le_trans h.below.size e
set_option maxHeartbeats 4000000 in
theorem law_ftries (I : FundI Fu) (p : Option Addr) (n c : Nat) (L : List FD) (q : Option Addr) (n2 c2 : Nat) (T : List O) (w : World) (hL : FDL w p n c L) (hx : ∀ x ∈ L, FDok x) (hT : OL w q n2 c2 T) (hy : ∀ x ∈ T, Ook x) :
 Calls Try.prog 5 #[.slice p n c, .slice q n2 c2] w fun e w' => e = .returned (.bool true) ∧ Below w.heap.size w w' := by
 obtain ⟨k1, hk, hkn, hk20⟩ : ∃ k : Nat, min (n : Int) 20 = (k : Int) ∧ k ≤ n ∧ k ≤ 20 := fmin_of n 20
 obtain ⟨k2, hj, hjn, hj40⟩ : ∃ k : Nat, min (n2 : Int) 40 = (k : Int) ∧ k ≤ n2 ∧ k ≤ 40 := fmin_of n2 40
 have hki : (if (20 : Int) < (n : Int) then (20 : Int) else (n : Int)) = (k1 : Int) := by rw [← hk]; omega
 have hji : (if (40 : Int) < (n2 : Int) then (40 : Int) else (n2 : Int)) = (k2 : Int) := by rw [← hj]; omega
 have hcap := hL.cap
 have hdap := hT.cap
 have hmax := hL.max
 have hmax2 := hT.max
 unfold maxLen at hmax hmax2
 have hkc : (k1 : Int) ≤ (c : Int) := by omega
 have hjd : (k2 : Int) ≤ (c2 : Int) := by omega
 have HLW := Lib.hid (hL.take k1 hkn)
 have HTW := Lib.hid (hT.take k2 hjn)
 have HXL := Lib.hid (take_all hx k1)
 have HYT := Lib.hid (take_all hy k2)
 have HLL := Lib.hid (show (L.take k1).length ≤ 20 by rw [List.length_take]; omega)
 have HTN := Lib.hid (show (T.take k2).length = k2 by rw [List.length_take, hT.len]; omega)
 generalize L.take k1 = L1 at *
 generalize T.take k2 = T1 at *
 have HI := Lib.hid I
 clear hL hT hx hy
 have HDR := Lib.hid fun j (hj : j < k2) => (show T1.drop j = T1.getD j o0 :: T1.drop (j + 1) by rw [List.drop_eq_getElem_cons (by rw [HTN.out]; exact hj), List.getD, List.getElem?_eq_getElem (by rw [HTN.out]; exact hj)]; rfl)
 have HD0 : Hid (T1.drop 0 = T1) := Lib.hid rfl
 go_enter Try.func5, Try.ntmps5
 go_wp2_with fail
 go_quiet (fail)
 have HB0 : Hid (Below w.heap.size w (w.drewN nq)) := Lib.hid (below_drewN (Below.refl _ _) nq)
 generalize w.drewN nq = w0 at *
 go_wp2_with fail
 refine (HI.out.new _ _ _ L1 _ (HLW.out.later HB0.out) (by omega) HXL.out).mono ?_
 rintro e1 w1 ⟨B, Q, rfl, hF, hQ, hb1⟩
 have HF1 := Lib.hid hF
 have HQ1 := Lib.hid fun j hj => Nat.le_trans HB0.out.size (hQ j hj)
 have HB1 := Lib.hid (HB0.out.trans (hb1.mono HB0.out.size))
 clear hF hQ hb1 HB0
 have HOK := Lib.hid (FOk.newL HXL.out)
 have HLN := Lib.hid (show (fnewL L1).length ≤ 20 by have := fnewL_len L1 []; simp only [List.length_nil] at this; have h2 := HLL.out; exact Nat.le_trans this (by omega))
 have HNW := Lib.hid fun w' (hb : Below w.heap.size w w') => fwnew_any p k1 c L1 w' (HLW.out.later hb) (by omega)
 generalize fnewL L1 = M0 at *
 go_wp2_with fail
 refine (HI.out.copy _ B M0 Q HF1.out HOK.out (Nat.le_trans HLN.out (by omega))).mono ?_
 rintro e2 w2 ⟨B0, Q0, rfl, hF0, hQ0, hb2⟩
 have HP2 : Hid (FTr Fu w w2 B B0 M0 M0 Q Q0) := Lib.hid ⟨HI.out.later HF1.out hb2, hF0, fun j hj h0 => by have h1 := HI.out.lt HF1.out j hj; have h2 := hQ0 j h0; omega, HOK.out, HLN.out, HQ1.out, HB1.out.trans (hb2.mono HB1.out.size)⟩
 clear hF0 hQ0 hb2 HF1 HQ1 HB1
 obtain ⟨z, hz⟩ : ∃ z, ftryE M0 T1 = z := ⟨_, rfl⟩
 have HZ := Lib.hid hz
 go_wp2_with fail
 refine (HI.out.try_ _ B M0 Q _ _ _ T1 HP2.out.fu HOK.out (Nat.le_trans HLN.out (by omega)) (HTW.out.later HP2.out.below) (by omega) HYT.out).mono ?_
 rw [hz]
 rintro e3 w3 ⟨rfl, hact⟩
 obtain ⟨Q3, hp3⟩ := HP2.out.acted HI.out HOK.out HLN.out hact
 have HP3 := Lib.hid hp3
 clear hact hp3 HP2 hz
 go_wp2_with fail
 go_loopw [8] (fun i wr => ∃ (j : Nat) (M : List FW) (Q : Nat → Prop), j ≤ k2 ∧ i = .int .i64 (j : Int) ∧ Hid (FTr Fu w wr B B0 M M0 Q Q0) ∧ Hid (ftryE M (T1.drop j) = z)) (fun i _ => k2 - (Go.RowKit.intOf i).toNat)
 case atStart => exact ⟨0, M0, Q3, Nat.zero_le _, rfl, HP3, Lib.hid (by rw [HD0.out]; exact HZ.out)⟩
 case round =>
  obtain ⟨j, M, Q, hjk, rfl, HP, HT⟩ := hrel
  have HTT : Hid (OL w q k2 c2 T1) := HTW
  by_cases hlt : j < k2
  · have t1 : (j : Int) < k2 := by omega
    obtain ⟨b, off, rfl, hbl, c0, c1, c2', c3⟩ := op_cells (HTT.out.later HP.out.below) hlt
    have hok := HYT.out (T1.getD j o0) (by rw [List.getD, List.getElem?_eq_getElem (by rw [HTN.out]; exact hlt)]; exact List.getElem_mem _)
    have hti := HT.out
    rw [HDR.out j hlt] at hti
    generalize T1.getD j o0 = x at *
    obtain ⟨k, dl⟩ := x
    have hti2 : (if fdoE 0 M k dl = 0 then ftryE (fdoL 0 M k dl) (T1.drop (j + 1)) else fdoE 0 M k dl) = z := hti
    have hact := HI.out.act _ _ ActFn.grant wr B M Q k dl HP.out.fu HP.out.ok (Nat.le_trans HP.out.len (by omega)) hok.1 hok.2
    have hN := HP.out.ok.doL 0 k dl hok.1
    have hl := fdoL_length HP.out.ok.up 0 k dl
    generalize fdoL 0 M k dl = N at *
    generalize fdoE 0 M k dl = g at *
    have HACT := Lib.hid hact
    have HN := Lib.hid (And.intro hN hl)
    clear hact hN hl hti hok
    go_wp2_with fail
    clear c0 c1 c2' c3
    refine HACT.out.mono ?_
    rintro e4 w4 ⟨rfl, hac⟩
    obtain ⟨Q4, hp4⟩ := HP.out.acted HI.out HN.out.1 (by rw [HN.out.2]; exact HP.out.len) hac
    have HP4 := Lib.hid hp4
    clear hac hp4 HACT
    by_cases hg : g = 0
    · rw [if_pos hg] at hti2
      have HTI := Lib.hid hti2
      subst hg
      clear hti2
      go_wp2_with fail
      go_roundw
      case rel => exact ⟨j + 1, N, Q4, by omega, by go_num, HP4, HTI⟩
      case measure =>
       simp [Go.RowKit.intOf]
       omega
    · rw [if_neg hg] at hti2
      have kg : (g != 0) = true := by simpa using hg
      subst hti2
      have HGG := Lib.hid hg
      clear hg
      go_wp2_with fail
      refine (HNW.out _ HP4.out.below).mono ?_
      rintro e5 w5 ⟨r5, m5, d5, rfl, hr5, hb5, _⟩
      have HP5 := Lib.hid (HP4.out.later HI.out hb5)
      have HR5 := Lib.hid hr5
      clear hr5 hb5
      go_wp2_with fail
      refine (HI.out.same HP5.out.was HOK.out (Nat.le_trans HLN.out (by omega)) _ _ _ HR5.out).mono ?_
      rintro e6 w6 ⟨rfl, hb6⟩
      have HB6 := Lib.hid (HP5.out.below.trans (hb6.mono HP5.out.below.size))
      clear hb6
      go_wp2_with fail
      refine (fund_works HI.out _).mono ?_
      rintro e7 w7 ⟨rfl, hb7⟩
      have HB7 := Lib.hid (HB6.out.trans (hb7.mono HB6.out.size))
      clear hb7
      go_wp2_with fail
      go_ret
      exact ⟨rfl, HB7.out⟩
  · have t1 : ¬ (j : Int) < k2 := by omega
    have hz0 : z = 0 := by
     have h := HT.out
     rw [List.drop_of_length_le (by rw [HTN.out]; omega)] at h
     exact h.symm
    subst hz0
    have HP4 := HP
    go_wp2_with fail
    refine (HNW.out _ HP4.out.below).mono ?_
    rintro e5 w5 ⟨r5, m5, d5, rfl, hr5, hb5, _⟩
    have HP5 := Lib.hid (HP4.out.later HI.out hb5)
    have HR5 := Lib.hid hr5
    clear hr5 hb5
    go_wp2_with fail
    refine (HI.out.same HP5.out.was HOK.out (Nat.le_trans HLN.out (by omega)) _ _ _ HR5.out).mono ?_
    rintro e6 w6 ⟨rfl, hb6⟩
    have HB6 := Lib.hid (HP5.out.below.trans (hb6.mono HP5.out.below.size))
    clear hb6
    go_wp2_with fail
    refine (fund_works HI.out _).mono ?_
    rintro e7 w7 ⟨rfl, hb7⟩
    have HB7 := Lib.hid (HB6.out.trans (hb7.mono HB6.out.size))
    clear hb7
    go_wp2_with fail
    go_ret
    exact ⟨rfl, HB7.out⟩
end Go.Proofs.Ytmdldbchdnkfcaa
