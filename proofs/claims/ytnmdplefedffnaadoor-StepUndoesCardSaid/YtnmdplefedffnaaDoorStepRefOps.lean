/- What a step does, and what undoes it: the document's way; what undoes it: the program's. -/
import Derived.Test.YtnmdplefedffnaaDoorStepOps
import Derived.Test.YtnmdplefedffnaaDoorHand
namespace Go.Proofs.YtnmdplefedffnaaDoor
open Go.RowKit Go.ChangeShapes Go.WideShapes
set_option linter.unusedVariables false
set_option linter.unusedSimpArgs false
set_option maxRecDepth 10000

/-- append of a whole list, as one step of a region that draws its order. -/
theorem step_append_fill {W w : World} {ops : Array Oper} {o : Oper} {a : Act} {K : Act → World → Prop} {Q : Exit → Act → World → Prop} {E : Prop} (hgd : o.guard = none) (s x : Operand)
    (ho : o.op = .call { callee := .builtin .append, args := #[s, x], argTypes := #[29, 29] })
    (v : Value) (L : List O) (N : Nat) (hs : a.eval s = v) (hF : FillO W w v L N) (p : Option Addr) (m c : Nat) (M : List O) (hx : a.eval x = .slice p m c) (hM : OL w p m c M) (hbig : N + m ≤ 1000000)
    (h : ∀ p' n' c' w', FillO W w' (.slice p' n' c') (L ++ M) (N + m) → K (a.put o.dst (.slice p' n' c')) w') :
    if Region.wanted o (yielded ops a.tmps) = true then Oper.wp Tryd.prog o a w K Q else E := by
  have hlen := hM.len
  have hmost := hF.most
  refine step_append_vals (k := 4) (by decide) Tryd.underlying29 info_op rfl (by omega) hgd s x ho v L.length (flatG oc L) hs (own_zero hF.own) p m c (flatG oc M) hx (by rw [flatG_len oc_len, hM.len]) (ol_none hM) (ol_news hM) (flatG_all oc_one M) (by omega) fun p' c' w' h1 h2 h3 => ?_
  rw [← flatG_append] at h1
  have := fill_app hF h1 (by rw [List.length_append, hlen]) h2 h3
  rw [hlen] at this
  exact h p' _ c' w' this
/-- One addition in a block made last. -/
theorem ol_one (w : World) (x : O) : OL (w.alloc (.cells #[.int .u8 x.1.1, .int .u8 x.1.2.1, .int .u8 x.1.2.2, .int .i64 x.2] 39)) (some ⟨w.heap.size, 0, none⟩) 1 1 [x] := by
  obtain ⟨p, c, he, hs, _⟩ := gives_one x (Below.refl w.heap.size w)
  cases he
  exact hs

set_option maxHeartbeats 1000000 in
theorem refops_any (t r : Int) (p : Option Addr) (n c : Nat) (L : List Ln) (W : World) (hL : LL W p n c L) (hok : ∀ x ∈ L, Lnok x) (hn : n ≤ 1000) :
    Calls Tryd.prog 14 #[.agg #[.int .u8 t, .int .u8 r, .slice p n c]] W (GivesO W (opsS t r L)) := by
  have HST := Lib.hid fun j (hj : j < n) => opsS_take t r L j (by rw [hL.len]; exact hj)
  have HIN := Lib.hid fun j (hj : j < n) => (lnok_at hok (show j < L.length by rw [hL.len]; exact hj)).2
  have HEND : Hid (opsS t r (L.take n) = opsS t r L) := Lib.hid (by rw [← hL.len, List.take_length])
  have hb1 : Below W.heap.size W (W.alloc (.cells #[.int .u8 t, .int .u8 r, .slice p n c] 24)) := (Below.refl _ _).alloc (Nat.le_refl _) _
  have HB1 := Lib.hid hb1
  have HL := Lib.hid (hL.later hb1)
  have HX := Lib.hid (alloc_block W (.cells #[.int .u8 t, .int .u8 r, .slice p n c] 24))
  have hcap := hL.cap
  clear hL hok hb1
  go_enter Tryd.func14, Tryd.ntmps14
  go_wp2_with fail
  generalize W.alloc (.cells #[.int .u8 t, .int .u8 r, .slice p n c] 24) = W1 at *
  go_loopw [3, 4] (fun v i wr => ∃ j : Nat, j ≤ n ∧ i = .int .i64 j ∧ Hid (FillO W1 wr v (opsS t r (L.take j)) (2 * j))) (fun _ i _ => n - (Go.RowKit.intOf i).toNat)
  case atStart => exact ⟨0, Nat.zero_le _, rfl, Lib.hid (by rw [opsS_nil]; exact FillG.nil W1)⟩
  case round =>
    obtain ⟨j, hj, rfl, HF⟩ := hrel
    obtain ⟨e0, e1, e2⟩ := cells_step (block_later HX.out HF.out.below)
    by_cases hlt : j < n
    · have hlt' : (j : Int) < n := by omega
      obtain ⟨b, off, rfl, _, c0, c1⟩ := line_cells (HL.out.later HF.out.below) hlt
      have hx := HIN.out j hlt
      have hst := HST.out j hlt
      have hlen := one_len t r (L.getD j l0)
      have hyes := item_yes t r (L.getD j l0)
      have hno := item_no t r (L.getD j l0)
      generalize hxx : L.getD j l0 = x at *
      obtain ⟨s, q⟩ := x
      have HXX := Lib.hid hxx
      clear hxx
      dsimp only at c0 c1 hx hyes hno
      by_cases hq : 1 ≤ q
      · have hd : decide (1 ≤ q) = true := decide_eq_true hq
        rw [hyes hq] at hst
        have hadd := fun W => rone_any t r (s, q) W hx hq
        generalize oneS t r (s, q) = M at *
        have HS := Lib.hid hst
        have HM := Lib.hid hlen
        have HFD := Lib.hid (HF.out.later (show Below wr.heap.size wr wr.drew from (Below.refl _ _).drew))
        have hbd := HFD.out.below
        have HBX : Hid (∀ w', Below W1.heap.size W1 w' → w'.cell? ⟨W.heap.size, 0, none⟩ = some (.int .u8 t) ∧ w'.cell? ⟨W.heap.size, 1, none⟩ = some (.int .u8 r) ∧ w'.cell? ⟨W.heap.size, 2, none⟩ = some (.slice (some ⟨b, off, none⟩) n c)) := Lib.hid fun w' h => cells_step (block_later HX.out h)
        have HLN : Hid (∀ w', Below W1.heap.size W1 w' → w'.cell? ⟨b, off + j * 2, none⟩ = some (.int .u8 s) ∧ w'.cell? ⟨b, off + j * 2 + 1, none⟩ = some (.int .i64 q)) := Lib.hid fun w' h => by
          obtain ⟨b', off', he, _, d0, d1⟩ := line_cells (HL.out.later h) hlt
          cases he
          rw [HXX.out] at d0 d1
          exact ⟨d0, d1⟩
        clear hx hst hyes hno hlen hq
        go_wp2_with fail
        refine wp_region_held_drew (S := fun w' => Hid (Below W1.heap.size W1 w')) (by kernel_rfl) (Lib.hid hbd) (fun hHeld => ?_)
        clear hbd
        refine wpAnyH_take (i := 0) (oi := ⟨some 19, _, _, _, _, _⟩) (v := u3) rfl (by kernel_rfl) (by kernel_rfl) (by kernel_rfl) (fun _ _ _ h => h) (Or.inl ⟨by rfl, fun w' hw' => ?_⟩) (by assumption) ?_
        · clear hHeld
          go_simp
        simp only [Act.put, List.setIfInBounds_toArray, List.set_cons_zero, List.set_cons_succ]
        refine wpAnyH_take (i := 1) (oi := ⟨some 20, _, _, _, _, _⟩) (v := .pointer (some ⟨W.heap.size, 0, none⟩)) rfl (by kernel_rfl) (by kernel_rfl) (by kernel_rfl) (fun _ _ _ h => h) (Or.inl ⟨by rfl, fun w' hw' => ?_⟩) (by assumption) ?_
        · clear hHeld
          go_simp
        simp only [Act.put, List.setIfInBounds_toArray, List.set_cons_zero, List.set_cons_succ]
        refine wpAnyH_take (i := 2) (oi := ⟨some 21, _, _, _, _, _⟩) (v := .int .u8 t) rfl (by kernel_rfl) (by kernel_rfl) (by kernel_rfl) (fun _ _ _ h => h) (Or.inl ⟨by rfl, fun w' hw' => ?_⟩) (by assumption) ?_
        · obtain ⟨g0, g1, g2⟩ := HBX.out w' hw'.out
          clear hHeld
          go_simp
        simp only [Act.put, List.setIfInBounds_toArray, List.set_cons_zero, List.set_cons_succ]
        refine wpAnyH_take (i := 3) (oi := ⟨some 22, _, _, _, _, _⟩) (v := .pointer (some ⟨W.heap.size, 1, none⟩)) rfl (by kernel_rfl) (by kernel_rfl) (by kernel_rfl) (fun _ _ _ h => h) (Or.inl ⟨by rfl, fun w' hw' => ?_⟩) (by assumption) ?_
        · clear hHeld
          go_simp
        simp only [Act.put, List.setIfInBounds_toArray, List.set_cons_zero, List.set_cons_succ]
        refine wpAnyH_take (i := 4) (oi := ⟨some 23, _, _, _, _, _⟩) (v := .int .u8 r) rfl (by kernel_rfl) (by kernel_rfl) (by kernel_rfl) (fun _ _ _ h => h) (Or.inl ⟨by rfl, fun w' hw' => ?_⟩) (by assumption) ?_
        · obtain ⟨g0, g1, g2⟩ := HBX.out w' hw'.out
          clear hHeld
          go_simp
        simp only [Act.put, List.setIfInBounds_toArray, List.set_cons_zero, List.set_cons_succ]
        refine wpAnyH_take (i := 5) (oi := ⟨some 24, _, _, _, _, _⟩) (v := .pointer (some ⟨W.heap.size, 2, none⟩)) rfl (by kernel_rfl) (by kernel_rfl) (by kernel_rfl) (fun _ _ _ h => h) (Or.inl ⟨by rfl, fun w' hw' => ?_⟩) (by assumption) ?_
        · clear hHeld
          go_simp
        simp only [Act.put, List.setIfInBounds_toArray, List.set_cons_zero, List.set_cons_succ]
        refine wpAnyH_take (i := 6) (oi := ⟨some 25, _, _, _, _, _⟩) (v := .slice (some ⟨b, off, none⟩) n c) rfl (by kernel_rfl) (by kernel_rfl) (by kernel_rfl) (fun _ _ _ h => h) (Or.inl ⟨by rfl, fun w' hw' => ?_⟩) (by assumption) ?_
        · obtain ⟨g0, g1, g2⟩ := HBX.out w' hw'.out
          clear hHeld
          go_simp
        simp only [Act.put, List.setIfInBounds_toArray, List.set_cons_zero, List.set_cons_succ]
        refine wpAnyH_take (i := 7) (oi := ⟨some 26, _, _, _, _, _⟩) (v := .int .i64 (j : Nat)) rfl (by kernel_rfl) (by kernel_rfl) (by kernel_rfl) (fun _ _ _ h => h) (Or.inl ⟨by rfl, fun w' hw' => ?_⟩) (by assumption) ?_
        · clear hHeld
          go_simp
        simp only [Act.put, List.setIfInBounds_toArray, List.set_cons_zero, List.set_cons_succ]
        refine wpAnyH_take (i := 8) (oi := ⟨some 27, _, _, _, _, _⟩) (v := .pointer (some ⟨b, off + j * 2, none⟩)) rfl (by kernel_rfl) (by kernel_rfl) (by kernel_rfl) (fun _ _ _ h => h) (Or.inl ⟨by rfl, fun w' hw' => ?_⟩) (by assumption) ?_
        · clear hHeld
          go_simp
        simp only [Act.put, List.setIfInBounds_toArray, List.set_cons_zero, List.set_cons_succ]
        refine wpAnyH_take (i := 9) (oi := ⟨some 28, _, _, _, _, _⟩) (v := .agg #[.int .u8 s, .int .i64 q]) rfl (by kernel_rfl) (by kernel_rfl) (by kernel_rfl) (fun _ _ _ h => h) (Or.inl ⟨by rfl, fun w' hw' => ?_⟩) (by assumption) ?_
        · obtain ⟨g0, g1⟩ := HLN.out w' hw'.out
          clear hHeld
          go_simp
        simp only [Act.put, List.setIfInBounds_toArray, List.set_cons_zero, List.set_cons_succ]
        generalize wr.drew = Wd at *
        refine wpAnyH_ready (rs := [10]) (by kernel_rfl) (by simp) (AllReadyH.cons rfl (fun K hK => ?_) AllReadyH.nil)
        go_simp
        go_wp2_with fail
        refine (hadd _).mono ?_
        rintro e w2 ⟨p2, c2, rfl, hs2, hb2, _⟩
        have HF2 := Lib.hid (HFD.out.later hb2)
        have HS2 := Lib.hid hs2
        have HM2 := HM.out
        clear hs2 hb2 HFD hadd
        go_wp2_with fail
        refine hK.out _ _ (Lib.hid HF2.out.below) (fun hHeld2 => ?_)
        clear hK K hHeld
        have hHeld := hHeld2
        clear hHeld2
        try simp only [Act.put, List.setIfInBounds_toArray, List.set_cons_zero, List.set_cons_succ]
        refine wpAnyH_ready (rs := [11]) (by kernel_rfl) (by simp) (AllReadyH.cons rfl (fun K hK => ?_) AllReadyH.nil)
        refine step_append_fill rfl (.tmp 19) (.tmp 29) rfl u3 _ _ (by simp [Act.eval]) HF2.out p2 _ c2 M (by simp [Act.eval]) HS2.out (by omega) ?_
        intro p3 n3 c3 w3 h3
        have HF3 := Lib.hid h3
        clear h3 HF2
        refine hK.out _ _ (Lib.hid HF3.out.below) (fun hHeld2 => ?_)
        clear hK K hHeld
        have hHeld := hHeld2
        clear hHeld2
        try simp only [Act.put, List.setIfInBounds_toArray, List.set_cons_zero, List.set_cons_succ]
        refine wpAnyH_take (i := 12) (oi := ⟨some 3, _, _, _, _, _⟩) (v := .slice p3 n3 c3) rfl (by kernel_rfl) (by kernel_rfl) (by kernel_rfl) (fun _ _ _ h => h) (Or.inl ⟨by rfl, fun w' hw' => ?_⟩) (by assumption) ?_
        · clear hHeld
          go_simp
        simp only [Act.put, List.setIfInBounds_toArray, List.set_cons_zero, List.set_cons_succ]
        refine wpAnyH_done (by kernel_rfl) ?_ _
        clear hHeld
        go_wp2_with fail
        go_roundw
        case rel => exact ⟨j + 1, by omega, by go_num, Lib.hid (by rw [HS.out]; exact HF3.out.mono (by omega))⟩
        case measure => simp [Go.RowKit.intOf]; omega
      · have hd : decide (1 ≤ q) = false := decide_eq_false hq
        rw [hno hq, List.append_nil] at hst
        have HS := Lib.hid hst
        clear hx hst hyes hno hlen hq
        go_wp2_with fail
        go_roundw
        case rel => exact ⟨j + 1, by omega, by go_num, Lib.hid (by rw [HS.out]; exact HF.out.mono (by omega))⟩
        case measure => simp [Go.RowKit.intOf]; omega
    · obtain rfl : j = n := by omega
      go_wp2_with fail
      go_ret
      have := HF.out.gives (d := o0) oc_len (by decide)
      rw [HEND.out] at this
      exact this.since HB1.out

set_option maxHeartbeats 1000000 in
theorem undo_any (t r : Int) (p : Option Addr) (n c : Nat) (L : List Ln) (W : World) (hL : LL W p n c L) (hok : ∀ x ∈ L, Lnok x) (hr : 0 ≤ r ∧ r ≤ 255) (hn : n ≤ 1000) :
    Calls Tryd.prog 15 #[.agg #[.int .u8 t, .int .u8 r, .slice p n c]] W (GivesO W (negF (opsS t r L))) := by
  have hb1 : Below W.heap.size W (W.alloc (.cells #[.int .u8 t, .int .u8 r, .slice p n c] 24)) := (Below.refl _ _).alloc (Nat.le_refl _) _
  have HB1 := Lib.hid hb1
  have hop := ops_any t r p n c L _ (hL.later hb1) hok hn
  have HNB := Lib.hid (negB_ops t r L hr hok)
  have HOK := Lib.hid fun o ho => (opsS_ok t r L hr hok o ho).1
  have HLE : Hid ((opsS t r L).length ≤ 2000) := Lib.hid (by have := opsS_len t r L; rw [hL.len] at this; omega)
  generalize opsS t r L = M at *
  clear hL hok hb1
  go_enter Tryd.func15, Tryd.ntmps15
  go_wp2_with fail
  refine hop.mono ?_
  rintro e w2 ⟨p2, c2, rfl, hs2, hb2, _⟩
  have HB2 := Lib.hid (HB1.out.trans (hb2.mono HB1.out.size))
  have hne := neg_o p2 _ c2 M w2 hs2 HOK.out (by have := HLE.out; omega)
  rw [HNB.out, negV_true HNB.out] at hne
  clear hop hb2 hs2
  generalize M.length = m at *
  go_wp2_with fail
  refine hne.mono ?_
  rintro e w3 ⟨p3, c3, rfl, hs3, hb3, hp3⟩
  have HG : Hid (GivesO W (negF M) (.returned (.slice p3 (negF M).length c3)) w3) := Lib.hid ⟨p3, c3, rfl, hs3, HB2.out.trans (hb3.mono HB2.out.size), fun a ha => Nat.le_trans HB2.out.size (hp3 a ha)⟩
  clear hne hs3 hb3 hp3
  generalize (negF M).length = k at *
  go_wp2_with fail
  go_ret
  exact HG.out

set_option maxHeartbeats 1000000 in
theorem refundo_any (t r : Int) (p : Option Addr) (n c : Nat) (L : List Ln) (W : World) (hL : LL W p n c L) (hok : ∀ x ∈ L, Lnok x) (hr : 0 ≤ r ∧ r ≤ 255) (hn : n ≤ 1000) :
    Calls Tryd.prog 16 #[.agg #[.int .u8 t, .int .u8 r, .slice p n c]] W (GivesO W (negF (opsS t r L))) := by
  have hb1 : Below W.heap.size W (W.alloc (.cells #[.int .u8 t, .int .u8 r, .slice p n c] 24)) := (Below.refl _ _).alloc (Nat.le_refl _) _
  have HB1 := Lib.hid hb1
  have hop := refops_any t r p n c L _ (hL.later hb1) hok hn
  have hmi : ∀ j, j < (opsS t r L).length → In64 (-((opsS t r L).getD j o0).2) := fun j hj => by
    rw [List.getD, List.getElem?_eq_getElem hj]
    exact (opsS_ok t r L hr hok _ (List.getElem_mem hj)).2.1
  have HMI := Lib.hid hmi
  have HLE : Hid ((opsS t r L).length ≤ 2000) := Lib.hid (by have := opsS_len t r L; rw [hL.len] at this; omega)
  generalize opsS t r L = M at *
  clear hL hok hb1 hmi
  go_enter Tryd.func16, Tryd.ntmps16
  go_wp2_with fail
  refine hop.mono ?_
  rintro e w2 ⟨p2, c2, rfl, hs2, hb2, _⟩
  have HB2 := Lib.hid (HB1.out.trans (hb2.mono HB1.out.size))
  have HS2 := Lib.hid hs2
  have HGS := Lib.hid fun j (hj : j < M.length) => gathN_step M j hj
  have HGE : Hid (gathN M M.length = []) := Lib.hid (gathN_start M _ rfl)
  have hc2 := hs2.cap
  clear hop hb2 hs2
  generalize M.length = m at *
  have hm := HLE.out
  go_wp2_with fail
  obtain ⟨W2, hW2⟩ : ∃ W2, W2 = w2 := ⟨_, rfl⟩
  subst hW2
  go_loopw [4, 5] (fun v i wr => ∃ t : Nat, t ≤ m ∧ i = .int .i64 ((t : Int) - 1) ∧ Hid (FillO W2 wr v (gathN M t) (m - t))) (fun _ i _ => (Go.RowKit.intOf i + 1).toNat)
  case atStart => exact ⟨m, Nat.le_refl _, by go_num, Lib.hid (by rw [HGE.out, Nat.sub_self]; exact FillG.nil W2)⟩
  case round =>
    obtain ⟨t, ht, rfl, HF⟩ := hrel
    by_cases h0 : t = 0
    · subst h0
      have hd : decide (0 ≤ ((0 : Nat) : Int) - 1) = false := by decide
      go_wp2_with fail
      go_ret
      have := HF.out.gives (d := o0) oc_len (by decide)
      rw [gathN_end M] at this
      exact this.since HB2.out
    · obtain ⟨j, rfl⟩ : ∃ j, t = j + 1 := ⟨t - 1, by omega⟩
      have hlt : j < m := by omega
      have hlt' : (j : Int) < m := by omega
      obtain ⟨b, off, rfl, _, k0, k1, k2, k3⟩ := op_cells (HS2.out.later HF.out.below) hlt
      have hx := HMI.out j hlt
      have hst := HGS.out j hlt
      generalize hxx : M.getD j o0 = x at *
      have HXX := Lib.hid hxx
      clear hxx
      have hw : IntKind.i64.wrap (-x.2) = -x.2 := IntWalk.i64_in _ hx
      have HS := Lib.hid hst
      have HFD := Lib.hid (HF.out.later (show Below wr.heap.size wr wr.drew from (Below.refl _ _).drew))
      have hbd := HFD.out.below
      have hji : ((j + 1 : Nat) : Int) - 1 = j := by omega
      have HOC : Hid (∀ w', Below W2.heap.size W2 w' → w'.cell? ⟨b, off + j * 4, none⟩ = some (.int .u8 x.1.1) ∧ w'.cell? ⟨b, off + j * 4 + 1, none⟩ = some (.int .u8 x.1.2.1) ∧ w'.cell? ⟨b, off + j * 4 + 2, none⟩ = some (.int .u8 x.1.2.2) ∧ w'.cell? ⟨b, off + j * 4 + 3, none⟩ = some (.int .i64 x.2)) := Lib.hid fun w' h => by
        obtain ⟨b', off', he, _, d0, d1, d2, d3⟩ := op_cells (HS2.out.later h) hlt
        cases he
        rw [HXX.out] at d0 d1 d2 d3
        exact ⟨d0, d1, d2, d3⟩
      clear hst hx
      go_wp2_with fail
      refine wp_region_held_drew (S := fun w' => Hid (Below W2.heap.size W2 w')) (by kernel_rfl) (Lib.hid hbd) (fun hHeld => ?_)
      clear hbd
      refine wpAnyH_take (i := 0) (oi := ⟨some 15, _, _, _, _, _⟩) (v := u4) rfl (by kernel_rfl) (by kernel_rfl) (by kernel_rfl) (fun _ _ _ h => h) (Or.inl ⟨by rfl, fun w' hw' => ?_⟩) (by assumption) ?_
      · clear hHeld
        go_simp
      simp only [Act.put, List.setIfInBounds_toArray, List.set_cons_zero, List.set_cons_succ]
      refine wpAnyH_take (i := 1) (oi := ⟨some 16, _, _, _, _, _⟩) (v := .slice (some ⟨b, off, none⟩) m c2) rfl (by kernel_rfl) (by kernel_rfl) (by kernel_rfl) (fun _ _ _ h => h) (Or.inl ⟨by rfl, fun w' hw' => ?_⟩) (by assumption) ?_
      · clear hHeld
        go_simp
      simp only [Act.put, List.setIfInBounds_toArray, List.set_cons_zero, List.set_cons_succ]
      refine wpAnyH_take (i := 2) (oi := ⟨some 17, _, _, _, _, _⟩) (v := .int .i64 (j : Nat)) rfl (by kernel_rfl) (by kernel_rfl) (by kernel_rfl) (fun _ _ _ h => h) (Or.inl ⟨by rfl, fun w' hw' => ?_⟩) (by assumption) ?_
      · clear hHeld
        go_simp
      simp only [Act.put, List.setIfInBounds_toArray, List.set_cons_zero, List.set_cons_succ]
      refine wpAnyH_take (i := 3) (oi := ⟨some 18, _, _, _, _, _⟩) (v := .pointer (some ⟨b, off + j * 4, none⟩)) rfl (by kernel_rfl) (by kernel_rfl) (by kernel_rfl) (fun _ _ _ h => h) (Or.inl ⟨by rfl, fun w' hw' => ?_⟩) (by assumption) ?_
      · clear hHeld
        go_simp
      simp only [Act.put, List.setIfInBounds_toArray, List.set_cons_zero, List.set_cons_succ]
      refine wpAnyH_take (i := 4) (oi := ⟨some 19, _, _, _, _, _⟩) (v := .pointer (some ⟨b, off + j * 4, none⟩)) rfl (by kernel_rfl) (by kernel_rfl) (by kernel_rfl) (fun _ _ _ h => h) (Or.inl ⟨by rfl, fun w' hw' => ?_⟩) (by assumption) ?_
      · clear hHeld
        go_simp
      simp only [Act.put, List.setIfInBounds_toArray, List.set_cons_zero, List.set_cons_succ]
      refine wpAnyH_take (i := 5) (oi := ⟨some 20, _, _, _, _, _⟩) (v := .agg #[.int .u8 x.1.1, .int .u8 x.1.2.1, .int .u8 x.1.2.2]) rfl (by kernel_rfl) (by kernel_rfl) (by kernel_rfl) (fun _ _ _ h => h) (Or.inl ⟨by rfl, fun w' hw' => ?_⟩) (by assumption) ?_
      · obtain ⟨g0, g1, g2, g3⟩ := HOC.out w' hw'.out
        clear hHeld
        go_simp
      simp only [Act.put, List.setIfInBounds_toArray, List.set_cons_zero, List.set_cons_succ]
      refine wpAnyH_take (i := 6) (oi := ⟨some 21, _, _, _, _, _⟩) (v := .slice (some ⟨b, off, none⟩) m c2) rfl (by kernel_rfl) (by kernel_rfl) (by kernel_rfl) (fun _ _ _ h => h) (Or.inl ⟨by rfl, fun w' hw' => ?_⟩) (by assumption) ?_
      · clear hHeld
        go_simp
      simp only [Act.put, List.setIfInBounds_toArray, List.set_cons_zero, List.set_cons_succ]
      refine wpAnyH_take (i := 7) (oi := ⟨some 22, _, _, _, _, _⟩) (v := .int .i64 (j : Nat)) rfl (by kernel_rfl) (by kernel_rfl) (by kernel_rfl) (fun _ _ _ h => h) (Or.inl ⟨by rfl, fun w' hw' => ?_⟩) (by assumption) ?_
      · clear hHeld
        go_simp
      simp only [Act.put, List.setIfInBounds_toArray, List.set_cons_zero, List.set_cons_succ]
      refine wpAnyH_take (i := 8) (oi := ⟨some 23, _, _, _, _, _⟩) (v := .pointer (some ⟨b, off + j * 4, none⟩)) rfl (by kernel_rfl) (by kernel_rfl) (by kernel_rfl) (fun _ _ _ h => h) (Or.inl ⟨by rfl, fun w' hw' => ?_⟩) (by assumption) ?_
      · clear hHeld
        go_simp
      simp only [Act.put, List.setIfInBounds_toArray, List.set_cons_zero, List.set_cons_succ]
      refine wpAnyH_take (i := 9) (oi := ⟨some 24, _, _, _, _, _⟩) (v := .pointer (some ⟨b, off + j * 4 + 3, none⟩)) rfl (by kernel_rfl) (by kernel_rfl) (by kernel_rfl) (fun _ _ _ h => h) (Or.inl ⟨by rfl, fun w' hw' => ?_⟩) (by assumption) ?_
      · clear hHeld
        go_simp
      simp only [Act.put, List.setIfInBounds_toArray, List.set_cons_zero, List.set_cons_succ]
      refine wpAnyH_take (i := 10) (oi := ⟨some 25, _, _, _, _, _⟩) (v := .int .i64 x.2) rfl (by kernel_rfl) (by kernel_rfl) (by kernel_rfl) (fun _ _ _ h => h) (Or.inl ⟨by rfl, fun w' hw' => ?_⟩) (by assumption) ?_
      · obtain ⟨g0, g1, g2, g3⟩ := HOC.out w' hw'.out
        clear hHeld
        go_simp
      simp only [Act.put, List.setIfInBounds_toArray, List.set_cons_zero, List.set_cons_succ]
      refine wpAnyH_take (i := 11) (oi := ⟨some 26, _, _, _, _, _⟩) (v := .int .i64 (-x.2)) rfl (by kernel_rfl) (by kernel_rfl) (by kernel_rfl) (fun _ _ _ h => h) (Or.inl ⟨by rfl, fun w' hw' => ?_⟩) (by assumption) ?_
      · clear hHeld
        go_simp
      simp only [Act.put, List.setIfInBounds_toArray, List.set_cons_zero, List.set_cons_succ]
      refine wpAnyH_take (i := 12) (oi := ⟨some 27, _, _, _, _, _⟩) (v := .agg #[.int .u8 x.1.1, .int .u8 x.1.2.1, .int .u8 x.1.2.2, .int .i64 (-x.2)]) rfl (by kernel_rfl) (by kernel_rfl) (by kernel_rfl) (fun _ _ _ h => h) (Or.inl ⟨by rfl, fun w' hw' => ?_⟩) (by assumption) ?_
      · clear hHeld
        go_simp
      simp only [Act.put, List.setIfInBounds_toArray, List.set_cons_zero, List.set_cons_succ]
      generalize wr.drew = Wd at *
      refine wpAnyH_ready (rs := [13]) (by kernel_rfl) (by simp) (AllReadyH.cons rfl (fun K hK => ?_) AllReadyH.nil)
      go_simp
      have hba : Below Wd.heap.size Wd (Wd.alloc (.cells #[.int .u8 x.1.1, .int .u8 x.1.2.1, .int .u8 x.1.2.2, .int .i64 (-x.2)] 39)) := (Below.refl _ _).alloc (Nat.le_refl _) _
      have HF2 := Lib.hid (HFD.out.later hba)
      have HS2 := Lib.hid (ol_one Wd (x.1, -x.2))
      clear hba HFD
      refine hK.out _ _ (Lib.hid HF2.out.below) (fun hHeld2 => ?_)
      clear hK K hHeld
      have hHeld := hHeld2
      clear hHeld2
      try simp only [Act.put, List.setIfInBounds_toArray, List.set_cons_zero, List.set_cons_succ]
      refine wpAnyH_ready (rs := [14]) (by kernel_rfl) (by simp) (AllReadyH.cons rfl (fun K hK => ?_) AllReadyH.nil)
      refine step_append_fill rfl (.tmp 15) (.tmp 28) rfl u4 _ _ (by simp [Act.eval]) HF2.out (some ⟨Wd.heap.size, 0, none⟩) 1 1 [(x.1, -x.2)] (by simp [Act.eval]) HS2.out (by omega) ?_
      intro p3 n3 c3 w3 h3
      have HF3 := Lib.hid h3
      clear h3 HF2
      refine hK.out _ _ (Lib.hid HF3.out.below) (fun hHeld2 => ?_)
      clear hK K hHeld
      have hHeld := hHeld2
      clear hHeld2
      try simp only [Act.put, List.setIfInBounds_toArray, List.set_cons_zero, List.set_cons_succ]
      refine wpAnyH_take (i := 15) (oi := ⟨some 4, _, _, _, _, _⟩) (v := .slice p3 n3 c3) rfl (by kernel_rfl) (by kernel_rfl) (by kernel_rfl) (fun _ _ _ h => h) (Or.inl ⟨by rfl, fun w' hw' => ?_⟩) (by assumption) ?_
      · clear hHeld
        go_simp
      simp only [Act.put, List.setIfInBounds_toArray, List.set_cons_zero, List.set_cons_succ]
      refine wpAnyH_done (by kernel_rfl) ?_ _
      clear hHeld
      go_wp2_with fail
      go_roundw
      case rel => exact ⟨j, by omega, by go_num, Lib.hid (by rw [HS.out]; exact HF3.out.mono (by omega))⟩
      case measure => simp [Go.RowKit.intOf]
end Go.Proofs.YtnmdplefedffnaaDoor
