import Derived.Test.YtmdldbchdnkfcaaPA29
import Derived.Test.YtmdldbchdnkfcaaPA30
namespace Go.Proofs.Ytmdldbchdnkfcaa
open Go.RowKit Go.ChangeShapes Go.WideShapes
set_option linter.unusedVariables false
set_option linter.unusedSimpArgs false
set_option maxRecDepth 10000
abbrev FD := K × Int × Int × Int
abbrev fd0 : FD := ((0, 0, 0), 0, 0, 0)
def fdc (x : FD) : List Value := [.int .u8 x.1.1, .int .u8 x.1.2.1, .int .u8 x.1.2.2, .int .i64 x.2.1, .int .i64 x.2.2.1, .int .i64 x.2.2.2]
abbrev FDL (w : World) (p : Option Addr) (n c : Nat) (L : List FD) : Prop := SlG fdc 6 fd0 w p n c L
def FDok (x : FD) : Prop := Kok x.1 ∧ I64 x.2.1 ∧ I64 x.2.2.1 ∧ I64 x.2.2.2
theorem fdcells {w : World} {p : Option Addr} {n c : Nat} {L : List FD} (h : FDL w p n c L) {j : Nat} (hj : j < n) : ∃ b off, p = some ⟨b, off, none⟩ ∧ b < w.heap.size ∧ w.cell? ⟨b, off + j * 6, none⟩ = some (.int .u8 (L.getD j fd0).1.1) ∧ w.cell? ⟨b, off + j * 6 + 1, none⟩ = some (.int .u8 (L.getD j fd0).1.2.1) ∧ w.cell? ⟨b, off + j * 6 + 2, none⟩ = some (.int .u8 (L.getD j fd0).1.2.2) ∧ w.cell? ⟨b, off + j * 6 + 3, none⟩ = some (.int .i64 (L.getD j fd0).2.1) ∧ w.cell? ⟨b, off + j * 6 + 4, none⟩ = some (.int .i64 (L.getD j fd0).2.2.1) ∧ w.cell? ⟨b, off + j * 6 + 5, none⟩ = some (.int .i64 (L.getD j fd0).2.2.2) := by
 obtain ⟨b, off, rfl, hlt, hc⟩ := h.cell (by omega)
 exact ⟨b, off, rfl, hlt, hc j hj 0 _ rfl, hc j hj 1 _ rfl, hc j hj 2 _ rfl, hc j hj 3 _ rfl, hc j hj 4 _ rfl, hc j hj 5 _ rfl⟩
theorem cell_b {w w' : World} {a : Addr} {v : Value} (h : w.cell? a = some v) (hb : Below w.heap.size w w') : w'.cell? a = some v := (hb.cell (World.block_lt_of_cell? _ _ h)).trans h
structure SN (bb oo G : Nat) (k : K) (gc : Array Value) (w : World) : Prop where
 a : w.cell? ⟨bb, oo, none⟩ = some (.int .u8 k.1)
 b : w.cell? ⟨bb, oo + 1, none⟩ = some (.int .u8 k.2.1)
 c : w.cell? ⟨bb, oo + 2, none⟩ = some (.int .u8 k.2.2)
 g : w.heap[G]? = some (.cells gc 42 (0, 0))
theorem SN.later {bb oo G : Nat} {k : K} {gc : Array Value} {w w' : World} (h : SN bb oo G k gc w) (hb : Below w.heap.size w w') : SN bb oo G k gc w' :=
 ⟨cell_b h.a hb, cell_b h.b hb, cell_b h.c hb, block_later h.g hb⟩
theorem grantF_fok' {f : Fv} {d : Int} (hf : Fok f) : Fok (grantF f d) := by
 by_cases h : grantE f d = 0
 · rw [grantF_ok h]; exact (grant_good hf h).2
 · rw [grantF_bad h]; exact hf
theorem moveF_fok' {f : Fv} {d mv mb mn mf : Int} (hf : Fok f) : Fok (moveF f d mv mb mn mf) := by
 unfold moveF
 split
 · rename_i h; exact h.2.1
 · exact hf
def fnewOne (S : List FW) (x : FD) : List FW := if x.2.1 ≤ x.2.2.1 ∧ x.2.2.1 ≤ x.2.2.2 then putG S x.1 ⟨x.2.1, x.2.2.2, x.2.2.1, x.2.2.1, x.2.2.1, x.2.2.1⟩ else S
def fnewL (L : List FD) : List FW := L.foldl fnewOne []
theorem fnewL_take (L : List FD) (j : Nat) (h : j < L.length) : fnewL (L.take (j + 1)) = fnewOne (fnewL (L.take j)) (L.getD j fd0) := by
 unfold fnewL
 rw [List.take_succ_eq_append_getElem h, List.foldl_append, List.getD, List.getElem?_eq_getElem h]
 rfl
theorem putG_len (k : K) (v : Fv) : ∀ M : List FW, (putG M k v).length ≤ M.length + 1
 | [] => by simp [putG]
 | r :: M => by
  have ih := putG_len k v M
  unfold putG
  split
  · simp only [List.length_cons]; omega
  · have : (delG (r :: M) k).length ≤ (r :: M).length := List.length_filter_le _ _
    simp only [List.length_cons] at *
    omega
theorem fnewL_len : ∀ (L : List FD) (S : List FW), (L.foldl fnewOne S).length ≤ S.length + L.length
 | [], S => by simp
 | x :: L, S => by
  rw [List.foldl_cons]
  have h := fnewL_len L (fnewOne S x)
  have h2 : (fnewOne S x).length ≤ S.length + 1 := by
   unfold fnewOne
   split
   · exact putG_len _ _ _
   · omega
  simp only [List.length_cons]
  omega
set_option maxHeartbeats 4000000 in
theorem fwnew_any (p : Option Addr) (n c : Nat) (L : List FD) (W : World) (hL : FDL W p n c L) (hn : n ≤ 1000) :
 Calls Try.prog 9 #[.slice p n c] W fun e w' => ∃ r m d, e = .returned (.slice r m d) ∧ FWL w' r m d (fnewL L) ∧ Below W.heap.size W w' ∧ ∀ a, r = some a → W.heap.size ≤ a.block := by
 have HL := Lib.hid hL
 have HLN := Lib.hid hL.len
 have HST := Lib.hid fun j (hj : j < n) => fnewL_take L j (by rw [hL.len]; exact hj)
 have HLE := Lib.hid fun j (hj : j ≤ n) => (show (fnewL (L.take j)).length ≤ j from by have := fnewL_len (L.take j) []; simp only [List.length_take, List.length_nil] at this; exact Nat.le_trans this (by omega))
 have HEND : Hid (fnewL (L.take n) = fnewL L) := Lib.hid (by rw [List.take_of_length_le (by rw [hL.len]; exact Nat.le_refl _)])
 have hcap := hL.cap
 have hmax := hL.max
 unfold maxLen at hmax
 clear hL
 go_enter Try.func9, Try.ntmps9
 go_wp2_with fail
 go_loopw [3, 4] (fun v i wr => ∃ (j : Nat) (r : Option Addr) (m d : Nat), j ≤ n ∧ i = .int .i64 (j : Int) ∧ v = .slice r m d ∧ Hid (FWL wr r m d (fnewL (L.take j))) ∧ Hid (Below W.heap.size W wr) ∧ Hid (∀ a, r = some a → W.heap.size ≤ a.block)) (fun _ i _ => n - (Go.RowKit.intOf i).toNat)
 case atStart => exact ⟨0, none, 0, 0, Nat.zero_le _, rfl, rfl, Lib.hid (SlG.empty _), Lib.hid (Below.refl _ _), Lib.hid (fun a ha => by cases ha)⟩
 case round =>
  obtain ⟨j, r, m, d, hj, rfl, rfl, HF, HB, HR⟩ := hrel
  by_cases hlt : j < n
  · have t1 : (j : Int) < n := by omega
    obtain ⟨b, off, rfl, hbl, c0, c1, c2, c3, c4, c5⟩ := fdcells (HL.out.later HB.out) hlt
    have hst := HST.out j hlt
    have hle := HLE.out j hj
    rw [HF.out.len] at hle
    generalize L.getD j fd0 = x at *
    obtain ⟨k, lo, init, hi⟩ := x
    have HC := Lib.hid (And.intro c0 (And.intro c1 c2))
    have hnw := fun w => rnew_any k.1 k.2.1 k.2.2 lo init hi w
    have HHB := Lib.hid hbl
    obtain ⟨s', hs'⟩ : ∃ s', fnewL (L.take (j + 1)) = s' := ⟨_, rfl⟩
    rw [hs'] at hst
    have HSE := Lib.hid hs'
    generalize fnewL (L.take j) = S at *
    clear hs'
    by_cases hok : lo ≤ init ∧ init ≤ hi
    · rw [show newF lo init hi = (⟨lo, hi, init, init, init, init⟩, 0) from if_pos hok] at hnw
      have hs : s' = putG S k ⟨lo, hi, init, init, init, init⟩ := hst.trans (if_pos hok)
      have HS := Lib.hid hs
      have HN := Lib.hid hnw
      have HOK := Lib.hid hok
      clear hst hs hnw hok hbl
      go_wp2_with fail
      clear c0 c1 c2 c3 c4 c5
      refine (HN.out _).mono ?_
      rintro e1 w1 ⟨rfl, hb1⟩
      have hbn : Below w1.heap.size w1 (w1.alloc (.cells #[.int .i64 lo, .int .i64 hi, .int .i64 init, .int .i64 init, .int .i64 init, .int .i64 init] 42)) := (Below.refl _ _).alloc (Nat.le_refl _) _
      have HG1 := Lib.hid (alloc_block w1 (.cells #[.int .i64 lo, .int .i64 hi, .int .i64 init, .int .i64 init, .int .i64 init, .int .i64 init] 42))
      have HB1 := Lib.hid (HB.out.trans ((hb1.trans (hbn.mono hb1.size)).mono HB.out.size))
      have HF1 := Lib.hid (HF.out.later (hb1.trans (hbn.mono hb1.size)))
      have HD0 := Lib.hid (cell_b HC.out.1 (hb1.trans (hbn.mono hb1.size)))
      have HD1 := Lib.hid (cell_b HC.out.2.1 (hb1.trans (hbn.mono hb1.size)))
      have HD2 := Lib.hid (cell_b HC.out.2.2 (hb1.trans (hbn.mono hb1.size)))
      clear hb1 hbn
      go_upto_region 6 with (fail)
      generalize w1.alloc (.cells #[.int .i64 lo, .int .i64 hi, .int .i64 init, .int .i64 init, .int .i64 init, .int .i64 init] 42) = W1 at *
      generalize w1.heap.size = G at *
      go_wp2_with fail
      have hbd : SN b (off + j * 6) G k #[.int .i64 lo, .int .i64 hi, .int .i64 init, .int .i64 init, .int .i64 init, .int .i64 init] W1.drew := ⟨HD0.out, HD1.out, HD2.out, HG1.out⟩
      have HB2 := Lib.hid (below_drewN HB1.out 1)
      have HB3 : Hid (Below W.heap.size W W1.drew) := Lib.hid HB2.out
      have HF3 : Hid (FWL W1.drew r m d S) := Lib.hid (HF1.out.later (Below.refl _ _).drew)
      clear HB2 HD0 HD1 HD2 HG1 HF1 HB1
      refine wp_region_held_drew (S := fun w' => Hid (SN b (off + j * 6) G k #[.int .i64 lo, .int .i64 hi, .int .i64 init, .int .i64 init, .int .i64 init, .int .i64 init] w')) (by kernel_rfl) (Lib.hid hbd) (fun hHeld => ?_)
      clear hbd
      generalize W1.drew = W2 at *
      refine wpAnyH_take (i := 0) (oi := ⟨some 23, _, _, _, _, _⟩) (v := .slice r m d) rfl (by kernel_rfl) (by kernel_rfl) (by kernel_rfl) (fun _ _ _ h => h) (Or.inl ⟨by rfl, fun w' hw' => ?_⟩) (by assumption) ?_
      · clear hHeld
        go_simp
      simp only [Act.put, List.setIfInBounds_toArray, List.set_cons_zero, List.set_cons_succ]
      refine wpAnyH_take (i := 1) (oi := ⟨some 24, _, _, _, _, _⟩) (v := .slice (some ⟨b, off, none⟩) n c) rfl (by kernel_rfl) (by kernel_rfl) (by kernel_rfl) (fun _ _ _ h => h) (Or.inl ⟨by rfl, fun w' hw' => ?_⟩) (by assumption) ?_
      · clear hHeld
        go_simp
      simp only [Act.put, List.setIfInBounds_toArray, List.set_cons_zero, List.set_cons_succ]
      refine wpAnyH_take (i := 2) (oi := ⟨some 25, _, _, _, _, _⟩) (v := .int .i64 (j : Int)) rfl (by kernel_rfl) (by kernel_rfl) (by kernel_rfl) (fun _ _ _ h => h) (Or.inl ⟨by rfl, fun w' hw' => ?_⟩) (by assumption) ?_
      · clear hHeld
        go_simp
      simp only [Act.put, List.setIfInBounds_toArray, List.set_cons_zero, List.set_cons_succ]
      refine wpAnyH_take (i := 3) (oi := ⟨some 26, _, _, _, _, _⟩) (v := .pointer (some ⟨b, off + j * 6, none⟩)) rfl (by kernel_rfl) (by kernel_rfl) (by kernel_rfl) (fun _ _ _ h => h) (Or.inl ⟨by rfl, fun w' hw' => ?_⟩) (by assumption) ?_
      · clear hHeld
        go_simp
      simp only [Act.put, List.setIfInBounds_toArray, List.set_cons_zero, List.set_cons_succ]
      refine wpAnyH_take (i := 4) (oi := ⟨some 27, _, _, _, _, _⟩) (v := .pointer (some ⟨b, off + j * 6, none⟩)) rfl (by kernel_rfl) (by kernel_rfl) (by kernel_rfl) (fun _ _ _ h => h) (Or.inl ⟨by rfl, fun w' hw' => ?_⟩) (by assumption) ?_
      · clear hHeld
        go_simp
      simp only [Act.put, List.setIfInBounds_toArray, List.set_cons_zero, List.set_cons_succ]
      refine wpAnyH_take (i := 5) (oi := ⟨some 28, _, _, _, _, _⟩) (v := .agg #[.int .u8 k.1, .int .u8 k.2.1, .int .u8 k.2.2]) rfl (by kernel_rfl) (by kernel_rfl) (by kernel_rfl) (fun _ _ _ h => h) (Or.inl ⟨by rfl, fun w' hw' => ?_⟩) (by assumption) ?_
      · have c0 := hw'.out.a; have c1 := hw'.out.b; have c2 := hw'.out.c
        clear hHeld
        go_simp
      simp only [Act.put, List.setIfInBounds_toArray, List.set_cons_zero, List.set_cons_succ]
      refine wpAnyH_take (i := 6) (oi := ⟨some 29, _, _, _, _, _⟩) (v := .agg #[.int .i64 lo, .int .i64 hi, .int .i64 init, .int .i64 init, .int .i64 init, .int .i64 init]) rfl (by kernel_rfl) (by kernel_rfl) (by kernel_rfl) (fun _ _ _ h => h) (Or.inl ⟨by rfl, fun w' hw' => ?_⟩) (by assumption) ?_
      · obtain ⟨c0, c1, c2, c3, c4, c5⟩ := fcells hw'.out.g
        clear hHeld
        go_simp
      simp only [Act.put, List.setIfInBounds_toArray, List.set_cons_zero, List.set_cons_succ]
      refine wpAnyH_take (i := 7) (oi := ⟨some 30, _, _, _, _, _⟩) (v := .agg #[.int .u8 k.1, .int .u8 k.2.1, .int .u8 k.2.2, .int .i64 lo, .int .i64 hi, .int .i64 init, .int .i64 init, .int .i64 init, .int .i64 init]) rfl (by kernel_rfl) (by kernel_rfl) (by kernel_rfl) (fun _ _ _ h => h) (Or.inl ⟨by rfl, fun w' hw' => ?_⟩) (by assumption) ?_
      · clear hHeld
        go_simp
      simp only [Act.put, List.setIfInBounds_toArray, List.set_cons_zero, List.set_cons_succ]
      refine wpAnyH_ready (rs := [8]) (by kernel_rfl) (by simp) (AllReadyH.cons rfl (fun K hK => ?_) (AllReadyH.nil))
      go_simp
      go_wp2_with fail
      refine (fwput_any r m d S k ⟨lo, hi, init, init, init, init⟩ _ HF3.out (by omega)).mono ?_
      rintro e9 w9 ⟨r9, d9, rfl, hs9, hb9, hr9⟩
      have HR9 := Lib.hid (fun a ha => Nat.le_trans HB3.out.size (hr9 a ha))
      clear hr9
      have hSN : Hid (SN b (off + j * 6) G k #[.int .i64 lo, .int .i64 hi, .int .i64 init, .int .i64 init, .int .i64 init, .int .i64 init] w9) := Lib.hid (hHeld.out.later hb9)
      have HS9 := Lib.hid hs9
      have HB9 := Lib.hid (HB3.out.trans (hb9.mono HB3.out.size))
      clear hs9 hb9 HF3 HB3
      go_wp2_with fail
      refine hK.out _ _ hSN (fun hHeld2 => ?_)
      try simp only [Act.put, List.setIfInBounds_toArray, List.set_cons_zero, List.set_cons_succ]
      clear hSN hK K hHeld
      have hHeld := hHeld2
      clear hHeld2
      refine wpAnyH_take (i := 9) (oi := ⟨some 3, _, _, _, _, _⟩) (v := .slice r9 (putG S k ⟨lo, hi, init, init, init, init⟩).length d9) rfl (by kernel_rfl) (by kernel_rfl) (by kernel_rfl) (fun _ _ _ h => h) (Or.inl ⟨by rfl, fun w' hw' => ?_⟩) (by assumption) ?_
      · clear hHeld
        go_simp
      simp only [Act.put, List.setIfInBounds_toArray, List.set_cons_zero, List.set_cons_succ]
      refine wpAnyH_done (by kernel_rfl) ?_ _
      clear hHeld
      go_wp2_with fail
      go_roundw
      case rel => exact ⟨j + 1, r9, _, d9, by omega, by go_num, rfl, Lib.hid (by rw [HSE.out, HS.out]; exact HS9.out), HB9, HR9⟩
      case measure =>
       simp [Go.RowKit.intOf]
       omega
    · rw [show newF lo init hi = (⟨0, 0, 0, 0, 0, 0⟩, 3) from if_neg hok] at hnw
      have hs : s' = S := hst.trans (if_neg hok)
      have HS := Lib.hid hs
      have HN := Lib.hid hnw
      have HOK := Lib.hid hok
      clear hst hs hnw hok hbl
      go_wp2_with fail
      clear c0 c1 c2 c3 c4 c5
      refine (HN.out _).mono ?_
      rintro e1 w1 ⟨rfl, hb1⟩
      have hbn : Below w1.heap.size w1 (w1.alloc (.cells #[.int .i64 0, .int .i64 0, .int .i64 0, .int .i64 0, .int .i64 0, .int .i64 0] 42)) := (Below.refl _ _).alloc (Nat.le_refl _) _
      have HB1 := Lib.hid (HB.out.trans ((hb1.trans (hbn.mono hb1.size)).mono HB.out.size))
      have HF1 := Lib.hid (HF.out.later (hb1.trans (hbn.mono hb1.size)))
      clear hb1 hbn
      go_wp2_with fail
      go_roundw
      case rel => exact ⟨j + 1, r, m, d, by omega, by go_num, rfl, Lib.hid (by rw [HSE.out, HS.out]; exact HF1.out), HB1, HR⟩
      case measure =>
       simp [Go.RowKit.intOf]
       omega
  · have hjn : j = n := by omega
    have t1 : ¬ (j : Int) < n := by omega
    rw [hjn, HEND.out] at HF
    clear hjn
    go_wp2_with fail
    go_ret
    exact ⟨r, m, d, rfl, HF.out, HB.out, HR.out⟩
def ftryE : List FW → List O → Int
 | _, [] => 0
 | L, x :: T => if fdoE 0 L x.1 x.2 = 0 then ftryE (fdoL 0 L x.1 x.2) T else fdoE 0 L x.1 x.2
theorem fdoL_fok {c : Int} {L : List FW} {k : K} {d : Int} (hv : ∀ r ∈ L, Fok r.2) : ∀ r ∈ fdoL c L k d, Fok r.2 := by
 cases hg : getG L k with
 | none => rw [(fdoL_none hg).1]; exact hv
 | some f =>
  rw [(fdoL_some hg).1]
  split
  · intro r hr
    have hf := hv _ (g_get_some_mem hg)
    rcases g_mem_putM hr with rfl | hr
    · unfold doF
      split
      · exact grantF_fok' hf
      · exact moveF_fok' hf
    · exact hv r hr
  · exact hv
theorem fdoL_len {c : Int} {L : List FW} {k : K} {d : Int} : (fdoL c L k d).length ≤ L.length + 1 := by
 cases hg : getG L k with
 | none => rw [(fdoL_none hg).1]; omega
 | some f =>
  rw [(fdoL_some hg).1]
  split
  · exact putG_len _ _ _
  · omega
set_option maxHeartbeats 4000000 in
theorem fwtry_any (p : Option Addr) (n c : Nat) (L : List FW) (q : Option Addr) (n2 c2 : Nat) (T : List O) (W : World) (hL : FWL W p n c L) (hn : n ≤ 1000) (hv : ∀ r ∈ L, Fok r.2) (hT : OL W q n2 c2 T) (hn2 : n2 ≤ 1000) (ht : ∀ x ∈ T, Ook x) :
 Calls Try.prog 17 #[.slice p n c, .slice q n2 c2] W fun e w' => e = .returned (.int .i64 (ftryE L T)) ∧ Below W.heap.size W w' := by
 obtain ⟨z, hz⟩ : ∃ z, ftryE L T = z := ⟨_, rfl⟩
 rw [hz]
 have HZ := Lib.hid hz
 have HT := Lib.hid hT
 have HTN := Lib.hid hT.len
 have HL := Lib.hid hL
 have HV := Lib.hid hv
 have HOK := Lib.hid fun j (hj : j < n2) => ok_at ht (show j < T.length by rw [hT.len]; exact hj)
 have HDR := Lib.hid fun j (hj : j < n2) => (show T.drop j = T.getD j o0 :: T.drop (j + 1) by rw [List.drop_eq_getElem_cons (by rw [hT.len]; exact hj), List.getD, List.getElem?_eq_getElem (by rw [hT.len]; exact hj)]; rfl)
 have hcap := hT.cap
 have hmax := hT.max
 unfold maxLen at hmax
 clear hL hT hv ht hz
 go_enter Try.func17, Try.ntmps17
 go_wp2_with fail
 go_loopw [0, 5] (fun v i wr => ∃ (j : Nat) (r : Option Addr) (m d : Nat) (S : List FW), j ≤ n2 ∧ i = .int .i64 (j : Int) ∧ v = .slice r m d ∧ Hid (FWL wr r m d S) ∧ Hid (Below W.heap.size W wr) ∧ Hid ((∀ x ∈ S, Fok x.2) ∧ m ≤ n + j ∧ ftryE S (T.drop j) = z)) (fun _ i _ => n2 - (Go.RowKit.intOf i).toNat)
 case atStart => exact ⟨0, p, n, c, L, Nat.zero_le _, rfl, rfl, HL, Lib.hid (Below.refl _ _), Lib.hid ⟨HV.out, by omega, HZ.out⟩⟩
 case round =>
  obtain ⟨j, r, m, d, S, hj, rfl, rfl, HF, HB, HI⟩ := hrel
  by_cases hlt : j < n2
  · have t1 : (j : Int) < n2 := by omega
    obtain ⟨b, off, rfl, hbl, c0, c1, c2, c3⟩ := op_cells (HT.out.later HB.out) hlt
    have hxo := (HOK.out j hlt).2
    have hti := HI.out.2.2
    rw [HDR.out j hlt] at hti
    generalize T.getD j o0 = x at *
    obtain ⟨k, dl⟩ := x
    have hdo := fwdo_any r m d S 0 dl k wr HF.out (by have := HI.out.2.1; omega) HI.out.1 hxo (by omega) (by omega)
    have hfk := fdoL_fok (c := 0) (k := k) (d := dl) HI.out.1
    have hln := fdoL_len (c := 0) (L := S) (k := k) (d := dl)
    have hml := HF.out.len
    have hti2 : (if fdoE 0 S k dl = 0 then ftryE (fdoL 0 S k dl) (T.drop (j + 1)) else fdoE 0 S k dl) = z := hti
    generalize fdoL 0 S k dl = S' at *
    generalize fdoE 0 S k dl = e0 at *
    have HDO := Lib.hid hdo
    have HX := Lib.hid (And.intro hfk (And.intro hln hml))
    clear hdo hfk hln hml hti hxo
    go_wp2_with fail
    clear c0 c1 c2 c3
    refine HDO.out.mono ?_
    rintro e1 w1 ⟨r1, m1, d1, rfl, hs1, hb1, _⟩
    have HS1 := Lib.hid hs1
    have HB1 := Lib.hid (HB.out.trans (hb1.mono HB.out.size))
    clear hs1 hb1 HDO
    by_cases he : e0 = 0
    · rw [if_pos he] at hti2
      have HTI := Lib.hid hti2
      subst he
      clear hti2
      go_wp2_with fail
      go_roundw
      case rel => exact ⟨j + 1, r1, m1, d1, S', by omega, by go_num, rfl, HS1, HB1, Lib.hid ⟨HX.out.1, by have h1 := HS1.out.len; have h2 := HX.out.2; have h3 := HI.out.2.1; omega, HTI.out⟩⟩
      case measure =>
       simp [Go.RowKit.intOf]
       omega
    · rw [if_neg he] at hti2
      have ke : (e0 != 0) = true := by simpa using he
      have HE := Lib.hid he
      have HTI := Lib.hid hti2
      clear he hti2
      go_wp2_with fail
      go_ret
      exact ⟨by rw [HTI.out]; rfl, HB1.out⟩
  · have hjn : n2 ≤ j := by omega
    have t1 : ¬ (j : Int) < n2 := by omega
    have hz0 : z = 0 := by
     have h := HI.out.2.2
     rw [List.drop_of_length_le (by rw [HTN.out]; exact hjn)] at h
     exact h.symm
    have HZ0 := Lib.hid hz0
    clear hz0 hjn
    go_wp2_with fail
    go_ret
    exact ⟨by rw [HZ0.out]; rfl, HB.out⟩
end Go.Proofs.Ytmdldbchdnkfcaa
