/- The going over a table: for every loop body that keeps its word, each row comes, in order. -/
import Derived.Test.YtnjihplhahkljaaTabKeys
import Derived.RegionIn
import Derived.Stop.RegionWithIn
import Derived.Deep.OwnRows
namespace Go.Proofs.Ytnjihplhahkljaa
open Go.RowKit Go.ChangeShapes Go.WideShapes Go.Maps
set_option linter.unusedVariables false
attribute [local go_sem] Oper.semAt_some

/-- What a round keeps: the cells of all blocks from n0 on. -/
structure KpC (n0 : Nat) (W W' : World) : Prop where
  size : W.heap.size ≤ W'.heap.size
  same : ∀ k o, n0 ≤ k → W.heap[k]? = some o → o.isCells = true → W'.heap[k]? = some o
theorem kpC_t {n0 : Nat} {A B C : World} (h : KpC n0 A B) (k : KpC n0 B C) : KpC n0 A C := ⟨Nat.le_trans h.size k.size, fun i o hi ho hc => k.same i o hi (h.same i o hi ho hc) hc⟩
theorem kpC_b {n0 : Nat} {w : World} (W : World) (l : Nat) (o o' : Obj) (hl : w.heap.size ≤ l) (h : W.heap[l]? = some o) (hc : o.isCells = false) (_ : o.isWalk = false) : KpC n0 W (W.putObj l o') :=
  ⟨by simp, fun k ob hk hob hcb => (World.putObj_heap_other (fun e => by subst e; rw [h] at hob; cases hob; rw [hc] at hcb; cases hcb)).trans hob⟩
theorem KL.turn {W W' : World} {p : Option Addr} {n c : Nat} {L : List K} (h : KL W p n c L) (hb : ∀ a, p = some a → W'.heap[a.block]? = W.heap[a.block]?) : KL W' p n c L := by
  refine ⟨h.len, h.cap, h.max, h.nil, h.ok, fun h0 => ?_⟩
  obtain ⟨b, off, rfl, hc⟩ := h.cell h0
  have he := hb _ rfl
  refine ⟨b, off, rfl, fun j hj => ?_⟩
  obtain ⟨c0, c1, c2⟩ := hc j hj
  exact ⟨(World.cell?_of_block (a := ⟨b, off + j * 3, none⟩) he).trans c0, (World.cell?_of_block (a := ⟨b, off + j * 3 + 1, none⟩) he).trans c1, (World.cell?_of_block (a := ⟨b, off + j * 3 + 2, none⟩) he).trans c2⟩
theorem get_at {M : List Rw} (h : Up (keysM M)) (j : Nat) (hj : j < M.length) : getM M (M.getD j ((0, 0, 0), 0)).1 = some (M.getD j ((0, 0, 0), 0)).2 := by
  induction M generalizing j with
  | nil => cases hj
  | cons r M ih =>
    obtain ⟨h1, h2⟩ := List.pairwise_cons.1 h
    cases j with
    | zero =>
      rw [get_cons]
      simp
    | succ j =>
      have hj' : j < M.length := by simpa using hj
      have e : (r :: M).getD (j + 1) ((0, 0, 0), 0) = M.getD j ((0, 0, 0), 0) := by simp [List.getD]
      rw [e, get_cons, ih h2 j hj']
      have hmem : (M.getD j ((0, 0, 0), 0)).1 ∈ keysM M := by
        rw [List.getD, List.getElem?_eq_getElem hj']
        exact List.mem_map.2 ⟨_, List.getElem_mem hj', rfl⟩
      rw [if_neg]
      intro e'
      have : lessB r.1 (M.getD j ((0, 0, 0), 0)).1 = true := h1 _ hmem
      rw [e', less_irrefl] at this
      cases this
theorem keys_at (M : List Rw) (j : Nat) (hj : j < M.length) : (keysM M).getD j (0, 0, 0) = (M.getD j ((0, 0, 0), 0)).1 := by
  simp [keysM, List.getD, List.getElem?_eq_getElem hj]
/-- The values that were looked up so far; noughts behind. -/
def wasL (M : List Rw) (j m : Nat) : List Value := (M.take j).map (fun r => Value.int .i64 r.2) ++ List.replicate (m - j) (.int .i64 0)
def wasA (M : List Rw) (j m : Nat) : Array Value := (wasL M j m).toArray
theorem was_len (M : List Rw) (j m : Nat) (hm : M.length = m) (hj : j ≤ m) : (wasA M j m).size = m := by simp [wasA, wasL]; omega
theorem was_zero (M : List Rw) (m : Nat) : wasA M 0 m = (List.replicate m (.int .i64 0)).toArray := by simp [wasA, wasL]
theorem was_step (M : List Rw) (j m : Nat) (hm : M.length = m) (hj : j < m) : (wasA M j m).setIfInBounds j (.int .i64 (M.getD j ((0, 0, 0), 0)).2) = wasA M (j + 1) m := by
  have ht : (M.take (j + 1)).map (fun r => Value.int .i64 r.2) = (M.take j).map (fun r => Value.int .i64 r.2) ++ [.int .i64 (M.getD j ((0, 0, 0), 0)).2] := by
    rw [List.take_add_one, List.map_append, List.getD, List.getElem?_eq_getElem (show j < M.length by omega)]
    rfl
  have hl : ((M.take j).map (fun r => Value.int .i64 r.2)).length = j := by simp; omega
  have e : m - j = (m - (j + 1)) + 1 := by omega
  unfold wasA wasL
  rw [ht, List.setIfInBounds_toArray, List.set_append_right _ _ (by omega), hl, e, List.replicate_succ, Nat.sub_self]
  simp
theorem was_at (M : List Rw) (j m : Nat) (hm : M.length = m) (hj : j < m) : (wasA M m m)[j]? = some (.int .i64 (M.getD j ((0, 0, 0), 0)).2) := by
  unfold wasA wasL
  simp [List.getD, List.take_of_length_le (show M.length ≤ m by omega), hm, hj]
theorem was_rest (M : List Rw) (j m : Nat) (hm : M.length = m) (hj : j < m) : (wasA M j m)[j]? = some (.int .i64 0) := by
  have hl : ((M.take j).map (fun r => Value.int .i64 r.2)).length = j := by simp; omega
  unfold wasA wasL
  rw [List.getElem?_toArray, List.getElem?_append_right (by omega), hl, Nat.sub_self, show m - j = (m - (j + 1)) + 1 by omega, List.replicate_succ]
  rfl
theorem grown_drew {W W' : World} {row : Option Nat} (h : W.grownBy W' row) : W.grownBy W'.drew row := ⟨h.os, h.tape, h.output, h.size, h.block⟩
theorem cell_block {w : World} {b i : Nat} {v : Value} (h : w.cell? ⟨b, i, none⟩ = some v) : ∃ c t fr, w.heap[b]? = some (.cells c t fr) := by
  cases ho : w.heap[b]? with
  | none => simp [World.cell?, ho] at h
  | some o => cases o <;> simp [World.cell?, ho] at h ⊢
theorem infoInt : (Try.prog.info? 2).map (fun i => (i.zero, i.size, i.bytes)) = some (some (.int .i64 0), 1, 8) := by kernel_rfl
theorem made_was (M : List Rw) (m : Nat) : madeCells #[.int .i64 0] m = wasA M 0 m := by
  rw [was_zero]
  apply Array.ext
  · simp [size_madeCells]
  · intro i h1 h2
    simp [madeCells, Nat.mod_one]

set_option maxRecDepth 100000 in
set_option maxHeartbeats 4000000 in
theorem all_stops (Bx B n0 : Nat) (mb : Option Nat) (M : List Rw) (w : World) (hn0 : n0 ≤ w.heap.size) (hx : w.cell? ⟨Bx, 0, none⟩ = some (.pointer (some ⟨B, 0, none⟩))) (hT : Tab w B mb M) (hM : M.length ≤ 1000) :
    SeqStopsK Fence.wide 5 Try.prog 27 #[.pointer (some ⟨Bx, 0, none⟩)] (fun x : Rw => #[encK x.1, .int .i64 x.2]) (KpC n0) (fun xs => xs = M) (fun pre => pre <+: M) M.length w := fun l J Jx W hW hJ _ hY h0 => by
  have hxW := (hW.cell (p := ⟨Bx, 0, none⟩) (World.block_lt_of_cell? _ _ hx)).trans hx
  have HTW := Lib.hid (hT.later hW)
  have hup := hT.up
  have hkeys := callsIn_wide (n := 4).2 (keysp_any W B mb M HTW.out hM)
  have hmk : ∀ w', (Instr.makeSlice 64 (.int .i64 (M.length : Nat)) (.int .i64 (M.length : Nat))).run Try.prog w' = .ok (.slice (some ⟨w'.heap.size, 0, none⟩) M.length M.length) (w'.alloc (.cells (wasA M 0 M.length) 2)) := by
    intro w'
    rw [← made_was M]
    exact run_make_row' _ 2 _ 8 Try.underlying64 infoInt rfl _ _ _ (by omega) (by omega) w'
  have HUP := Lib.hid hup
  have hlk := len_keys M
  have HM := Lib.hid hM
  clear hT hx hup
  have hn0W : n0 ≤ W.heap.size := Nat.le_trans hn0 hW.size
  have HJ := Lib.hid hJ
  have HY := Lib.hid hY
  have HJ0 := Lib.hid h0
  clear hJ hY h0 hW hn0
  refine callsIn_of_wp Try.func27 rfl trivial ?_ rfl
  simp only [Try.ntmps27, List.size_toArray, List.length_cons, List.length_nil, Nat.reduceAdd, Nat.reduceSub, Array.replicate_succ, Array.replicate_zero, List.push_toArray, List.append_toArray, List.nil_append, List.cons_append]
  have HWA0 := was_len M 0 M.length rfl (Nat.zero_le _)
  generalize hm : M.length = m at *
  have HMM := Lib.hid hm
  clear hm
  gi_wp2
  refine ⟨trivial, hkeys.mono ?_⟩
  rintro e W1 ⟨p, c, rfl, hk, hb, hp⟩
  rw [hlk] at hk
  rw [hlk]
  have HK1 := Lib.hid hk
  have HB1 := Lib.hid hb
  have HP := Lib.hid hp
  have hs1 := hb.size
  have HT1 := Lib.hid (HTW.out.later hb)
  have HX1 := Lib.hid ((hb.cell (p := ⟨Bx, 0, none⟩) (World.block_lt_of_cell? _ _ hxW)).trans hxW)
  have hBx := World.block_lt_of_cell? _ _ hxW
  clear hkeys hk hb hp hxW HTW
  have hc1 := HK1.out.cap
  gi_wp2
  gi_loopw [16] (fun i wr => ∃ j, j ≤ m ∧ i = .int .i64 (j : Nat) ∧ wr.heap[W1.heap.size]? = some (.cells (wasA M j m) 2 (0, 0)) ∧ Hid (Below W1.heap.size W1 wr)) (fun i _ => m - (intOf i).toNat)
  case atStart => exact ⟨0, Nat.zero_le _, rfl, alloc_block W1 _, Lib.hid ((Below.refl _ _).alloc (Nat.le_refl _) _)⟩
  case round =>
    obtain ⟨j, hj, rfl, hwas, HBr⟩ := hrel
    by_cases hlt : j < m
    · have hlt' : (j : Int) < m := by omega
      obtain ⟨kb, off, rfl, hcell⟩ := (HK1.out.later HBr.out).cell (by omega)
      obtain ⟨c0, c1, c2⟩ := hcell j hlt
      rw [keys_at M j (by rw [HMM.out]; exact hlt)] at c0 c1 c2
      have hga := get_at HUP.out.1 j (by rw [HMM.out]; exact hlt)
      have hok : Kok (M.getD j ((0, 0, 0), 0)).1 := by
        rw [List.getD, List.getElem?_eq_getElem (by rw [HMM.out]; exact hlt)]
        exact HUP.out.2 _ (List.getElem_mem _)
      have HST := Lib.hid (was_step M j m HMM.out hlt)
      have hsz := was_len M j m HMM.out hj
      have hx := (HBr.out.cell (p := ⟨Bx, 0, none⟩) (by show Bx < _; omega)).trans HX1.out
      have hTr := HT1.out.later HBr.out
      have hw0 : (wasA M j m)[j]? = some (.int .i64 0) := was_rest M j m HMM.out hlt
      clear hcell
      generalize M.getD j ((0, 0, 0), 0) = x at *
      have hbb : Below wr.heap.size wr (wr.alloc (.cells #[.int .u8 x.1.1, .int .u8 x.1.2.1, .int .u8 x.1.2.2] 24)) := (Below.refl _ _).alloc (Nat.le_refl _) _
      have hx2 := (hbb.cell (p := ⟨Bx, 0, none⟩) (World.block_lt_of_cell? _ _ hx)).trans hx
      have hgc := callsIn_wide (n := 4).2 (get_any x.1 hok _ B mb M (hTr.later hbb))
      rw [hga] at hgc
      have HW2 := Lib.hid (block_later hwas hbb)
      have HB2 := Lib.hid (HBr.out.trans (hbb.mono HBr.out.size))
      clear hbb hx hTr hga hwas hok
      gi_wp2
      refine ⟨trivial, hgc.mono ?_⟩
      rintro e W3 ⟨rfl, hb3⟩
      have HW3 := Lib.hid (block_later HW2.out hb3)
      have HB3 := Lib.hid (HB2.out.trans (hb3.mono HB2.out.size))
      have y0 := block_cell (j := j) HW3.out hw0
      have y1 := block_free j HW3.out
      clear hb3 hgc hx2 c0 c1 c2
      gi_wp2
      go_roundw
      case rel =>
        refine ⟨j + 1, by omega, by go_num, ?_, Lib.hid ?_⟩
        · rw [← HST.out]
          exact block_put j _ HW3.out
        · exact HB3.out.setCell (p := ⟨W1.heap.size, j, none⟩) (Nat.le_refl _) _
      case measure => simp [intOf]; omega
    · obtain rfl : m = j := by omega
      have HWA := Lib.hid hwas
      have HJr : Hid (J [] wr) := Lib.hid (HJ.out [] W wr none HJ0.out ⟨HBr.out.os.trans HB1.out.os, HBr.out.tape.trans HB1.out.tape, HBr.out.output.trans HB1.out.output, Nat.le_trans hs1 HBr.out.size, fun k hk _ => (HBr.out.block k (by omega)).trans (HB1.out.block k hk)⟩ (fun r e => by cases e))
      have HKr := Lib.hid (HK1.out.later HBr.out)
      have hszr := HBr.out.size
      clear hwas
      clear HB1 HT1 HX1 HBr HJ0 hmk HWA0 HK1
      gi_wp2
      gi_loopw [33] (fun i w2 => ∃ q, q ≤ m ∧ i = .int .i64 (q : Nat) ∧ Hid (KL w2 p m c (keysM M)) ∧ w2.heap[W1.heap.size]? = some (.cells (wasA M m m) 2 (0, 0)) ∧ Hid (J (M.take q) w2) ∧ wr.heap.size ≤ w2.heap.size) (fun i _ => m - (intOf i).toNat)
      case atStart => exact ⟨0, Nat.zero_le _, rfl, HKr, HWA.out, by rw [List.take_zero]; exact HJr, Nat.le_refl _⟩
      case round =>
        obtain ⟨q, hq, rfl, HK2, hwas, HJ2, hsz2⟩ := hrel
        by_cases hlt : q < m
        · have hlt' : (q : Int) < m := by omega
          obtain ⟨kb, off, rfl, hcell⟩ := HK2.out.cell (by omega)
          obtain ⟨c0, c1, c2⟩ := hcell q hlt
          rw [keys_at M q (by rw [HMM.out]; exact hlt)] at c0 c1 c2
          have htk : M.take (q + 1) = M.take q ++ [M.getD q ((0, 0, 0), 0)] := by
            rw [List.take_add_one, List.getD, List.getElem?_eq_getElem (by rw [HMM.out]; exact hlt)]
            rfl
          have hwq := was_at M q m HMM.out hlt
          have hkb : W.heap.size ≤ kb := HP.out _ rfl
          have hkl := World.block_lt_of_cell? _ _ c0
          clear hcell
          generalize M.getD q ((0, 0, 0), 0) = x at *
          have HTK := Lib.hid htk
          have hJ2 := HJ.out (M.take q) wr (wr.alloc (.cells #[.int .u8 x.1.1, .int .u8 x.1.2.1, .int .u8 x.1.2.2] 24)).drew none HJ2.out (grown_drew (World.grownBy_alloc _ _ none)) (fun r e => by cases e)
          obtain ⟨fn, tmps, assign, body, hy, hR⟩ := HY.out (M.take q) x _ hJ2 (by rw [List.length_take]; omega)
          dsimp only [encK] at hy
          have HW3 := Lib.hid ((Below.heap_alloc wr (.cells #[.int .u8 x.1.1, .int .u8 x.1.2.1, .int .u8 x.1.2.2] 24) _ (block_lt hwas)).trans hwas)
          have y0 := block_cell (j := q) HW3.out hwq
          clear htk hJ2 hwas
          have hR2 : RoundIn Fence.wide (5 - 1) Try.prog l fn tmps assign body (wr.alloc (.cells #[.int .u8 x.1.1, .int .u8 x.1.2.1, .int .u8 x.1.2.2] 24)).drew (fun e W' => ∃ bb : Bool, e = .returned (.bool bb) ∧ (bb = true → J (M.take q ++ [x]) W' ∧ KpC n0 (wr.alloc (.cells #[.int .u8 x.1.1, .int .u8 x.1.2.1, .int .u8 x.1.2.2] 24)).drew W') ∧ (bb = false → Jx (M.take q ++ [x]) W')) := hR.mono fun e W' h => by
            rcases h with ⟨rfl, h1, h2⟩ | ⟨rfl, h1⟩
            · exact ⟨true, rfl, fun _ => ⟨h1, h2⟩, fun h => by cases h⟩
            · exact ⟨false, rfl, (fun h => by cases h), fun _ => h1⟩
          have HKP : Hid (∀ W3, KpC n0 (wr.alloc (.cells #[.int .u8 x.1.1, .int .u8 x.1.2.1, .int .u8 x.1.2.2] 24)).drew W3 → KL W3 (some ⟨kb, off, none⟩) m c (keysM M) ∧ W3.heap[W1.heap.size]? = some (.cells (wasA M m m) 2 (0, 0)) ∧ wr.heap.size ≤ W3.heap.size) := Lib.hid fun W3 hk => by
            obtain ⟨cs, t, fr, ho⟩ := cell_block c0
            have ho2 := (Below.heap_alloc wr (.cells #[.int .u8 x.1.1, .int .u8 x.1.2.1, .int .u8 x.1.2.2] 24) kb hkl).trans ho
            have h3 := hk.same kb _ (Nat.le_trans hn0W hkb) ho2 rfl
            refine ⟨HK2.out.turn fun a ha => by cases ha; exact h3.trans ho.symm, hk.same _ _ (by omega) HW3.out rfl, ?_⟩
            have := hk.size
            simp at this
            omega
          clear hR
          gi_wp2
          gi_region_with (refine hR2.mono ?_; rintro e W3 ⟨bb, rfl, hH1, hH2⟩)
          all_goals
            cases bb with
            | true =>
              obtain ⟨hJ3, hk3⟩ := hH1 rfl
              have H3 := Lib.hid (HKP.out _ hk3)
              have HJ3 := Lib.hid hJ3
              have hq2 := H3.out.2.2
              clear hH1 hH2 hJ3 hk3 hR2
              gi_wp2
              go_roundw
              case rel => exact ⟨q + 1, by omega, by go_num, Lib.hid H3.out.1, H3.out.2.1, by rw [HTK.out]; exact HJ3, by omega⟩
              case measure => simp [intOf]; omega
            | false =>
              have HX3 := Lib.hid (hH2 rfl)
              clear hH1 hH2 hR2
              gi_wp2
              refine bodyPost_ret (results_none rfl _ _ _) rfl ?_
              exact ⟨⟨_, rfl⟩, .inr ⟨_, by rw [← HTK.out]; exact List.take_prefix _ _, HX3.out⟩⟩
        · obtain rfl : m = q := by omega
          have HJM : Hid (J M wr) := Lib.hid (by
            have := HJ2.out
            rwa [List.take_of_length_le (by rw [HMM.out]; exact Nat.le_refl _)] at this)
          gi_wp2
          go_end0
          exact ⟨⟨_, rfl⟩, .inl ⟨M, rfl, HJM.out⟩⟩
end Go.Proofs.Ytnjihplhahkljaa
