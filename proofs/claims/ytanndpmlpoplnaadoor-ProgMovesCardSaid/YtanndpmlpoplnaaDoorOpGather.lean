/- What is gathered by keys. -/
import Derived.Test.YtanndpmlpoplnaaDoorOpMap
namespace Go.Proofs.YtanndpmlpoplnaaDoor
open Go.RowKit Go.ChangeShapes Go.WideShapes Go.Maps
set_option linter.unusedVariables false

/-- What gather hands back: a map of the call's own. -/
def Gathers (W : World) (L : List O) (e : Ending) (w' : World) : Prop := ∃ b D z, e = .returned (.map (some b)) ∧ Gth W.heap.size w' b D z L ∧ Below W.heap.size W w'
theorem ints_in (L : List Int) : ∀ u ∈ flatG ic L, u.oneCell' = true := flatG_all ic_one L
set_option maxHeartbeats 2000000 in
set_option maxRecDepth 100000 in
theorem gather_o (p : Option Addr) (n c : Nat) (L : List O) (W : World) (hL : OL W p n c L) (hok : ∀ o ∈ L, Ook o) (hn : n ≤ 100000) :
    Calls Tryd.prog 80 #[.slice p n c] W (Gathers W L) := by
  have hmm := @run_makeMap Tryd.prog
  have HL := Lib.hid hL
  have HLN := Lib.hid hL.len
  have HOK := Lib.hid fun j (hj : j < n) => (ok_at hok (show j < L.length by rw [hL.len]; exact hj)).1
  have hcap := hL.cap
  have HG0 := Lib.hid (Gth.start W.heap.size W (Nat.le_refl _))
  have HB0 : Hid (Below W.heap.size W (W.alloc (.map #[] 0))) := Lib.hid ((Below.refl _ _).alloc (Nat.le_refl _) _)
  have HTK : Hid (∀ j, j < n → L.take (j + 1) = L.take j ++ [L.getD j o0]) := Lib.hid fun j hj => by
    rw [List.take_add_one, List.getD, List.getElem?_eq_getElem (by rw [hL.len]; exact hj)]
    rfl
  clear hL hok
  go_enter Tryd.func80, Tryd.ntmps80
  go_wp2_with fail
  generalize W.alloc (.map #[] 0) = W0 at *
  go_loopw [9] (fun i wr => ∃ (j : Nat) (D : DataW Sv) (z : K → Nat × Nat), j ≤ n ∧ i = .int .i64 (j : Nat) ∧ Hid (Gth W.heap.size wr W.heap.size D z (L.take j)) ∧ Hid (Below W.heap.size W wr)) (fun i _ => n - (intOf i).toNat)
  case atStart => exact ⟨0, _, _, Nat.zero_le _, rfl, HG0, HB0⟩
  case round =>
    obtain ⟨j, D, z, hj, rfl, HG, HB⟩ := hrel
    by_cases hlt : j < n
    · have hlt' : (j : Int) < n := by omega
      obtain ⟨b, off, rfl, _, c0, c1, c2, c3⟩ := op_cells (HL.out.later HB.out) hlt
      have hkk := HOK.out j hlt
      have htk := HTK.out j hlt
      generalize L.getD j o0 = x at *
      have HTK1 := Lib.hid htk
      have hlen : (L.take j).length = j := by rw [List.length_take, HLN.out]; omega
      have HLJ := Lib.hid hlen
      generalize hLj : L.take j = Lj at *
      have HKK := Lib.hid hkk
      -- the block of the addition, the block of the number
      obtain ⟨Y, hY⟩ : ∃ Y, (wr.alloc (.cells #[.int .u8 x.1.1, .int .u8 x.1.2.1, .int .u8 x.1.2.2, .int .i64 x.2] 58)).alloc (.cells #[.int .i64 x.2] 2) = Y := ⟨_, rfl⟩
      have hbY : Below wr.heap.size wr Y := by rw [← hY]; exact ((Below.refl _ _).alloc (Nat.le_refl _) _).alloc (by simp) _
      have hGY := HG.out.later hbY
      have hmap := hGY.map
      rw [hlen] at hmap
      obtain ⟨st, w1, hE, hc1, hs1, hm1, hS⟩ := entry_at hmap hGY.says (by omega) hkk
      obtain ⟨p0, cc0, hsv, hrow, hown⟩ := hGY.at_row x.1
      rw [hsv] at hE
      have hrow1 : w1.ownsRow 0 2 1 (.slice p0 (dsL Lj x.1).length cc0) (dsL Lj x.1).length (flatG ic (dsL Lj x.1)) := row_keep hrow hc1 fun g hg hgb => by
        obtain ⟨hk2, he⟩ := hown g hg
        obtain ⟨cs, hcs⟩ := row_block (hGY.row _ hk2).2
        exact hGY.map.ne hcs (by rw [← he, hgb])
      have hdl := dsL_len Lj x.1
      have hnx : ∀ i u, (ic x.2)[i]? = some u → w1.cell? ⟨wr.heap.size + 1, i, none⟩ = some u := fun i u hu => by
        have h1 : Y.cell? ⟨wr.heap.size + 1, i, none⟩ = some u := by
          rw [← hY]
          have := int_news (wr.alloc (.cells #[.int .u8 x.1.1, .int .u8 x.1.2.1, .int .u8 x.1.2.2, .int .i64 x.2] 58)) x.2 i u hu
          rwa [World.size_alloc] at this
        refine (World.cell?_of_block ?_).trans h1
        refine hc1.block _ (World.block_lt_of_cell? _ _ h1) fun e => ?_
        obtain ⟨cs, ty, fr, ho⟩ : ∃ cs ty fr, Y.heap[wr.heap.size + 1]? = some (.cells cs ty fr) := by
          rw [← hY]
          have := alloc_block (wr.alloc (.cells #[.int .u8 x.1.1, .int .u8 x.1.2.1, .int .u8 x.1.2.2, .int .i64 x.2] 58)) (.cells #[.int .i64 x.2] 2)
          rw [World.size_alloc] at this
          exact ⟨_, _, _, this⟩
        obtain ⟨es, cl, hb, _⟩ := hmap
        have e' : wr.heap.size + 1 = W.heap.size := e
        rw [e', hb] at ho
        cases ho
      have HROW := Lib.hid hrow1
      have HNX := Lib.hid hnx
      have HS := Lib.hid hS
      have HGY := Lib.hid hGY
      have HC1 := Lib.hid hc1
      have HM1 := Lib.hid hm1
      have HS1 := Lib.hid hs1
      have HOWN := Lib.hid hown
      have HBY := Lib.hid hbY
      have HWY := Lib.hid hY
      have hYs : Y.heap.size = wr.heap.size + 2 := by rw [← hY]; simp
      have HYS := Lib.hid hYs
      have HDL : Hid ((dsL Lj x.1).length ≤ 100000) := Lib.hid (by omega)
      clear hc1 hm1 hs1 hS hrow hrow1 hnx hown hGY hmap hsv hbY hdl hlen htk hkk hYs
      generalize hd : (dsL Lj x.1).length = m at *
      have HD := Lib.hid hd
      clear hd hLj
      go_wp2_with (at_builtin; refine wpList_append_vals (k := 1) (by decide) Tryd.underlying119 info_int rfl (by omega) rfl _ _ rfl (.slice p0 m cc0) m (flatG ic (dsL Lj x.1)) rfl HROW.out (some ⟨wr.heap.size + 1, 0, none⟩) 1 1 (ic x.2) rfl rfl (fun h => by cases h) (fun ad ha i u hu => by cases ha; rw [Go.WideShapes.add_plain, Nat.zero_add]; exact HNX.out i u hu) (ic_one x.2) (by have := HDL.out; omega) ?_; intro p' c' w2 r1 hc2 hp; obtain ⟨w3, hst, hm3, hc3⟩ := HS.out w2 p' (m + 1) c' (hc2.block _ (by have := HGY.out.map.lt; have := HS1.out; omega) (fun e => by obtain ⟨hk2, he⟩ := HOWN.out _ e; obtain ⟨cs, hcs⟩ := row_block (HGY.out.row _ hk2).2; exact HGY.out.map.ne hcs he.symm)))
      obtain rfl : (dsL Lj x.1).length = m := HD.out
      rw [← HLJ.out] at hm3
      obtain ⟨D', z', hG', hc⟩ := HGY.out.grown HKK.out (Nat.le_trans HB.out.size HBY.out.size) HOWN.out HC1.out HS1.out r1 hc2 hp (by obtain ⟨es, cl, hb⟩ := HM1.out; exact ⟨es, cl, (hc2.block _ (block_lt hb) (fun e => by obtain ⟨hk2, he⟩ := HOWN.out _ e; obtain ⟨cs, hcs⟩ := row_block (HGY.out.row _ hk2).2; exact HGY.out.map.ne hcs he.symm)).trans hb⟩) hm3 hc3 HGY.out.map.isMap
      have HB3 : Hid (Below W.heap.size W w3) := Lib.hid (Chg.below (HB.out.trans (HBY.out.mono HB.out.size)) (Nat.le_trans HB.out.size HBY.out.size) hc (fun k hk => hk))
      rw [← HTK1.out] at hG'
      have HG' := Lib.hid hG'
      clear hG' hc hm3 hc3 hst hp hc2 r1 hE
      go_roundw
      case rel => exact ⟨j + 1, D', z', by omega, by go_num, HG', HB3⟩
      case measure => simp [intOf]; omega
    · obtain rfl : j = n := by omega
      go_wp2_with fail
      go_ret
      refine ⟨_, D, z, rfl, ?_, HB.out⟩
      have := HG.out
      rwa [List.take_of_length_le (by rw [HLN.out]; exact Nat.le_refl _)] at this
end Go.Proofs.YtanndpmlpoplnaaDoor
