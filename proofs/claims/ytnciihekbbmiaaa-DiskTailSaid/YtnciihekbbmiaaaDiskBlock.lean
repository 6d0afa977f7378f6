/- A block's bytes, in a row of their own; strings of bytes; acts in a row of the law's own; three disks. -/
import Derived.Test.YtnciihekbbmiaaaDiskPlayed
namespace Go.Proofs.Ytnciihekbbmiaaa
open Go.RowKit Go.ChangeShapes Go.WideShapes
set_option linter.unusedVariables false
set_option maxRecDepth 10000
set_option linter.unusedSimpArgs false

set_option maxHeartbeats 1000000 in
/-- A block's bytes, in a row of their own. -/
theorem block_new (B G s : Nat) (V : List (List Int)) (i : Nat) (w : World) (h : Vo w B G s V) (hi : i < V.length) : Calls Try.prog 49 #[.pointer (some ⟨B, 0, none⟩), .int .i64 (i : Nat)] w fun e w' => ∃ p c, e = .returned (.slice p s c) ∧ BL w' p s c (V.getD i []) ∧ Below w.heap.size w w' ∧ ∀ a, p = some a → w.heap.size ≤ a.block := by
  have hh := has_any B G s V (i : Nat) w h
  have hd : decide (0 ≤ (i : Int) ∧ (i : Int) < V.length) = true := decide_eq_true (by omega)
  rw [hd] at hh
  clear hd
  obtain ⟨c0, c1, c2⟩ := h.cells
  clear c0 c2
  have hs := h.s
  have hmk := fun w => made_bytes s (by omega) w
  have hb1 : Below w.heap.size w (w.alloc (.cells (vB (List.replicate s 0)).toArray 5)) := (Below.refl _ _).alloc (Nat.le_refl _) _
  have HV1 := Lib.hid (h.later hb1)
  have hat := at_any B G s V i _ (h.later hb1) hi
  have HR := Lib.hid (alloc_block w (.cells (vB (List.replicate s 0)).toArray 5))
  have HB1 := Lib.hid hb1
  have HI := Lib.hid hi
  clear h hb1 hi
  go_enter Try.func49, Try.ntmps49
  go_wp2_with fail
  refine hh.mono ?_
  rintro e w' ⟨rfl, rfl⟩
  go_wp2_with fail
  refine hat.mono ?_
  rintro e w2 ⟨rfl, q, rfl⟩
  have HN : Hid (w'.heap.size = w'.heap.size) := Lib.hid rfl
  have HR2 := Lib.hid (show ((w'.alloc (.cells (vB (List.replicate s 0)).toArray 5)).drewN q).heap[w'.heap.size]? = some (.cells (vB (List.replicate s 0)).toArray 5 (0, 0)) from HR.out)
  have HS2 := Lib.hid ((HV1.out.keep ((Chg.refl (fun _ => False) _).drewN q) (fun h => h) (fun h => h)).bl HI.out)
  have HB2 := Lib.hid (below_drewN HB1.out q)
  clear hat hh hmk c1 HR HV1 HB1 HI
  generalize (w'.alloc (.cells (vB (List.replicate s 0)).toArray 5)).drewN q = W2 at *
  go_wp2_with ((with_reducible refine wpList_copy_op (dp := some ⟨w'.heap.size, 0, none⟩) (dLen := s) (dCap := s) (m := s) (off := 0) HR2.out HS2.out (Nat.min_self s) (fun _ => rfl) (by simp) ?_ ?_ ?_); rfl; rfl; intro w3 h3 hc3)
  go_wp2_with fail
  go_ret
  have hl := HS2.out.len
  have hrow := h3.out
  have hx : splice (List.replicate s (0 : Int)) 0 ((V.getD i []).take s) = V.getD i [] := by
    rw [List.take_of_length_le (by omega)]
    exact splice_all _ _ (by rw [hl, List.length_replicate])
  rw [hx] at hrow
  refine ⟨_, _, rfl, ?_, ?_, fun a ha => by cases ha; exact Nat.le_refl _⟩
  · have := BL.of_row (n := s) (off := 0) (c := s) hrow (by omega) (Nat.le_refl _) (by unfold maxLen; omega)
    rwa [List.drop_zero, List.take_of_length_le (by omega)] at this
  · exact hc3.below HB2.out HB2.out.size fun k hk => by rw [hk]; exact Nat.le_refl _
theorem disk_block_new {w : World} {col : Nat → Nat} {c B : Nat} {d : DS} (h : Dk w col c B d) (i : Nat) (hi : i < d.V.length) : Calls Try.prog 22 #[.pointer (some ⟨B, 0, none⟩), .int .i64 (i : Nat)] w fun e w' => ∃ p c, e = .returned (.slice p d.s c) ∧ BL w' p d.s c (d.sV.getD i []) ∧ Below w.heap.size w w' ∧ ∀ a, p = some a → w.heap.size ≤ a.block := by
  obtain ⟨A, h⟩ := h
  have hl := look_any h
  have HS := Lib.hid h.seen
  have HI : Hid (i < d.sV.length) := Lib.hid (by rw [show d.sV.length = d.V.length from foldV_len ..]; exact hi)
  clear h hi
  have hpv := parts_vol
  go_enter Try.func22, Try.ntmps22
  go_wp2_with fail
  refine hl.mono ?_
  rintro e w1 ⟨rfl, hb⟩
  have HB := Lib.hid hb
  obtain ⟨⟨G, hv, _⟩, _, _⟩ := HS.out.later hb
  have hc := block_new _ _ _ _ i w1 hv HI.out
  clear hl hb hv
  go_wp2_with fail
  refine hc.mono ?_
  rintro e w2 ⟨p, cp, rfl, h1, h2, h3⟩
  have H1 := Lib.hid h1
  have H2 := Lib.hid (HB.out.trans (h2.mono HB.out.size))
  have H3 : Hid (∀ a, p = some a → w.heap.size ≤ a.block) := Lib.hid fun a ha => Nat.le_trans HB.out.size (h3 a ha)
  clear h1 h2 h3 hc
  go_wp2_with fail
  go_ret
  exact ⟨_, _, rfl, H1.out, H2.out, H3.out⟩
theorem Hd.free {W w : World} {col : Nat → Nat} {c : Nat} (h : Hd W w col) {p : Option Addr} {m cp : Nat} {b : List Int} (hb : BL W p m cp b) (hc : 1 ≤ c) : 0 < m → ∀ a, p = some a → ¬ own col c a.block := fun h0 a ha ho => by
  obtain ⟨b, off, he, hlt, _⟩ := BL.at hb h0
  rw [he] at ha
  cases ha
  have := h.zero b hlt
  unfold own at ho
  simp only at ho
  omega
theorem str_data (L : List Int) : (strOfNums L).data = (L.map fun n => UInt8.ofNat n.toNat).toArray := rfl
theorem str_size (L : List Int) : (strOfNums L).size = L.length := by
  show (strOfNums L).data.size = _
  rw [str_data]
  simp
theorem str_append (L M : List Int) : strOfNums L ++ strOfNums M = strOfNums (L ++ M) := by
  apply ByteArray.ext
  rw [ByteArray.data_append, str_data, str_data, str_data]
  simp
theorem str_extract (L : List Int) (a b : Nat) : (strOfNums L).extract a b = strOfNums ((L.drop a).take (b - a)) := by
  apply ByteArray.ext
  rw [ByteArray.data_extract, str_data, str_data]
  apply Array.ext'
  simp [List.extract_eq_take_drop, List.map_drop, List.map_take]
theorem one_act (w : World) (y : Ac) (hy : BL w y.q y.m y.cq y.b ∧ y.k < 256) : AL (w.alloc (.cells (ac y).toArray 41)) (some ⟨w.heap.size, 0, none⟩) 1 1 [y] ∧ Below w.heap.size w (w.alloc (.cells (ac y).toArray 41)) := by
  have hb : Below w.heap.size w (w.alloc (.cells (ac y).toArray 41)) := (Below.refl _ _).alloc (Nat.le_refl _) _
  refine ⟨⟨⟨rfl, Nat.le_refl _, by unfold maxLen; omega, (fun e => by cases e), fun _ => ⟨w.heap.size, 0, rfl, by simp, fun j hj i v hv => ?_⟩⟩, fun z hz => ?_⟩, hb⟩
  · obtain rfl : j = 0 := by omega
    rw [Nat.zero_mul, Nat.zero_add]
    refine block_cell (alloc_block w _) ?_
    rw [List.getElem?_toArray]
    exact hv
  · rw [List.mem_singleton] at hz
    subst hz
    exact ⟨SlG.later hy.1 hb, hy.2⟩
theorem two_acts (w : World) (y z : Ac) (hy : BL w y.q y.m y.cq y.b ∧ y.k < 256) (hz : BL w z.q z.m z.cq z.b ∧ z.k < 256) : AL (w.alloc (.cells (ac y ++ ac z).toArray 41)) (some ⟨w.heap.size, 0, none⟩) 2 2 [y, z] ∧ Below w.heap.size w (w.alloc (.cells (ac y ++ ac z).toArray 41)) := by
  have hb : Below w.heap.size w (w.alloc (.cells (ac y ++ ac z).toArray 41)) := (Below.refl _ _).alloc (Nat.le_refl _) _
  refine ⟨⟨⟨rfl, Nat.le_refl _, by unfold maxLen; omega, (fun e => by cases e), fun _ => ⟨w.heap.size, 0, rfl, by simp, fun j hj i v hv => ?_⟩⟩, fun x hx => ?_⟩, hb⟩
  · have hi : i < 5 := (List.getElem?_eq_some_iff.1 hv).1
    refine block_cell (alloc_block w _) ?_
    rw [List.getElem?_toArray]
    have hj2 : j = 0 ∨ j = 1 := by omega
    rcases hj2 with rfl | rfl
    · rw [Nat.zero_mul, Nat.zero_add, List.getElem?_append_left (by rw [ac_len]; exact hi)]
      exact hv
    · rw [Nat.zero_add, List.getElem?_append_right (by rw [ac_len]; omega), ac_len, show 1 * 5 + i - 5 = i by omega]
      exact hv
  · rcases List.mem_cons.1 hx with rfl | hx
    · exact ⟨SlG.later hy.1 hb, hy.2⟩
    · rw [List.mem_singleton] at hx
      subst hx
      exact ⟨SlG.later hz.1 hb, hz.2⟩
structure Three (w W : World) (col : Nat → Nat) (B0 B1 B2 : Nat) (d0 d1 d2 : DS) : Prop where
  hd : Hd w W col
  h0 : Dk W col 1 B0 d0
  h1 : Dk W col 7 B1 d1
  h2 : Dk W col 13 B2 d2
section
variable {w W W' : World} {col : Nat → Nat} {B0 B1 B2 : Nat} {d0 d1 d2 d' : DS}
theorem Three.later (h : Three w W col B0 B1 B2 d0 d1 d2) (hb : Below W.heap.size W W') : Three w W' col B0 B1 B2 d0 d1 d2 := ⟨h.hd.later hb, h.h0.later hb, h.h1.later hb, h.h2.later hb⟩
theorem Three.recol {col' : Nat → Nat} (h : Three w W col B0 B1 B2 d0 d1 d2) (he : Ext W col col') : Three w W col' B0 B1 B2 d0 d1 d2 := ⟨h.hd.ext he, h.h0.recol he, h.h1.recol he, h.h2.recol he⟩
theorem Three.act0 (h : Three w W col B0 B1 B2 d0 d1 d2) (ht : Turned W col 1 B0 d' W') : ∃ col', Three w W' col' B0 B1 B2 d' d1 d2 := by
  obtain ⟨col', he, hd, hh, hc⟩ := h.hd.act ht (by omega)
  exact ⟨col', hh, hd, h.h1.other he hc (by omega) (by omega), h.h2.other he hc (by omega) (by omega)⟩
end
/-- What a block has, of which some bytes were put. -/
theorem tear_two (old b : List Int) (n : Nat) (hn : n ≤ old.length) (hb : b.length ≤ old.length) : (tearL old b old.length).take n ++ old.drop n = tearL old b n := by
  unfold tearL
  rw [List.drop_eq_nil_of_le (Nat.le_refl _), List.append_nil, List.take_append, List.take_take, List.take_replicate, List.append_assoc, Nat.min_eq_left hn]
  congr 2
  rw [List.length_take]
  congr 1
  omega
/-- A block put over a torn one. -/
theorem tear_back (s : Nat) (V : List (List Int)) (k : Nat) (x : List Int) (hx : x.length = s) (hk : k < V.length) (hall : ∀ y ∈ V, y.length = s) : (V.set k x).set k (tearL ((V.set k x).getD k []) (V.getD k []) s) = V := by
  have ho := getD_len hall hk
  have e : ∀ o, tearL o (V.getD k []) s = V.getD k [] ++ o.drop s := fun o => by
    unfold tearL
    rw [List.take_of_length_le (by omega), show s - (V.getD k []).length = 0 by omega]
    simp
  rw [e, getD_set hk, if_pos rfl, List.drop_eq_nil_of_le (by omega), List.append_nil, List.set_set, List.getD, List.getElem?_eq_getElem hk]
  simp
end Go.Proofs.Ytnciihekbbmiaaa
