/- Acts: few; the chapter's example. -/
import Derived.Test.YtafpbgogjnbfpaaTapeDo
namespace Go.Proofs.Ytafpbgogjnbfpaa
open Go.RowKit Go.ChangeShapes Go.WideShapes
set_option linter.unusedVariables false
set_option linter.unusedSimpArgs false

/-- An act, its bytes among it. -/
structure Ac where
  k : Nat
  q : Option Addr
  m : Nat
  cq : Nat
  b : List Int
  x : Int
def ac0 : Ac := ⟨0, none, 0, 0, [], 0⟩
/-- An act's cells. -/
def ac (a : Ac) : List Value := [.int .u8 (a.k : Nat), .slice a.q a.m a.cq, .int .i64 a.x]
theorem ac_len (a : Ac) : (ac a).length = 3 := rfl
/-- A slice of acts, each act's bytes in their row. -/
structure AL (w : World) (p : Option Addr) (n c : Nat) (L : List Ac) : Prop where
  row : SlG ac 3 ac0 w p n c L
  each : ∀ y ∈ L, BL w y.q y.m y.cq y.b ∧ y.k < 256
theorem AL.later {w w' : World} {p : Option Addr} {n c : Nat} {L : List Ac} (h : AL w p n c L) (hb : Below w.heap.size w w') : AL w' p n c L := ⟨h.row.later hb, fun y hy => ⟨SlG.later (h.each y hy).1 hb, (h.each y hy).2⟩⟩
theorem AL.at {w : World} {p : Option Addr} {n c : Nat} {L : List Ac} (h : AL w p n c L) {j : Nat} (hj : j < n) : ∃ b off, p = some ⟨b, off, none⟩ ∧ b < w.heap.size ∧ (w.cell? ⟨b, off + j * 3, none⟩ = some (.int .u8 ((L.getD j ac0).k : Nat)) ∧ w.cell? ⟨b, off + j * 3 + 1, none⟩ = some (.slice (L.getD j ac0).q (L.getD j ac0).m (L.getD j ac0).cq) ∧ w.cell? ⟨b, off + j * 3 + 2, none⟩ = some (.int .i64 (L.getD j ac0).x)) ∧ BL w (L.getD j ac0).q (L.getD j ac0).m (L.getD j ac0).cq (L.getD j ac0).b ∧ (L.getD j ac0).k < 256 := by
  obtain ⟨b, off, rfl, hb, hc⟩ := h.row.cell (by omega)
  have hl : j < L.length := by rw [h.row.len]; exact hj
  have hm : L.getD j ac0 ∈ L := by
    rw [List.getD, List.getElem?_eq_getElem hl]
    exact List.getElem_mem hl
  exact ⟨b, off, rfl, hb, ⟨hc j hj 0 _ rfl, hc j hj 1 _ rfl, hc j hj 2 _ rfl⟩, (h.each _ hm).1, (h.each _ hm).2⟩
/-- What few says. -/
def FewSays (n : Nat) (L : List Ac) (w : World) (e : Ending) (w' : World) : Prop := (∃ t : Bool, e = .returned (.bool t) ∧ (t = true → n ≤ 40 ∧ ∀ j, j < n → (L.getD j ac0).m ≤ 600)) ∧ w' = w
set_option maxHeartbeats 1000000 in
theorem few_any (p : Option Addr) (n c : Nat) (L : List Ac) (w : World) (h : AL w p n c L) : Calls Try.prog 7 #[.slice p n c] w (FewSays n L w) := by
  have H := Lib.hid h
  clear h
  go_enter Try.func7, Try.ntmps7
  by_cases hn : 40 < n
  · have hn' : (40 : Int) < n := by omega
    go_wp2_with fail
    go_ret
    exact ⟨⟨false, rfl, fun h => by cases h⟩, rfl⟩
  · have hn' : ¬ (40 : Int) < n := by omega
    go_wp2_with fail
    go_loop [3] (fun i => ∃ k : Nat, k ≤ n ∧ i = .int .i64 k ∧ Hid (∀ j, j < k → (L.getD j ac0).m ≤ 600)) (fun i => n - (intOf i).toNat)
    case atStart => exact ⟨0, Nat.zero_le _, rfl, Lib.hid fun j hj => by omega⟩
    case round =>
      obtain ⟨k, hk, rfl, HK⟩ := hrel
      by_cases hlt : k < n
      · have hlt' : (k : Int) < n := by omega
        obtain ⟨b, off, rfl, _, ⟨_, c1, _⟩, _⟩ := H.out.at hlt
        have HM : Hid ((L.getD k ac0).m ≤ 600 → ∀ j, j < k + 1 → (L.getD j ac0).m ≤ 600) := Lib.hid fun h j hj => by
          rcases Nat.lt_or_ge j k with h' | h'
          · exact HK.out j h'
          · obtain rfl : j = k := by omega
            exact h
        generalize (L.getD k ac0).q = q at *
        generalize (L.getD k ac0).m = m at *
        generalize (L.getD k ac0).cq = cq at *
        by_cases hm : 600 < m
        · have hm' : (600 : Int) < m := by omega
          go_wp2_with fail
          go_ret
          exact ⟨⟨false, rfl, fun h => by cases h⟩, rfl⟩
        · have hm' : ¬ (600 : Int) < m := by omega
          go_wp2_with fail
          go_round
          case rel => exact ⟨k + 1, by omega, by go_num, Lib.hid (HM.out (by omega))⟩
          case measure => simp [intOf]; omega
      · obtain rfl : k = n := by omega
        go_wp2_with fail
        go_ret
        exact ⟨⟨true, rfl, fun _ => ⟨by omega, HK.out⟩⟩, rfl⟩
theorem works_drop (Z : List Int) (h : Z.length = 130) : dropT 64 ⟨0, Z⟩ 129 = ⟨2, Z.drop 128⟩ := by
  have hg : gone 64 ⟨0, Z⟩ 129 = 2 := by
    unfold gone cl
    dsimp only
    rw [h]
    decide
  unfold dropT
  rw [hg]
set_option maxHeartbeats 400000 in
theorem tape_works (w : World) : Calls Try.prog 8 #[] w fun e w' => e = .returned (.bool true) ∧ Below w.heap.size w w' := by
  obtain ⟨Z, hZ⟩ : ∃ Z, List.replicate 130 (0 : Int) = Z := ⟨_, rfl⟩
  have hZl : Z.length = 130 := by rw [← hZ, List.length_replicate]
  have HZ := Lib.hid hZ
  have HZL := Lib.hid hZl
  clear hZ hZl
  have hn := tape_new 64 w
  have htp : Tp (w.alloc (.cells #[.int .i64 64, .int .i64 0, .int .i64 0, .map none] 47)) w.heap.size none (fun k => k = w.heap.size) 64 64 ⟨0, []⟩ := (new_tape w 64).mono fun k h1 h2 => by simp at h2; omega
  have hb1 : Below w.heap.size w (w.alloc (.cells #[.int .i64 64, .int .i64 0, .int .i64 0, .map none] 47)) := (Below.refl _ _).alloc (Nat.le_refl _) _
  have hs1 : (w.alloc (.cells #[.int .i64 64, .int .i64 0, .int .i64 0, .map none] 47)).heap.size = w.heap.size + 1 := by simp
  go_enter Try.func8, Try.ntmps8
  go_wp2_with fail
  refine hn.mono ?_
  rintro e W1 ⟨rfl, hW1⟩
  rw [← hW1] at htp hb1 hs1
  have hmk : (Instr.makeSlice 27 (.int .i64 130) (.int .i64 130)).run Try.prog W1 = .ok (.slice (some ⟨W1.heap.size, 0, none⟩) 130 130) (W1.alloc (.cells (vB Z).toArray 5)) := by rw [← HZ.out]; exact made_bytes 130 (by omega) W1
  have hbx : Below W1.heap.size W1 (W1.alloc (.cells (vB Z).toArray 5)) := (Below.refl _ _).alloc (Nat.le_refl _) _
  have hbl : BL (W1.alloc (.cells (vB Z).toArray 5)) (some ⟨W1.heap.size, 0, none⟩) 130 130 Z := by
    have := BL.of_row (n := 130) (off := 0) (c := 130) (alloc_block W1 (.cells (vB Z).toArray 5)) (by rw [HZL.out]; omega) (Nat.le_refl _) (by unfold maxLen; omega)
    rwa [List.drop_zero, List.take_of_length_le (by rw [HZL.out]; omega)] at this
  have hadd := tape_add (htp.later hbx) (some ⟨W1.heap.size, 0, none⟩) 130 130 Z hbl (fun _ ad ha hq => by cases ha; have : W1.heap.size = w.heap.size := hq; omega) (by show 0 * 64 + 0 + 130 ≤ 1000000; omega)
  have HB2 := Lib.hid (hb1.trans (hbx.mono hb1.size))
  have HS2 : Hid (∀ k, k = w.heap.size ∨ (W1.alloc (.cells (vB Z).toArray 5)).heap.size ≤ k → w.heap.size ≤ k) := Lib.hid fun k hk => by
    rcases hk with hk | hk
    · omega
    · have := hbx.size
      omega
  have hTT : appT ⟨0, []⟩ Z = ⟨0, Z⟩ := rfl
  rw [hTT, hs1] at hadd
  clear hW1 hn htp hb1 hbx hbl
  generalize hW2 : W1.alloc (.cells (vB Z).toArray 5) = W2 at *
  go_wp2_with fail
  (try simp only [hW2])
  refine hadd.mono ?_
  rintro e W3 ⟨rfl, ⟨mb3, ht3⟩, hc3⟩
  have hb3 := hc3.below HB2.out HB2.out.size (fun k hk => by omega)
  have hdr := tape_drop ht3 129 (by show 0 * 64 + Z.length ≤ 1000000; rw [HZL.out]; omega)
  rw [works_drop Z HZL.out] at hdr
  have HB3 := Lib.hid hb3
  clear hadd hc3 hb3 ht3
  go_wp2_with fail
  refine hdr.mono ?_
  rintro e W4 ⟨rfl, ht4, hc4⟩
  have HB4 := Lib.hid (hc4.below HB3.out HB3.out.size HS2.out)
  have h1 := tape_first ht4
  have h2 := tape_segs ht4
  have h3 := tape_end ht4
  have h1' : Calls Try.prog 14 #[.pointer (some ⟨w.heap.size, 0, none⟩)] W4 fun e w' => e = .returned (.int .i64 128) ∧ w' = W4 := h1
  have h2' : Calls Try.prog 16 #[.pointer (some ⟨w.heap.size, 0, none⟩)] W4 fun e w' => e = .returned (.int .i64 1) ∧ w' = W4 := by
    have e1 : nS 64 (Z.drop 128).length = 1 := by rw [List.length_drop, HZL.out]; rfl
    have h9 := h2
    dsimp only at h9
    rw [e1] at h9
    exact h9
  have h3' : Calls Try.prog 15 #[.pointer (some ⟨w.heap.size, 0, none⟩)] W4 fun e w' => e = .returned (.int .i64 130) ∧ w' = W4 := by
    have e1 : 2 * 64 + (Z.drop 128).length = 130 := by rw [List.length_drop, HZL.out]
    have h9 := h3
    dsimp only at h9
    rw [e1] at h9
    exact h9
  clear h1 h2 h3
  clear hdr hc4 ht4
  go_wp2_with fail
  refine h1'.mono ?_
  rintro e W5 ⟨rfl, rfl⟩
  go_wp2_with fail
  refine h2'.mono ?_
  rintro e W6 ⟨rfl, rfl⟩
  go_wp2_with fail
  refine h3'.mono ?_
  rintro e W7 ⟨rfl, rfl⟩
  go_wp2_with fail
  go_ret
  exact ⟨rfl, HB4.out⟩
end Go.Proofs.Ytafpbgogjnbfpaa
