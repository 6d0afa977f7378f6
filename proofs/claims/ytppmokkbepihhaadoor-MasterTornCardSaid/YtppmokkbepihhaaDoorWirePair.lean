/- A reader and a writer side by side; what was read, with nothing left, is written so. -/
import Derived.Test.YtppmokkbepihhaaDoorWireWorks
namespace Go.Proofs.YtppmokkbepihhaaDoor
open Go.RowKit Go.ChangeShapes Go.WideShapes
set_option linter.unusedVariables false
set_option maxRecDepth 10000

/-- A reader and a writer that were made since W, apart. -/
def RwOk (W w : World) (Br Bw : Nat) (most : Int) (R S : St) : Prop :=
  ∃ p c v, Rd w Br p c R ∧ Wr w Bw v most S ∧ W.heap.size ≤ Br ∧ W.heap.size ≤ Bw ∧ Br ≠ Bw ∧ (∀ a, p = some a → W.heap.size ≤ a.block ∧ a.block < w.heap.size ∧ a.block ≠ Bw ∧ v.ownBlock ≠ some a.block) ∧ (∀ k, v.ownBlock = some k → W.heap.size ≤ k ∧ k ≠ Br) ∧ Below W.heap.size W w
theorem RwOk.below {W w : World} {Br Bw : Nat} {most : Int} {R S : St} (h : RwOk W w Br Bw most R S) : Below W.heap.size W w := by
  obtain ⟨_, _, _, _, _, _, _, _, _, _, h⟩ := h
  exact h
theorem RwOk.read {W w w' : World} {Br Bw : Nat} {most : Int} {R S T : St} {p : Option Addr} {c : Nat} {v : Value} (hw : Wr w Bw v most S) (h1 : W.heap.size ≤ Br) (h2 : W.heap.size ≤ Bw) (h3 : Br ≠ Bw)
    (h4 : ∀ a, p = some a → W.heap.size ≤ a.block ∧ a.block < w.heap.size ∧ a.block ≠ Bw ∧ v.ownBlock ≠ some a.block) (h5 : ∀ k, v.ownBlock = some k → W.heap.size ≤ k ∧ k ≠ Br) (h6 : Below W.heap.size W w) (h : Went w Br p T w') : RwOk W w' Br Bw most T S := by
  obtain ⟨p', c', hr, hf⟩ := h.rd
  refine ⟨p', c', v, hr, hw.chg h.chg (fun e => h3 e.symm) (fun k hk e => (h5 k hk).2 e), h1, h2, h3, fun a ha => ?_, h5, h.chg.below h6 h6.size fun k hk => by rw [hk]; exact h1⟩
  obtain ⟨a', e1, e2⟩ := hf a ha
  obtain ⟨g1, g2, g3, g4⟩ := h4 a' e1
  rw [e2]
  exact ⟨g1, Nat.lt_of_lt_of_le g2 h.chg.size, g3, g4⟩
theorem RwOk.write {W w : World} {Br Bw : Nat} {most : Int} {R S T : St} {f : Nat} {args : Array Value} (h : RwOk W w Br Bw most R S) (hc : ∀ v, Wr w Bw v most S → Calls Tryd.prog f args w (Wrot w Bw v most T)) :
    Calls Tryd.prog f args w fun e w' => e = .returned (.tuple #[]) ∧ RwOk W w' Br Bw most R T := by
  obtain ⟨p, c, v, hr, hw, h1, h2, h3, h4, h5, h6⟩ := h
  refine (hc v hw).mono ?_
  rintro e w' ⟨rfl, ⟨v', hw', hn⟩, hch⟩
  refine ⟨rfl, p, c, v', hr.chg hch ?_ ?_, hw', h1, h2, h3, fun a ha => ?_, fun k hk => ?_, hch.below h6 h6.size fun k hk => ?_⟩
  · rintro (e | e)
    · exact h3 e
    · exact (h5 _ e).2 rfl
  · intro a ha
    rintro (e | e)
    · exact (h4 a ha).2.2.1 e
    · exact (h4 a ha).2.2.2 e
  · obtain ⟨g1, g2, g3, g4⟩ := h4 a ha
    refine ⟨g1, Nat.lt_of_lt_of_le g2 hch.size, g3, fun e => ?_⟩
    rcases hn _ e with e | e
    · exact g4 e
    · omega
  · rcases hn _ hk with e | e
    · exact h5 k e
    · have := hr.lt
      exact ⟨Nat.le_trans h6.size e, by omega⟩
  · rcases hk with rfl | e
    · exact h2
    · exact (h5 k e).1
theorem rw_num (W w : World) (Br Bw : Nat) (most size : Int) (R S : St) (h : RwOk W w Br Bw most R S) (hb : R.2.length ≤ 90000) : Calls Tryd.prog 35 #[.pointer (some ⟨Br, 0, none⟩), .int .i64 size] w fun e w' => e = .returned (.int .u64 (((numR R size).2 : Nat) : Int)) ∧ RwOk W w' Br Bw most (numR R size).1 S := by
  obtain ⟨p, c, v, hr, hw, h1, h2, h3, h4, h5, h6⟩ := h
  refine (num_any Br c p R size w hr (by omega)).mono ?_
  rintro e w' ⟨rfl, h⟩
  exact ⟨rfl, RwOk.read (R := R) (c := c) hw h1 h2 h3 h4 h5 h6 h⟩
/-- Read, and then New. -/
theorem rw_new (W w w1 : World) (m : Int) (B : Nat) (p : Option Addr) (c : Nat) (L : List Nat) (hb : Below W.heap.size W w) (h1 : w.heap.size ≤ B) (h2 : Rd w1 B p c (0, L)) (h3 : ∀ a, p = some a → w.heap.size ≤ a.block ∧ a.block < w1.heap.size) (h4 : Below w.heap.size w w1) :
    Calls Tryd.prog 16 #[.int .i64 m] w1 fun e w' => ∃ Bw, e = .returned (.pointer (some ⟨Bw, 0, none⟩)) ∧ RwOk W w' B Bw (lim m) (0, L) (0, []) ∧ Below w1.heap.size w1 w' := by
  refine (new_any m w1).mono ?_
  rintro e w' ⟨rfl, rfl⟩
  have hc : Below w1.heap.size w1 (w1.alloc (.cells #[.int .i64 0, .int .i64 (if m < 0 then 0 else m), .slice none 0 0] 64)) := (Below.refl _ _).alloc (Nat.le_refl _) _
  have hB := h2.lt
  have hs := h4.size
  have hs' := hb.size
  refine ⟨_, rfl, ⟨p, c, _, h2.chg (Chg.of_below (S := fun _ => False) hc) (fun h => h) (fun _ _ h => h), new_wr w1 (lim m), by omega, by omega, by omega, fun a ha => ?_, (fun k hk => by cases hk), (hb.trans (h4.mono hs')).trans (hc.mono (by omega))⟩, hc⟩
  obtain ⟨g1, g2⟩ := h3 a ha
  exact ⟨by omega, Nat.lt_of_lt_of_le g2 hc.size, by omega, fun h => by cases h⟩

theorem rw_done (W w : World) (Br Bw : Nat) (most : Int) (R S : St) (h : RwOk W w Br Bw most R S) (hl : S.2.length ≤ 100000) : Calls Tryd.prog 19 #[.pointer (some ⟨Bw, 0, none⟩)] w fun e w' => RwOk W w' Br Bw most R S ∧ ∃ q n d x, e = .returned (.tuple #[.slice q n d, .int .i64 x]) ∧ (S.1 = 0 → x = 0 ∧ Sl w' q n d S.2) := by
  obtain ⟨p, c, v, hr, hw, h1, h2, h3, h4, h5, h6⟩ := h
  refine (done_any Bw v most S w hw hl).mono ?_
  rintro e w' ⟨g1, g2⟩
  have hc : Chg (fun _ => False) w w' := Chg.of_below g1
  refine ⟨⟨p, c, v, hr.chg hc (fun h => h) (fun _ _ h => h), hw.chg hc (fun h => h) (fun _ _ h => h), h1, h2, h3, fun a ha => ?_, h5, h6.trans (g1.mono h6.size)⟩, ?_⟩
  · obtain ⟨f1, f2, f3, f4⟩ := h4 a ha
    exact ⟨f1, Nat.lt_of_lt_of_le f2 g1.size, f3, f4⟩
  · split at g2
    · obtain ⟨v', rfl, hrow, _⟩ := g2
      obtain ⟨q, d, rfl, _, hs, _⟩ := hrow.sl
      exact ⟨q, _, d, 0, rfl, fun _ => ⟨rfl, hs⟩⟩
    · rename_i h0
      subst g2
      exact ⟨_, _, _, _, rfl, fun h => absurd h h0⟩
/-- As long as nothing is wrong with the reader, what is written and what is left are what was handed in. -/
def Inv (L : List Nat) (R S : St) : Prop := (R.1 = 0 → S.1 = 0 ∧ S.2 ++ R.2 = L) ∧ S.2.length ≤ 1000 ∧ R.2.length ≤ 400 ∧ (∀ y ∈ R.2, y < 256) ∧ L.length ≤ 400
theorem rawW_len (S : St) (M : List Nat) (h : S.2.length ≤ 1000) : (rawW 1000 S M).2.length ≤ 1000 := by
  unfold rawW
  split
  · split
    · exact h
    · show (S.2 ++ M).length ≤ 1000
      rw [List.length_append]; omega
  · exact h
theorem takeR_rest (S : St) (n : Nat) : ∃ k, (takeR S n).1.2 = S.2.drop k := by
  unfold takeR
  split
  · split
    · exact ⟨0, rfl⟩
    · exact ⟨n, rfl⟩
  · exact ⟨0, rfl⟩
theorem bad_two (e : Int) (S : St) : (bad e S).2 = S.2 := by unfold bad; split <;> rfl
theorem numR_rest (S : St) (size : Int) : ∃ k, (numR S size).1.2 = S.2.drop k := by
  unfold numR
  split
  · exact takeR_rest S _
  · exact ⟨0, bad_two 1 S⟩
theorem boolR_rest (S : St) : ∃ k, (boolR S).1.2 = S.2.drop k := by
  obtain ⟨k, hk⟩ := numR_rest S 1
  unfold boolR
  split
  · exact ⟨k, by rw [← hk]; exact bad_two 8 _⟩
  · exact ⟨k, hk⟩
theorem bytesR_rest (S : St) (most : Int) : ∃ k, (bytesR S most).1.2 = S.2.drop k := by
  obtain ⟨k, hk⟩ := numR_rest S 2
  unfold bytesR
  obtain ⟨j, hj⟩ := takeR_rest (if most < ((numR S 2).2 : Int) then bad 7 (numR S 2).1 else (numR S 2).1) (numR S 2).2
  refine ⟨k + j, ?_⟩
  rw [hj]
  split
  · rw [bad_two, hk, List.drop_drop]
  · rw [hk, List.drop_drop]
theorem takeR_len2 (S : St) (n : Nat) : (takeR S n).2.length ≤ S.2.length := by
  unfold takeR
  by_cases h : S.1 = 0
  · rw [if_pos h]
    by_cases h2 : S.2.length < n
    · rw [if_pos h2]; exact Nat.zero_le _
    · rw [if_neg h2]; show (S.2.take n).length ≤ _; rw [List.length_take]; omega
  · rw [if_neg h]; exact Nat.zero_le _
theorem bytesR_len (S : St) (most : Int) : (bytesR S most).2.length ≤ S.2.length := by
  obtain ⟨k, hk⟩ := numR_rest S 2
  unfold bytesR
  refine Nat.le_trans (takeR_len2 _ _) ?_
  split
  · rw [bad_two, hk, List.length_drop]; omega
  · rw [hk, List.length_drop]; omega
theorem rest_inv {L : List Nat} {R S R' S' : St} (h : Inv L R S) (hr : ∃ k, R'.2 = R.2.drop k) (hs : S'.2.length ≤ 1000) (hg : R'.1 = 0 → S'.1 = 0 ∧ S'.2 ++ R'.2 = L) : Inv L R' S' := by
  obtain ⟨k, hk⟩ := hr
  refine ⟨hg, hs, ?_, fun y hy => ?_, h.2.2.2.2⟩
  · rw [hk, List.length_drop]; have := h.2.2.1; omega
  · rw [hk] at hy; exact h.2.2.2.1 y (List.mem_of_mem_drop hy)
/-- What take answers where nothing is wrong behind it. -/
theorem takeR_ok (S : St) (n : Nat) (h : (takeR S n).1.1 = 0) : S.1 = 0 ∧ n ≤ S.2.length ∧ takeR S n = ((0, S.2.drop n), S.2.take n) := by
  unfold takeR at h ⊢
  by_cases h0 : S.1 = 0
  · rw [if_pos h0] at h ⊢
    by_cases hl : S.2.length < n
    · rw [if_pos hl] at h
      replace h : (6 : Int) = 0 := h
      omega
    · rw [if_neg hl]
      exact ⟨h0, by omega, rfl⟩
  · rw [if_neg h0] at h
    exact absurd h h0
theorem bad_ok (e : Int) (S : St) (he : e ≠ 0) : (bad e S).1 ≠ 0 := by
  unfold bad
  split
  · exact he
  · assumption
theorem numR_ok (S : St) (n : Nat) (h1 : 1 ≤ n) (h8 : n ≤ 8) (h : (numR S n).1.1 = 0) : S.1 = 0 ∧ n ≤ S.2.length ∧ numR S n = ((0, S.2.drop n), un (S.2.take n)) := by
  unfold numR at h ⊢
  rw [if_pos (by omega), Int.toNat_natCast] at h ⊢
  obtain ⟨a, b, c⟩ := takeR_ok S n h
  rw [c]
  exact ⟨a, b, rfl⟩
theorem rawW_ok (S : St) (M : List Nat) (h : S.1 = 0) (hl : S.2.length + M.length ≤ 1000) : rawW 1000 S M = (0, S.2 ++ M) := by
  unfold rawW
  rw [if_pos h, if_neg (by omega)]
theorem inv_num (L : List Nat) (R S : St) (n : Nat) (h1 : 1 ≤ n) (h8 : n ≤ 8) (h : Inv L R S) : Inv L (numR R n).1 (numW 1000 S (numR R n).2 n) := by
  refine rest_inv h (numR_rest R n) ?_ fun h0 => ?_
  · unfold numW
    split
    · exact rawW_len S _ h.2.1
    · rw [bad_two]; exact h.2.1
  · obtain ⟨a, b, c⟩ := numR_ok R n h1 h8 h0
    obtain ⟨d, e⟩ := h.1 a
    have hlt : ∀ y ∈ R.2.take n, y < 256 := fun y hy => h.2.2.2.1 y (List.mem_of_mem_take hy)
    have htl : (R.2.take n).length = n := by rw [List.length_take]; omega
    have hu := un_lt _ hlt
    have hle := le_un _ hlt
    rw [htl] at hu hle
    have hLl := h.2.2.2.2
    rw [← e, List.length_append] at hLl
    rw [c]
    show (numW 1000 S (un (R.2.take n)) n).1 = 0 ∧ (numW 1000 S (un (R.2.take n)) n).2 ++ R.2.drop n = L
    unfold numW
    rw [Int.toNat_natCast, if_pos ⟨by omega, by omega, hu⟩, hle, rawW_ok S _ d (by rw [htl]; omega)]
    refine ⟨rfl, ?_⟩
    rw [List.append_assoc, List.take_append_drop]
    exact e
theorem inv_bool (L : List Nat) (R S : St) (h : Inv L R S) : Inv L (boolR R).1 (rawW 1000 S [bit (boolR R).2]) := by
  refine rest_inv h (boolR_rest R) (rawW_len S _ h.2.1) fun h0 => ?_
  unfold boolR at h0 ⊢
  by_cases hx : 1 < (numR R 1).2
  · rw [if_pos hx] at h0
    exact absurd h0 (bad_ok 8 _ (by omega))
  · rw [if_neg hx] at h0 ⊢
    obtain ⟨a, b, c⟩ := numR_ok R 1 (by omega) (by omega) h0
    obtain ⟨d, e⟩ := h.1 a
    have hLl := h.2.2.2.2
    rw [← e, List.length_append] at hLl
    rw [show numR R 1 = ((0, R.2.drop 1), un (R.2.take 1)) from c] at hx ⊢
    replace hx : ¬ 1 < un (R.2.take 1) := hx
    show (rawW 1000 S [bit (un (R.2.take 1) == 1)]).1 = 0 ∧ (rawW 1000 S [bit (un (R.2.take 1) == 1)]).2 ++ R.2.drop 1 = L
    rw [rawW_ok S _ d (by simp; omega)]
    refine ⟨rfl, ?_⟩
    rw [List.append_assoc]
    rw [← e]
    congr 1
    obtain ⟨y, l, hR⟩ : ∃ y l, R.2 = y :: l := by
      cases hh : R.2 with
      | nil => rw [hh] at b; simp at b
      | cons y l => exact ⟨y, l, rfl⟩
    rw [hR] at hx ⊢
    simp only [List.take_succ_cons, List.take_zero, un, List.drop_succ_cons, List.drop_zero] at hx ⊢
    have : y = 0 ∨ y = 1 := by omega
    rcases this with rfl | rfl <;> rfl
theorem inv_bytes (L : List Nat) (R S : St) (most : Int) (h : Inv L R S) : Inv L (bytesR R most).1 (bytesW 1000 S (bytesR R most).2) := by
  refine rest_inv h (bytesR_rest R most) ?_ fun h0 => ?_
  · unfold bytesW
    split
    · rw [bad_two]; exact h.2.1
    · exact rawW_len S _ h.2.1
  · unfold bytesR at h0 ⊢
    obtain ⟨a, b, c⟩ := takeR_ok _ _ h0
    rw [c]
    by_cases hx : most < ((numR R 2).2 : Int)
    · rw [if_pos hx] at a
      exact absurd a (bad_ok 7 _ (by omega))
    · rw [if_neg hx] at a b ⊢
      obtain ⟨a2, b2, c2⟩ := numR_ok R 2 (by omega) (by omega) a
      obtain ⟨d, e⟩ := h.1 a2
      have hLl := h.2.2.2.2
      rw [← e, List.length_append] at hLl
      rw [show numR R 2 = ((0, R.2.drop 2), un (R.2.take 2)) from c2] at b ⊢
      replace b : un (R.2.take 2) ≤ (R.2.drop 2).length := b
      rw [List.length_drop] at b
      show (bytesW 1000 S ((R.2.drop 2).take (un (R.2.take 2)))).1 = 0 ∧ (bytesW 1000 S ((R.2.drop 2).take (un (R.2.take 2)))).2 ++ (R.2.drop 2).drop (un (R.2.take 2)) = L
      have hlt : ∀ y ∈ R.2.take 2, y < 256 := fun y hy => h.2.2.2.1 y (List.mem_of_mem_take hy)
      have htl : (R.2.take 2).length = 2 := by rw [List.length_take]; omega
      have hle := le_un _ hlt
      rw [htl] at hle
      generalize un (R.2.take 2) = x at *
      have hml : ((R.2.drop 2).take x).length = x := by rw [List.length_take, List.length_drop]; omega
      unfold bytesW
      rw [hml, if_neg (by omega), hle, rawW_ok S _ d (by rw [List.length_append, htl, hml]; omega)]
      refine ⟨rfl, ?_⟩
      rw [List.append_assoc, List.append_assoc, List.take_append_drop, List.take_append_drop]
      exact e
theorem inv_end (L : List Nat) (R S : St) (h : Inv L R S) (h0 : endR R = 0) : S = (0, L) := by
  unfold endR at h0
  split at h0
  · omega
  · rename_i hn
    obtain ⟨a, b⟩ := h.1 h0
    have : R.2 = [] := List.eq_nil_of_length_eq_zero (by
      have := fun hh => hn ⟨h0, hh⟩
      omega)
    rw [this, List.append_nil] at b
    exact Prod.ext a b
theorem inv_start (L : List Nat) (h : L.length ≤ 400) (hlt : ∀ y ∈ L, y < 256) : Inv L (0, L) (0, []) := ⟨fun _ => ⟨rfl, rfl⟩, by simp, h, hlt, h⟩
theorem sl_first {w : World} {x : Addr} {zs : List Int} (k c : Nat) (hk : k ≤ zs.length) (hkc : k ≤ c) (hc : ∀ i, i < zs.length → w.cell? (x.add i) = some (.int .u8 (zs.getD i 0))) (hwf : ∀ n ∈ zs, (Lit.int .u8 n).wf = true) : Sl w (some x) k c ((zs.take k).map Int.toNat) := by
  have hz : ∀ z ∈ zs, 0 ≤ z ∧ z ≤ 255 := fun z hz => bounds_u8 (hwf z hz)
  refine ⟨by simp; omega, hkc, (fun h => by cases h), fun y hy => ?_, fun h0 => ?_⟩
  · obtain ⟨z, hz1, rfl⟩ := List.mem_map.1 hy
    have := hz z (List.mem_of_mem_take hz1)
    omega
  · obtain ⟨b, off, spot⟩ := x
    have h00 := hc 0 (by omega)
    have hspot : spot = none := by simpa [Addr.add] using World.cell?_spot h00
    subst hspot
    refine ⟨b, off, rfl, fun j hj => ?_⟩
    have hjl : j < zs.length := by omega
    have e : ((zs.take k).map Int.toNat).getD j 0 = (zs.getD j 0).toNat := by
      simp [List.getD, hj, List.getElem?_eq_getElem hjl]
    have hb := hz (zs.getD j 0) (by rw [List.getD, List.getElem?_eq_getElem hjl]; simp)
    rw [e, Int.toNat_of_nonneg hb.1, ← Go.WideShapes.add_plain]
    exact hc j hjl
/-- The least of a length and a bound, as the walk spells it. -/
theorem least (len B : Nat) : ∃ k : Nat, min (len : Int) (B : Int) = (k : Int) ∧ k ≤ len ∧ k ≤ B :=
  ⟨min len B, by omega, Nat.min_le_left _ _, Nat.min_le_right _ _⟩
end Go.Proofs.YtppmokkbepihhaaDoor
