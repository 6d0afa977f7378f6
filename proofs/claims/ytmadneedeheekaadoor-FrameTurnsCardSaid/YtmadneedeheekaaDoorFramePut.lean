/- frame.Size, frame.Put and the document's Put: what they answer. -/
import Derived.Test.YtmadneedeheekaaDoorFrameMath
import Derived.Test.YtmadneedeheekaaDoorWireTold
import Derived.Test.YtmadneedeheekaaDoorCrcRef
import Derived.Test.YtmadneedeheekaaDoorCrcMore
namespace Go.Proofs.YtmadneedeheekaaDoor
open Go.RowKit Go.ChangeShapes Go.WideShapes
set_option linter.unusedVariables false

/-- How many bytes a frame has. -/
def sizeI (n : Int) : Int := if n < 1 ∨ 512 < n then 0 else 6 + n
theorem size_any (n : Int) (w : World) :
    Calls Tryd.prog 9 #[.int .i64 n] w fun e w' => e = .returned (.int .i64 (sizeI n)) ∧ w = w' := by
  by_cases h1 : n < 1
  · rw [show sizeI n = 0 from if_pos (.inl h1)]
    go_enter Tryd.func9, Tryd.ntmps9
    go_wp2_with fail
    go_ret
    exact ⟨rfl, rfl⟩
  · by_cases h2 : 512 < n
    · rw [show sizeI n = 0 from if_pos (.inr h2)]
      go_enter Tryd.func9, Tryd.ntmps9
      go_wp2_with fail
      go_ret
      exact ⟨rfl, rfl⟩
    · rw [show sizeI n = 6 + n from if_neg (by omega)]
      go_enter Tryd.func9, Tryd.ntmps9
      go_wp2_with fail
      go_ret
      exact ⟨rfl, rfl⟩
/-- A slice of bytes, as the sum wants it. -/
theorem bytes_sl {w : World} {p : Option Addr} {n c : Nat} {L : List Nat} (h : Sl w p n c L) : Bytes w p n fun j => L.getD j 0 := by
  refine ⟨fun j _ => getD_lt h.lt j, fun h0 => ?_⟩
  obtain ⟨b, off, hp, hlt, hc⟩ := h.blk h0
  exact ⟨b, off, hp, hlt, hc⟩
theorem sum_sl (p : Option Addr) (n c : Nat) (L : List Nat) (w : World) (h : Sl w p n c L) (hbig : n ≤ 1000000) (hT : Tab w) :
    Calls Tryd.prog 19 #[.slice p n c] w fun e w' => e = .returned (.int .u32 ((sumL L : Nat) : Int)) ∧ w = w' := by
  have := sum_any p n c _ w (bytes_sl h) hbig hT
  rw [← h.len] at this ⊢
  exact this
theorem same_sl (p : Option Addr) (n c : Nat) (L : List Nat) (s : Int) (w : World) (h : Sl w p n c L) (hbig : n ≤ 1000000) (hT : Tab w) :
    Calls Tryd.prog 26 #[.slice p n c, .int .u32 s] w fun e w' => e = .returned (.bool (((sumL L : Nat) : Int) == s)) ∧ w = w' := by
  have := same_any p n c _ s w (bytes_sl h) hbig hT
  rw [← h.len] at this ⊢
  exact this
theorem rsum_sl (p : Option Addr) (n c : Nat) (L : List Nat) (w : World) (h : Sl w p n c L) (hbig : n ≤ 1000000) :
    Calls Tryd.prog 23 #[.slice p n c] w fun e w' => e = .returned (.int .u32 ((sumL L : Nat) : Int)) ∧ w = w' := by
  have := rsum_any p n c _ w (bytes_sl h) hbig
  rw [← h.len] at this ⊢
  exact this
/-- A call that hands back bytes of its own and an error. -/
def GivesE (W : World) (L : List Nat) (x : Int) (e : Ending) (w' : World) : Prop := ∃ p c, e = .returned (.tuple #[.slice p L.length c, .int .i64 x]) ∧ Sl w' p L.length c L ∧ Below W.heap.size W w' ∧ (∀ a, p = some a → W.heap.size ≤ a.block) ∧ c ≤ maxLen
/-- What Put hands back: the bytes, the error. -/
def putL (P : List Nat) : List Nat := if good P = true then frm P else []
def putE (P : List Nat) : Int := if P.length = 0 then 1 else if 512 < P.length then 7 else 0
theorem putE_good {P : List Nat} (h : good P = true) : putL P = frm P ∧ putE P = 0 := by
  have := (good_iff P).1 h
  exact ⟨if_pos h, by unfold putE; rw [if_neg (by omega), if_neg (by omega)]⟩
theorem putE_none {P : List Nat} (h : P.length = 0) : putL P = [] ∧ putE P = 1 := by
  refine ⟨if_neg fun h' => ?_, if_pos h⟩
  have := (good_iff P).1 h'
  omega
theorem putE_long {P : List Nat} (h : 512 < P.length) : putL P = [] ∧ putE P = 7 := by
  refine ⟨if_neg fun h' => ?_, by unfold putE; rw [if_neg (by omega), if_pos h]⟩
  have := (good_iff P).1 h'
  omega
theorem putE_bad {P : List Nat} (h : good P = false) : putL P = [] ∧ putE P ≠ 0 := by
  have h' : ¬ (1 ≤ P.length ∧ P.length ≤ 512) := fun hh => by rw [(good_iff P).2 hh] at h; cases h
  refine ⟨if_neg (by rw [h]; simp), ?_⟩
  unfold putE
  split
  · omega
  · split
    · omega
    · omega
theorem gives_nil (w : World) (x : Int) (q : Nat) : GivesE w [] x (.returned (.tuple #[.slice none 0 0, .int .i64 x])) (w.drewN q) :=
  ⟨none, 0, rfl, Sl.none, below_drewN (Below.refl _ _) _, (fun a h => by cases h), Nat.zero_le _⟩
theorem gives_nil0 (w : World) (x : Int) : GivesE w [] x (.returned (.tuple #[.slice none 0 0, .int .i64 x])) w :=
  ⟨none, 0, rfl, Sl.none, Below.refl _ _, (fun a h => by cases h), Nat.zero_le _⟩
theorem raw_step (most : Int) (L M : List Nat) (h : (L.length : Int) + (M.length : Int) ≤ most) : rawW most (0, L) M = (0, L ++ M) := by
  unfold rawW
  rw [if_pos rfl, if_neg (show ¬ most < ((L.length : Nat) : Int) + (M.length : Int) by omega)]
theorem num_step2 (most : Int) (L : List Nat) (x n : Nat) (h1 : 1 ≤ n) (h8 : n ≤ 8) (hx : x < 256 ^ n) (h : (L.length : Int) + (n : Int) ≤ most) : numW most (0, L) x n = (0, L ++ le x n) := by
  unfold numW
  rw [Int.toNat_natCast, if_pos ⟨by omega, by omega, hx⟩, raw_step _ _ _ (by rw [le_len]; exact h)]
theorem done_max (W w : World) (B : Nat) (most : Int) (L : List Nat) (h : WrOk W w B most (0, L)) (hl : L.length ≤ 100000) : Calls Tryd.prog 21 #[.pointer (some ⟨B, 0, none⟩)] w fun e w' => GivesE W L 0 e w' := by
  obtain ⟨v, hw, hB, hv, hb⟩ := h
  refine (done_any B v most (0, L) w hw hl).mono ?_
  rintro e w' ⟨h1, h2⟩
  rw [if_pos rfl] at h2
  obtain ⟨v, rfl, hr, ho⟩ := h2
  obtain ⟨q, d, rfl, hm, hs, hq⟩ := hr.sl
  exact ⟨_, _, rfl, hs, hb.trans (h1.mono hb.size), fun a ha => Nat.le_trans hb.size (ho _ (hq a ha)), hm⟩
theorem fput_any (p : Option Addr) (n c : Nat) (P : List Nat) (w : World) (hS : Sl w p n c P) (hn : n ≤ 1000000) (hT : Tab w) :
    Calls Tryd.prog 7 #[.slice p n c] w (GivesE w (putL P) (putE P)) := by
  have HS := Lib.hid hS
  have HT := Lib.hid hT
  have hl := hS.len
  clear hS hT
  by_cases h0 : n = 0
  · subst h0
    have he := putE_none hl
    rw [he.1, he.2]
    have HG := Lib.hid (gives_nil0 w 1)
    clear he hl
    go_enter Tryd.func7, Tryd.ntmps7
    go_wp2_with fail
    go_ret2
    exact HG.out
  · by_cases h5 : 512 < n
    · have he := putE_long (P := P) (by omega)
      rw [he.1, he.2]
      have HG := Lib.hid (gives_nil0 w 7)
      clear he hl
      go_enter Tryd.func7, Tryd.ntmps7
      go_wp2_with fail
      go_ret2
      exact HG.out
    · have hgood : good P = true := (good_iff P).2 (by omega)
      have he := putE_good hgood
      rw [he.1, he.2]
      have hs1 : sizeI (n : Int) = 6 + (n : Int) := if_neg (by omega)
      have hlim : lim (6 + (n : Int)) = 6 + (n : Int) := if_neg (by omega)
      have HL := Lib.hid hl
      have hx4 : sumL P < 4294967296 := sumL_lt P
      have N1 := Lib.hid (num_step2 (6 + (n : Int)) [] n 2 (by omega) (by omega) (by omega) (by simp; omega))
      have N2 := Lib.hid (num_step2 (6 + (n : Int)) (le n 2) (sumL P) 4 (by omega) (by omega) (by omega) (by rw [le_len]; omega))
      have N3 := Lib.hid (raw_step (6 + (n : Int)) (le n 2 ++ le (sumL P) 4) P (by rw [List.length_append, le_len, le_len, hl]; omega))
      have hfr : Hid (le n 2 ++ le (sumL P) 4 ++ P = frm P) := Lib.hid (by unfold frm; rw [hl, List.append_assoc])
      have hfl : Hid ((frm P).length ≤ 100000) := Lib.hid (by rw [frm_len]; omega)
      clear he hl hgood
      go_enter Tryd.func7, Tryd.ntmps7
      go_wp2_with fail
      refine (size_any _ _).mono ?_
      rintro e w1 ⟨rfl, rfl⟩
      rw [hs1]
      go_wp2_with fail
      refine (new_ok w w _ (Below.refl _ _)).mono ?_
      rintro e w1 ⟨B, rfl, hk⟩
      rw [hlim] at hk
      have HK := Lib.hid hk
      clear hk
      go_wp2_with fail
      refine (HK.out.step (T := (0, le n 2)) fun v hv => ?_).mono ?_
      · have := num_wr B v (6 + (n : Int)) (0, []) n 2 _ hv (by omega) (by omega) (by simp)
        rw [show (2 : Int) = ((2 : Nat) : Int) by rfl, N1.out] at this
        exact this
      rintro e w2 ⟨rfl, hk⟩
      have HK2 := Lib.hid hk
      have HS2 := Lib.hid (HS.out.later hk.below)
      have HT2 := Lib.hid (HT.out.later hk.below HT.out.lt)
      clear hk HK
      go_wp2_with fail
      refine (sum_sl p n c P _ HS2.out hn HT2.out).mono ?_
      rintro e w3 ⟨rfl, rfl⟩
      go_wp2_with fail
      refine (HK2.out.step (T := (0, le n 2 ++ le (sumL P) 4)) fun v hv => ?_).mono ?_
      · have := num_wr B v (6 + (n : Int)) (0, le n 2) (sumL P) 4 _ hv (by omega) (by omega) (by rw [le_len]; omega)
        rw [show (4 : Int) = ((4 : Nat) : Int) by rfl, N2.out] at this
        exact this
      rintro e w4 ⟨rfl, hk⟩
      have HK4 := Lib.hid hk
      have HS4 := Lib.hid (HS.out.later hk.below)
      clear hk HK2 HS2
      go_wp2_with fail
      refine (HK4.out.step (T := (0, frm P)) fun v hv => ?_).mono ?_
      · have := raw_any B v (6 + (n : Int)) (0, le n 2 ++ le (sumL P) 4) _ hv p n c P HS4.out (by omega) (by omega) (by rw [List.length_append, le_len, le_len]; omega)
        rw [N3.out, hfr.out] at this
        exact this
      rintro e w5 ⟨rfl, hk⟩
      have HK5 := Lib.hid hk
      clear hk HK4 HS4
      go_wp2_with fail
      refine (done_max w _ B _ _ HK5.out hfl.out).mono ?_
      rintro e w6 ⟨p', c', rfl, h1, h2, h3, h4⟩
      have HF : Hid (GivesE w (frm P) 0 (.returned (.tuple #[.slice p' (frm P).length c', .int .i64 0])) w6) := Lib.hid ⟨p', c', rfl, h1, h2, h3, h4⟩
      clear h1 h2 h3 h4
      generalize (frm P).length = m at *
      go_wp2_with fail
      go_ret2
      exact HF.out
end Go.Proofs.YtmadneedeheekaaDoor
