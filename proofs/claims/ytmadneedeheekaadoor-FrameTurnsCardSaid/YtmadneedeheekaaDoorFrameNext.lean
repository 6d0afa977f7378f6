/- The document's Put; frame.Next. -/
import Derived.Test.YtmadneedeheekaaDoorFramePut
namespace Go.Proofs.YtmadneedeheekaaDoor
open Go.RowKit Go.ChangeShapes Go.WideShapes
set_option linter.unusedVariables false

theorem Row.gives {W w : World} {v : Value} {n : Nat} {L : List Nat} (x : Int) (h : Row w v n L) (hb : Below W.heap.size W w) (hk : ∀ k, v.ownBlock = some k → W.heap.size ≤ k) : GivesE W L x (.returned (.tuple #[v, .int .i64 x])) w := by
  obtain ⟨p, c, rfl, hm, hs, hq⟩ := h.sl
  have := h.len
  subst this
  exact ⟨p, c, rfl, hs, hb, fun a ha => hk _ (hq a ha), hm⟩
theorem rput_any (p : Option Addr) (n c : Nat) (P : List Nat) (w : World) (hS : Sl w p n c P) (hn : n ≤ 1000000) :
    Calls Tryd.prog 8 #[.slice p n c] w (GivesE w (putL P) (putE P)) := by
  have HS := Lib.hid hS
  have hl := hS.len
  clear hS
  by_cases h0 : n = 0
  · subst h0
    have he := putE_none hl
    rw [he.1, he.2]
    have HG := Lib.hid (gives_nil0 w 1)
    clear he hl
    go_enter Tryd.func8, Tryd.ntmps8
    go_wp2_with fail
    go_ret2
    exact HG.out
  · by_cases h5 : 512 < n
    · have he := putE_long (P := P) (by omega)
      rw [he.1, he.2]
      have HG := Lib.hid (gives_nil0 w 7)
      clear he hl
      go_enter Tryd.func8, Tryd.ntmps8
      go_wp2_with fail
      go_ret2
      exact HG.out
    · have hgood : good P = true := (good_iff P).2 (by omega)
      have he := putE_good hgood
      rw [he.1, he.2]
      have hx4 : sumL P < 4294967296 := sumL_lt P
      have hfr : Hid (le n 2 ++ (le (sumL P) 4 ++ P) = frm P) := Lib.hid (by unfold frm; rw [hl])
      clear he hl hgood
      go_enter Tryd.func8, Tryd.ntmps8
      go_wp2_with fail
      refine (rnum_any n 2 _ (by omega) (by omega)).mono ?_
      rintro e w1 ⟨v, rfl, hr, hb, hk⟩
      obtain ⟨p1, c1, rfl, _⟩ := hr.sl
      have HR := Lib.hid hr
      have HB := Lib.hid hb
      have HK := Lib.hid hk
      have HS1 := Lib.hid (HS.out.later hb)
      clear hr hb hk
      go_wp2_with fail
      refine (rsum_sl p n c P _ HS1.out hn).mono ?_
      rintro e w2 ⟨rfl, rfl⟩
      go_wp2_with fail
      refine (rnum_any (sumL P) 4 _ (by omega) (by omega)).mono ?_
      rintro e w3 ⟨v, rfl, hr, hb, hk⟩
      obtain ⟨p3, c3, rfl, _, hs3, _⟩ := hr.sl
      have HR3 := Lib.hid (HR.out.chg (Chg.of_below (S := fun _ => False) hb) fun _ _ h => h)
      have HB3 := Lib.hid (HB.out.trans (hb.mono HB.out.size))
      have HS3 := Lib.hid hs3
      clear hr hb hk hs3 HS1
      go_wp2_with (at_builtin; refine wpList_append_row rfl _ _ rfl _ _ (le n 2) rfl HR3.out _ _ _ (le (sumL P) 4) rfl HS3.out (by omega) ?_)
      intro v' w4 hr hc hk
      obtain ⟨p4, c4, rfl, _⟩ := hr.sl
      have HB4 : Hid (Below w.heap.size w w4) := Lib.hid (hc.below HB3.out HB3.out.size HK.out)
      have HK4 : Hid (∀ k, (Value.slice p4 (2 + 4) c4).ownBlock = some k → w.heap.size ≤ k) := Lib.hid fun k h => (hk k h).elim (HK.out k) (Nat.le_trans HB3.out.size)
      have HR4 := Lib.hid hr
      have HS4 := Lib.hid (HS.out.later HB4.out)
      clear hr hc hk
      go_wp2_with (at_builtin; refine wpList_append_row rfl _ _ rfl _ _ (le n 2 ++ le (sumL P) 4) rfl HR4.out _ _ _ P rfl HS4.out (by omega) ?_)
      intro v' w5 hr hc hk
      rw [hfr.out] at hr
      obtain ⟨p5, c5, rfl, _⟩ := hr.sl
      have HF := Lib.hid (hr.gives (W := w) 0 (hc.below HB4.out HB4.out.size HK4.out) fun k h => (hk k h).elim (HK4.out k) (Nat.le_trans HB4.out.size))
      clear hr hc hk
      go_wp2_with fail
      go_ret2
      exact HF.out
/-- A call that hands back bytes (new ones, or ones that lie where q leads), a number and an error. -/
def GivesN (W : World) (q : Option Addr) (L : List Nat) (z : Nat) (x : Int) (e : Ending) (w' : World) : Prop := ∃ p c, e = .returned (.tuple #[.slice p L.length c, .int .i64 (z : Nat), .int .i64 x]) ∧ Sl w' p L.length c L ∧ Below W.heap.size W w' ∧ c ≤ maxLen ∧ ∀ a, p = some a → W.heap.size ≤ a.block ∨ ∃ a', q = some a' ∧ a.block = a'.block
/-- What Next hands back. -/
def nextL (B : List Nat) : List Nat := if nE B = 0 then nP B else []
def nextZ (B : List Nat) : Nat := if nE B = 0 then 6 + nN B else 0
theorem next_bad {B : List Nat} (h : nE B ≠ 0) : nextL B = [] ∧ nextZ B = 0 := ⟨if_neg h, if_neg h⟩
theorem next_ok {B : List Nat} (h : nE B = 0) : nextL B = nP B ∧ nextZ B = 6 + nN B := ⟨if_pos h, if_pos h⟩
theorem givesN_nil (W w : World) {q : Option Addr} (x : Int) (h : Below W.heap.size W w) : GivesN W q [] 0 x (.returned (.tuple #[.slice none 0 0, .int .i64 ((0 : Nat) : Int), .int .i64 x])) w :=
  ⟨none, 0, rfl, Sl.none, h, Nat.zero_le _, fun a h => by cases h⟩
/-- The part of a slice from k on, m bytes. -/
theorem sl_mid {w : World} {b off n c : Nat} {L : List Nat} (h : Sl w (some ⟨b, off, none⟩) n c L) (k m : Nat) (hk : k + m ≤ n) : Sl w (some ⟨b, off + k, none⟩) m (c - k) ((L.drop k).take m) := by
  refine ⟨by rw [List.length_take, List.length_drop, h.len]; omega, by have := h.cap; omega, (fun e => by cases e), fun x hx => h.lt x (List.mem_of_mem_drop (List.mem_of_mem_take hx)), fun h0 => ⟨b, off + k, rfl, fun j hj => ?_⟩⟩
  obtain ⟨b', off', hp, hc⟩ := h.cell (by omega)
  cases hp
  rw [Nat.add_assoc, hc (k + j) (by omega), List.getD, List.getD, List.getElem?_take, if_pos hj, List.getElem?_drop]
theorem numR_two (B : List Nat) (h : 6 ≤ B.length) : numR (0, B.take 6) 2 = ((0, (B.drop 2).take 4), nN B) := by
  unfold numR
  rw [if_pos (by omega), show (2 : Int).toNat = 2 by rfl]
  unfold takeR
  rw [if_pos rfl, if_neg (by simp; omega)]
  unfold nN
  simp [List.take_take, List.drop_take]
theorem numR_four (B : List Nat) (h : 6 ≤ B.length) : numR (0, (B.drop 2).take 4) 4 = ((0, []), nS B) := by
  unfold numR
  rw [if_pos (by omega), show (4 : Int).toNat = 4 by rfl]
  unfold takeR
  rw [if_pos rfl, if_neg (by simp; omega)]
  unfold nS
  simp [List.take_take]
theorem nN_lt {w : World} {p : Option Addr} {n c : Nat} {B : List Nat} (h : Sl w p n c B) : nN B < 65536 := by
  unfold nN
  have h1 := un_lt (B.take 2) fun y hy => h.lt y (List.mem_of_mem_take hy)
  have h2 : (B.take 2).length ≤ 2 := by rw [List.length_take]; omega
  exact Nat.lt_of_lt_of_le h1 (Nat.pow_le_pow_right (n := 256) (by omega) h2)
theorem nS_lt {w : World} {p : Option Addr} {n c : Nat} {B : List Nat} (h : Sl w p n c B) : nS B < 4294967296 := by
  unfold nS
  have h1 := un_lt ((B.drop 2).take 4) fun y hy => h.lt y (List.mem_of_mem_drop (List.mem_of_mem_take hy))
  have h2 : ((B.drop 2).take 4).length ≤ 4 := by rw [List.length_take]; omega
  exact Nat.lt_of_lt_of_le h1 (Nat.pow_le_pow_right (n := 256) (by omega) h2)
end Go.Proofs.YtmadneedeheekaaDoor
