/- frame.Size, frame.Put and the document's Put: what they answer. -/
import Derived.Test.YtppmokkbepihhaaDoorFrameMath
import Derived.Test.YtppmokkbepihhaaDoorFrameSize
import Derived.Test.YtppmokkbepihhaaDoorWireTold
import Derived.Test.YtppmokkbepihhaaDoorCrcRef
import Derived.Test.YtppmokkbepihhaaDoorCrcMore
namespace Go.Proofs.YtppmokkbepihhaaDoor
open Go.RowKit Go.ChangeShapes Go.WideShapes
set_option linter.unusedVariables false

/-- A slice of bytes, as the sum wants it. -/
theorem bytes_sl {w : World} {p : Option Addr} {n c : Nat} {L : List Nat} (h : Sl w p n c L) : Bytes w p n fun j => L.getD j 0 := by
  refine ⟨fun j _ => getD_lt h.lt j, fun h0 => ?_⟩
  obtain ⟨b, off, hp, hlt, hc⟩ := h.blk h0
  exact ⟨b, off, hp, hlt, hc⟩
theorem sum_sl (p : Option Addr) (n c : Nat) (L : List Nat) (w : World) (h : Sl w p n c L) (hbig : n ≤ 1000000) (hT : Tab w) :
    Calls Tryd.prog 20 #[.slice p n c] w fun e w' => e = .returned (.int .u32 ((sumL L : Nat) : Int)) ∧ w = w' := by
  have := sum_any p n c _ w (bytes_sl h) hbig hT
  rw [← h.len] at this ⊢
  exact this
theorem same_sl (p : Option Addr) (n c : Nat) (L : List Nat) (s : Int) (w : World) (h : Sl w p n c L) (hbig : n ≤ 1000000) (hT : Tab w) :
    Calls Tryd.prog 26 #[.slice p n c, .int .u32 s] w fun e w' => e = .returned (.bool (((sumL L : Nat) : Int) == s)) ∧ w = w' := by
  have := crcsame_any p n c _ s w (bytes_sl h) hbig hT
  rw [← h.len] at this ⊢
  exact this
theorem rsum_sl (p : Option Addr) (n c : Nat) (L : List Nat) (w : World) (h : Sl w p n c L) (hbig : n ≤ 1000000) :
    Calls Tryd.prog 23 #[.slice p n c] w fun e w' => e = .returned (.int .u32 ((sumL L : Nat) : Int)) ∧ w = w' := by
  have := rsum_any p n c _ w (bytes_sl h) hbig
  rw [← h.len] at this ⊢
  exact this
/-- A call that hands back bytes of its own and an error. -/
def GivesE (W : World) (L : List Nat) (x : Int) (e : Ending) (w' : World) : Prop := ∃ p c, e = .returned (.tuple #[.slice p L.length c, .int .i64 x]) ∧ Sl w' p L.length c L ∧ Below W.heap.size W w' ∧ (∀ a, p = some a → W.heap.size ≤ a.block) ∧ c ≤ maxLen
/-- What Put hands back: the bytes, the error. -/
def putL (P : List Nat) : List Nat := if good P = true then frm P else []
def putE (P : List Nat) : Int := if P.length = 0 then 1 else if 512 < P.length then 7 else 0
theorem putE_good {P : List Nat} (h : good P = true) : putL P = frm P ∧ putE P = 0 := by
  have := (good_iff P).1 h
  exact ⟨if_pos h, by unfold putE; rw [if_neg (by omega), if_neg (by omega)]⟩
theorem putE_none {P : List Nat} (h : P.length = 0) : putL P = [] ∧ putE P = 1 := by
  refine ⟨if_neg fun h' => ?_, if_pos h⟩
  have := (good_iff P).1 h'
  omega
theorem putE_long {P : List Nat} (h : 512 < P.length) : putL P = [] ∧ putE P = 7 := by
  refine ⟨if_neg fun h' => ?_, by unfold putE; rw [if_neg (by omega), if_pos h]⟩
  have := (good_iff P).1 h'
  omega
theorem putE_bad {P : List Nat} (h : good P = false) : putL P = [] ∧ putE P ≠ 0 := by
  have h' : ¬ (1 ≤ P.length ∧ P.length ≤ 512) := fun hh => by rw [(good_iff P).2 hh] at h; cases h
  refine ⟨if_neg (by rw [h]; simp), ?_⟩
  unfold putE
  split
  · omega
  · split
    · omega
    · omega
theorem fgives_nil (w : World) (x : Int) (q : Nat) : GivesE w [] x (.returned (.tuple #[.slice none 0 0, .int .i64 x])) (w.drewN q) :=
  ⟨none, 0, rfl, Sl.none, below_drewN (Below.refl _ _) _, (fun a h => by cases h), Nat.zero_le _⟩
theorem fgives_nil0 (w : World) (x : Int) : GivesE w [] x (.returned (.tuple #[.slice none 0 0, .int .i64 x])) w :=
  ⟨none, 0, rfl, Sl.none, Below.refl _ _, (fun a h => by cases h), Nat.zero_le _⟩
theorem raw_step (most : Int) (L M : List Nat) (h : (L.length : Int) + (M.length : Int) ≤ most) : rawW most (0, L) M = (0, L ++ M) := by
  unfold rawW
  rw [if_pos rfl, if_neg (show ¬ most < ((L.length : Nat) : Int) + (M.length : Int) by omega)]
theorem num_step2 (most : Int) (L : List Nat) (x n : Nat) (h1 : 1 ≤ n) (h8 : n ≤ 8) (hx : x < 256 ^ n) (h : (L.length : Int) + (n : Int) ≤ most) : numW most (0, L) x n = (0, L ++ le x n) := by
  unfold numW
  rw [Int.toNat_natCast, if_pos ⟨by omega, by omega, hx⟩, raw_step _ _ _ (by rw [le_len]; exact h)]
theorem done_max (W w : World) (B : Nat) (most : Int) (L : List Nat) (h : WrOk W w B most (0, L)) (hl : L.length ≤ 100000) : Calls Tryd.prog 19 #[.pointer (some ⟨B, 0, none⟩)] w fun e w' => GivesE W L 0 e w' := by
  obtain ⟨v, hw, hB, hv, hb⟩ := h
  refine (done_any B v most (0, L) w hw hl).mono ?_
  rintro e w' ⟨h1, h2⟩
  rw [if_pos rfl] at h2
  obtain ⟨v, rfl, hr, ho⟩ := h2
  obtain ⟨q, d, rfl, hm, hs, hq⟩ := hr.sl
  exact ⟨_, _, rfl, hs, hb.trans (h1.mono hb.size), fun a ha => Nat.le_trans hb.size (ho _ (hq a ha)), hm⟩
end Go.Proofs.YtppmokkbepihhaaDoor
