import Derived.Test.YtfdgnniicjdjdaaGreatDoorPn26
import Derived.Deep.Slices
import Derived.Deep.Fields
import Derived.ChangeSame
import Derived.LoopTactic
import Derived.Test.YtfdgnniicjdjdaaGreatDoorPn07
import Derived.Test.YtfdgnniicjdjdaaGreatDoorPn22
import Derived.Test.YtfdgnniicjdjdaaGreatDoorPn08
namespace Go.Proofs.YtfdgnniicjdjdaaGreatDoor
open Go.RowKit Go.ChangeShapes Go.WideShapes Go.Deep
set_option linter.unusedVariables false
set_option maxRecDepth 10000
structure Item where
  k : Nat
  x : Nat
  n : Int
  p : Option Addr
  m : Nat
  c : Nat
  L : List Nat
instance : Inhabited Item := ⟨⟨0, 0, 0, none, 0, 0, []⟩⟩
section
variable {H : Type} {enc : TypeId × Value → H} {P : Program} {w : World} {base : Nat} {spare : Nat → Bool} {held : Bool}
end
end Go.Proofs.YtfdgnniicjdjdaaGreatDoor
namespace Go.Proofs.YtfdgnniicjdjdaaGreatDoor
open Go.RowKit Go.ChangeShapes Go.WideShapes
set_option linter.unusedVariables false
set_option maxRecDepth 10000
def Few (len : Nat) (its : Nat → Item) : Prop := len ≤ 30 ∧ ∀ i, i < len → (its i).m ≤ 300
def Item.val (it : Item) : Value := .agg #[.int .u8 ((it.k : Nat) : Int), .int .u64 ((it.x : Nat) : Int), .int .i64 it.n, .slice it.p it.m it.c]
end Go.Proofs.YtfdgnniicjdjdaaGreatDoor
namespace Go.Proofs.YtfdgnniicjdjdaaGreatDoor
open Go.RowKit Go.ChangeShapes Go.WideShapes
set_option linter.unusedVariables false
set_option maxRecDepth 10000
def told (it : Item) : List Nat × Int :=
  if it.k % 5 = 0 then (if 1 ≤ it.n ∧ it.n ≤ 8 ∧ it.x < 256 ^ it.n.toNat then (le it.x it.n.toNat, 0) else ([], 1))
  else if it.k % 5 = 1 then (le it.x 8, 0)
  else if it.k % 5 = 2 then ([bit (it.x % 2 == 1)], 0)
  else if it.k % 5 = 3 then (le it.L.length 2 ++ it.L, 0)
  else (it.L, 0)
theorem Chg.cell {S : Nat → Prop} {w w' : World} (h : Chg S w w') {b : Nat} (o : Nat) (hlt : b < w.heap.size) (hs : ¬ S b) : w'.cell? ⟨b, o, none⟩ = w.cell? ⟨b, o, none⟩ := World.cell?_of_block (w := w) (a := ⟨b, o, none⟩) (h.block b hlt hs)
end Go.Proofs.YtfdgnniicjdjdaaGreatDoor
namespace Go.Proofs.YtfdgnniicjdjdaaGreatDoor
open Go.RowKit Go.ChangeShapes Go.WideShapes
set_option linter.unusedVariables false
theorem bytes_sl {w : World} {p : Option Addr} {n c : Nat} {L : List Nat} (h : Sl w p n c L) : Bytes w p n fun j => L.getD j 0 := by
  refine ⟨fun j _ => getD_lt h.lt j, fun h0 => ?_⟩
  obtain ⟨b, off, hp, hlt, hc⟩ := h.blk h0
  exact ⟨b, off, hp, hlt, hc⟩
theorem sum_sl (p : Option Addr) (n c : Nat) (L : List Nat) (w : World) (h : Sl w p n c L) (hbig : n ≤ 1000000) (hT : Tab w) :
    Calls Tryz.prog 109 #[.slice p n c] w fun e w' => e = .returned (.int .u32 ((sumL L : Nat) : Int)) ∧ w = w' := by
  have := sum_any p n c _ w (bytes_sl h) hbig hT
  rw [← h.len] at this ⊢
  exact this
def GivesE (W : World) (L : List Nat) (x : Int) (e : Ending) (w' : World) : Prop := ∃ p c, e = .returned (.tuple #[.slice p L.length c, .int .i64 x]) ∧ Sl w' p L.length c L ∧ Below W.heap.size W w' ∧ (∀ a, p = some a → W.heap.size ≤ a.block) ∧ c ≤ maxLen
def putL (P : List Nat) : List Nat := if good P = true then frm P else []
def putE (P : List Nat) : Int := if P.length = 0 then 1 else if 512 < P.length then 7 else 0
theorem putE_good {P : List Nat} (h : good P = true) : putL P = frm P ∧ putE P = 0 := by
  have := (good_iff P).1 h
  exact ⟨if_pos h, by unfold putE; rw [if_neg (by omega), if_neg (by omega)]⟩
theorem putE_none {P : List Nat} (h : P.length = 0) : putL P = [] ∧ putE P = 1 := by
  refine ⟨if_neg fun h' => ?_, if_pos h⟩
  have := (good_iff P).1 h'
  omega
theorem putE_long {P : List Nat} (h : 512 < P.length) : putL P = [] ∧ putE P = 7 := by
  refine ⟨if_neg fun h' => ?_, by unfold putE; rw [if_neg (by omega), if_pos h]⟩
  have := (good_iff P).1 h'
  omega
theorem fgives_nil0 (w : World) (x : Int) : GivesE w [] x (.returned (.tuple #[.slice none 0 0, .int .i64 x])) w :=
  ⟨none, 0, rfl, Sl.none, Below.refl _ _, (fun a h => by cases h), Nat.zero_le _⟩
theorem raw_step (most : Int) (L M : List Nat) (h : (L.length : Int) + (M.length : Int) ≤ most) : rawW most (0, L) M = (0, L ++ M) := by
  unfold rawW
  rw [if_pos rfl, if_neg (show ¬ most < ((L.length : Nat) : Int) + (M.length : Int) by omega)]
theorem num_step2 (most : Int) (L : List Nat) (x n : Nat) (h1 : 1 ≤ n) (h8 : n ≤ 8) (hx : x < 256 ^ n) (h : (L.length : Int) + (n : Int) ≤ most) : numW most (0, L) x n = (0, L ++ le x n) := by
  unfold numW
  rw [Int.toNat_natCast, if_pos ⟨by omega, by omega, hx⟩, raw_step _ _ _ (by rw [le_len]; exact h)]
theorem done_max (W w : World) (B : Nat) (most : Int) (L : List Nat) (h : WrOk W w B most (0, L)) (hl : L.length ≤ 100000) : Calls Tryz.prog 111 #[.pointer (some ⟨B, 0, none⟩)] w fun e w' => GivesE W L 0 e w' := by
  obtain ⟨v, hw, hB, hv, hb⟩ := h
  refine (done_any B v most (0, L) w hw hl).mono ?_
  rintro e w' ⟨h1, h2⟩
  rw [if_pos rfl] at h2
  obtain ⟨v, rfl, hr, ho⟩ := h2
  obtain ⟨q, d, rfl, hm, hs, hq⟩ := hr.sl
  exact ⟨_, _, rfl, hs, hb.trans (h1.mono hb.size), fun a ha => Nat.le_trans hb.size (ho _ (hq a ha)), hm⟩
theorem fput_any (p : Option Addr) (n c : Nat) (P : List Nat) (w : World) (hS : Sl w p n c P) (hn : n ≤ 1000000) (hT : Tab w) :
    Calls Tryz.prog 65 #[.slice p n c] w (GivesE w (putL P) (putE P)) := by
  have HS := Lib.hid hS
  have HT := Lib.hid hT
  have hl := hS.len
  clear hS hT
  by_cases h0 : n = 0
  · subst h0
    have he := putE_none hl
    rw [he.1, he.2]
    have HG := Lib.hid (fgives_nil0 w 1)
    clear he hl
    go_enter Tryz.func65, Tryz.ntmps65
    go_wp2_with fail
    go_ret2
    exact HG.out
  · by_cases h5 : 512 < n
    · have he := putE_long (P := P) (by omega)
      rw [he.1, he.2]
      have HG := Lib.hid (fgives_nil0 w 7)
      clear he hl
      go_enter Tryz.func65, Tryz.ntmps65
      go_wp2_with fail
      go_ret2
      exact HG.out
    · have hgood : good P = true := (good_iff P).2 (by omega)
      have he := putE_good hgood
      rw [he.1, he.2]
      have hs1 : sizeI (n : Int) = 6 + (n : Int) := if_neg (by omega)
      have hlim : lim (6 + (n : Int)) = 6 + (n : Int) := if_neg (by omega)
      have HL := Lib.hid hl
      have hx4 : sumL P < 4294967296 := sumL_lt P
      have N1 := Lib.hid (num_step2 (6 + (n : Int)) [] n 2 (by omega) (by omega) (by omega) (by simp; omega))
      have N2 := Lib.hid (num_step2 (6 + (n : Int)) (le n 2) (sumL P) 4 (by omega) (by omega) (by omega) (by rw [le_len]; omega))
      have N3 := Lib.hid (raw_step (6 + (n : Int)) (le n 2 ++ le (sumL P) 4) P (by rw [List.length_append, le_len, le_len, hl]; omega))
      have hfr : Hid (le n 2 ++ le (sumL P) 4 ++ P = frm P) := Lib.hid (by unfold frm; rw [hl, List.append_assoc])
      have hfl : Hid ((frm P).length ≤ 100000) := Lib.hid (by rw [frm_len]; omega)
      clear he hl hgood
      go_enter Tryz.func65, Tryz.ntmps65
      go_wp2_with fail
      refine (fsize_any _ _).mono ?_
      rintro e w1 ⟨rfl, rfl⟩
      rw [hs1]
      go_wp2_with fail
      refine (new_ok w w _ (Below.refl _ _)).mono ?_
      rintro e w1 ⟨B, rfl, hk⟩
      rw [hlim] at hk
      have HK := Lib.hid hk
      clear hk
      go_wp2_with fail
      refine (HK.out.step (T := (0, le n 2)) fun v hv => ?_).mono ?_
      · have := num_wr B v (6 + (n : Int)) (0, []) n 2 _ hv (by omega) (by omega) (by simp)
        rw [show (2 : Int) = ((2 : Nat) : Int) by rfl, N1.out] at this
        exact this
      rintro e w2 ⟨rfl, hk⟩
      have HK2 := Lib.hid hk
      have HS2 := Lib.hid (HS.out.later hk.below)
      have HT2 := Lib.hid (HT.out.later hk.below HT.out.lt)
      clear hk HK
      go_wp2_with fail
      refine (sum_sl p n c P _ HS2.out hn HT2.out).mono ?_
      rintro e w3 ⟨rfl, rfl⟩
      go_wp2_with fail
      refine (HK2.out.step (T := (0, le n 2 ++ le (sumL P) 4)) fun v hv => ?_).mono ?_
      · have := num_wr B v (6 + (n : Int)) (0, le n 2) (sumL P) 4 _ hv (by omega) (by omega) (by rw [le_len]; omega)
        rw [show (4 : Int) = ((4 : Nat) : Int) by rfl, N2.out] at this
        exact this
      rintro e w4 ⟨rfl, hk⟩
      have HK4 := Lib.hid hk
      have HS4 := Lib.hid (HS.out.later hk.below)
      clear hk HK2 HS2
      go_wp2_with fail
      refine (HK4.out.step (T := (0, frm P)) fun v hv => ?_).mono ?_
      · have := raw_any B v (6 + (n : Int)) (0, le n 2 ++ le (sumL P) 4) _ hv p n c P HS4.out (by omega) (by omega) (by rw [List.length_append, le_len, le_len]; omega)
        rw [N3.out, hfr.out] at this
        exact this
      rintro e w5 ⟨rfl, hk⟩
      have HK5 := Lib.hid hk
      clear hk HK4 HS4
      go_wp2_with fail
      refine (done_max w _ B _ _ HK5.out hfl.out).mono ?_
      rintro e w6 ⟨p', c', rfl, h1, h2, h3, h4⟩
      have HF : Hid (GivesE w (frm P) 0 (.returned (.tuple #[.slice p' (frm P).length c', .int .i64 0])) w6) := Lib.hid ⟨p', c', rfl, h1, h2, h3, h4⟩
      clear h1 h2 h3 h4
      generalize (frm P).length = m at *
      go_wp2_with fail
      go_ret2
      exact HF.out
end Go.Proofs.YtfdgnniicjdjdaaGreatDoor
