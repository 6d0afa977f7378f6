/- frame.Next: what it answers. -/
import Derived.Test.YtmadneedeheekaaDoorFrameNext
namespace Go.Proofs.YtmadneedeheekaaDoor
open Go.RowKit Go.ChangeShapes Go.WideShapes
set_option linter.unusedVariables false

theorem next_any (p : Option Addr) (n c : Nat) (B : List Nat) (w : World) (hS : Sl w p n c B) (hc : c ≤ maxLen) (hn : n ≤ 1000000) (hT : Tab w) :
    Calls Tryd.prog 11 #[.slice p n c] w (GivesN w p (nextL B) (nextZ B) (nE B)) := by
  have HS := Lib.hid hS
  have HT := Lib.hid hT
  have hl := hS.len
  have hcap := hS.cap
  have hNl := nN_lt hS
  have hSl := nS_lt hS
  unfold maxLen at hc
  by_cases h6 : n < 6
  · have he := nE_short (B := B) (by omega)
    have hd := next_bad (B := B) (by rw [he]; omega)
    rw [he, hd.1, hd.2]
    clear he hd hS hT hNl hSl
    go_enter Tryd.func11, Tryd.ntmps11
    go_wp2_with fail
    go_ret3
    exact givesN_nil w w 6 (Below.refl _ _)
  · obtain ⟨b, off, rfl, hlt, hcell⟩ := hS.blk (by omega)
    have HS6 : Hid (Sl w (some ⟨b, off, none⟩) 6 c (B.take 6)) := Lib.hid (hS.take 6 (by omega))
    have N1 := Lib.hid (numR_two B (by omega))
    have N2 := Lib.hid (numR_four B (by omega))
    have hl60 : (B.take 6).length ≤ 90000 := by rw [List.length_take]; omega
    have hl6 : ((B.drop 2).take 4).length ≤ 90000 := by rw [List.length_take]; omega
    have HMID := Lib.hid (fun (w' : World) (hb : Below w.heap.size w w') (hk : 6 + nN B ≤ n) => sl_mid (hS.later hb) 6 (nN B) hk)
    have HNP : Hid ((B.drop 6).take (nN B) = nP B) := Lib.hid rfl
    clear hS hT hcell
    by_cases hf : nN B = 0 ∨ 512 < nN B
    · have he := nE_form (B := B) (by omega) hf
      have hd := next_bad (B := B) (by rw [he]; omega)
      rw [he, hd.1, hd.2]
      have hs0 : sizeI (nN B : Int) = 0 := if_pos (by omega)
      clear he hd
      generalize nN B = k at *
      generalize nS B = s at *
      go_enter Tryd.func11, Tryd.ntmps11
      go_wp2_with fail
      refine (read_ok w w _ 6 c _ HS6.out (by omega) (Below.refl _ _)).mono ?_
      rintro e w1 ⟨R, rfl, hr, _, _⟩
      have HR := Lib.hid hr
      clear hr
      go_wp2_with fail
      refine (num_ok w w1 R _ 2 HR.out hl60).mono ?_
      rw [N1.out]
      rintro e w2 ⟨rfl, hr⟩
      have HR2 := Lib.hid hr
      clear hr HR
      go_wp2_with fail
      refine (num_ok w w2 R _ 4 HR2.out hl6).mono ?_
      rw [N2.out]
      rintro e w3 ⟨rfl, hr⟩
      have HB := Lib.hid hr.below
      clear hr HR2
      go_wp2_with fail
      refine (size_any _ _).mono ?_
      rw [hs0]
      rintro e w4 ⟨rfl, rfl⟩
      go_wp2_with fail
      go_ret3
      exact givesN_nil w _ 8 HB.out
    · have hs0 : sizeI (nN B : Int) = 6 + (nN B : Int) := if_neg (by omega)
      by_cases hsh : n < 6 + nN B
      · have he := nE_less (B := B) (by omega) hf (by omega)
        have hd := next_bad (B := B) (by rw [he]; omega)
        rw [he, hd.1, hd.2]
        clear he hd
        generalize nN B = k at *
        generalize nS B = s at *
        go_enter Tryd.func11, Tryd.ntmps11
        go_wp2_with fail
        refine (read_ok w w _ 6 c _ HS6.out (by omega) (Below.refl _ _)).mono ?_
        rintro e w1 ⟨R, rfl, hr, _, _⟩
        have HR := Lib.hid hr
        clear hr
        go_wp2_with fail
        refine (num_ok w w1 R _ 2 HR.out hl60).mono ?_
        rw [N1.out]
        rintro e w2 ⟨rfl, hr⟩
        have HR2 := Lib.hid hr
        clear hr HR
        go_wp2_with fail
        refine (num_ok w w2 R _ 4 HR2.out hl6).mono ?_
        rw [N2.out]
        rintro e w3 ⟨rfl, hr⟩
        have HB := Lib.hid hr.below
        clear hr HR2
        go_wp2_with fail
        refine (size_any _ _).mono ?_
        rw [hs0]
        rintro e w4 ⟨rfl, rfl⟩
        go_wp2_with fail
        go_ret3
        exact givesN_nil w _ 6 HB.out
      · have hk512 : nN B ≤ 512 := by omega
        by_cases hsum : sumL (nP B) = nS B
        · have he := nE_ok (B := B) (by omega) hf (by omega) hsum
          have hd := next_ok he
          have hpl := nP_len he
          rw [he, hd.1, hd.2]
          have heq : (((sumL (nP B) : Nat) : Int) == (nS B : Int)) = true := by rw [hsum]; simp
          clear he hd hsum
          rw [HNP.out] at HMID
          generalize nP B = P at *
          generalize nN B = k at *
          generalize nS B = s at *
          go_enter Tryd.func11, Tryd.ntmps11
          go_wp2_with fail
          refine (read_ok w w _ 6 c _ HS6.out (by omega) (Below.refl _ _)).mono ?_
          rintro e w1 ⟨R, rfl, hr, _, _⟩
          have HR := Lib.hid hr
          clear hr
          go_wp2_with fail
          refine (num_ok w w1 R _ 2 HR.out hl60).mono ?_
          rw [N1.out]
          rintro e w2 ⟨rfl, hr⟩
          have HR2 := Lib.hid hr
          clear hr HR
          go_wp2_with fail
          refine (num_ok w w2 R _ 4 HR2.out hl6).mono ?_
          rw [N2.out]
          rintro e w3 ⟨rfl, hr⟩
          have HB := Lib.hid hr.below
          have HM := Lib.hid (HMID.out _ hr.below (by omega))
          have HT3 := Lib.hid (HT.out.later hr.below HT.out.lt)
          clear hr HR2
          go_wp2_with fail
          refine (size_any _ _).mono ?_
          rw [hs0]
          rintro e w4 ⟨rfl, rfl⟩
          go_wp2_with fail
          refine (same_sl _ _ _ P _ _ HM.out (by omega) HT3.out).mono ?_
          rw [heq]
          rintro e w5 ⟨rfl, rfl⟩
          go_wp2_with fail
          refine (clone_any _ _ _ P _ HM.out (by omega)).mono ?_
          rintro e w6 ⟨v, rfl, hr, hb, hk6⟩
          obtain ⟨p6, c6, rfl, hm6, hs6, hq6⟩ := hr.sl
          have HF : Hid (GivesN w (some ⟨b, off, none⟩) P (6 + k) 0 (.returned (.tuple #[.slice p6 k c6, .int .i64 (6 + (k : Int)), .int .i64 0])) w6) := Lib.hid (by
            subst hpl
            exact ⟨p6, c6, by simp, hs6, HB.out.trans (hb.mono HB.out.size), hm6, fun a ha => .inl (Nat.le_trans HB.out.size (hk6 _ (hq6 a ha)))⟩)
          clear hr hb hs6 hk6 hq6
          go_wp2_with fail
          go_ret3
          exact HF.out
        · have he := nE_sum (B := B) (by omega) hf (by omega) hsum
          have hd := next_bad (B := B) (by rw [he]; omega)
          rw [he, hd.1, hd.2]
          have heq : (((sumL (nP B) : Nat) : Int) == (nS B : Int)) = false := by simpa using fun h => hsum (by exact_mod_cast h)
          clear he hd hsum
          rw [HNP.out] at HMID
          generalize nP B = P at *
          generalize nN B = k at *
          generalize nS B = s at *
          go_enter Tryd.func11, Tryd.ntmps11
          go_wp2_with fail
          refine (read_ok w w _ 6 c _ HS6.out (by omega) (Below.refl _ _)).mono ?_
          rintro e w1 ⟨R, rfl, hr, _, _⟩
          have HR := Lib.hid hr
          clear hr
          go_wp2_with fail
          refine (num_ok w w1 R _ 2 HR.out hl60).mono ?_
          rw [N1.out]
          rintro e w2 ⟨rfl, hr⟩
          have HR2 := Lib.hid hr
          clear hr HR
          go_wp2_with fail
          refine (num_ok w w2 R _ 4 HR2.out hl6).mono ?_
          rw [N2.out]
          rintro e w3 ⟨rfl, hr⟩
          have HB := Lib.hid hr.below
          have HM := Lib.hid (HMID.out _ hr.below (by omega))
          have HT3 := Lib.hid (HT.out.later hr.below HT.out.lt)
          clear hr HR2
          go_wp2_with fail
          refine (size_any _ _).mono ?_
          rw [hs0]
          rintro e w4 ⟨rfl, rfl⟩
          go_wp2_with fail
          refine (same_sl _ _ _ P _ _ HM.out (by omega) HT3.out).mono ?_
          rw [heq]
          rintro e w5 ⟨rfl, rfl⟩
          go_wp2_with fail
          go_ret3
          exact givesN_nil w _ 9 HB.out
end Go.Proofs.YtmadneedeheekaaDoor
