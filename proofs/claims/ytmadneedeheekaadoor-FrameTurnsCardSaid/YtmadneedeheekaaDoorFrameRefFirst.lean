/- The document's Next: what it answers. -/
import Derived.Test.YtmadneedeheekaaDoorFrameFirst
import Derived.Test.YtmadneedeheekaaDoorWireGets
namespace Go.Proofs.YtmadneedeheekaaDoor
open Go.RowKit Go.ChangeShapes Go.WideShapes
set_option linter.unusedVariables false

theorem givesN_mk {W w' : World} {p : Option Addr} {m c z : Nat} {P : List Nat} {x y : Int} {q : Option Addr} (hm : P.length = m) (hs : Sl w' p m c P) (hb : Below W.heap.size W w') (hc : c ≤ maxLen) (hy : y = ((z : Nat) : Int)) (hq : ∀ a, p = some a → W.heap.size ≤ a.block ∨ ∃ a', q = some a' ∧ a.block = a'.block) : GivesN W q P z x (.returned (.tuple #[.slice p m c, .int .i64 y, .int .i64 x])) w' := by
  subst hm hy
  exact ⟨p, c, rfl, hs, hb, hc, hq⟩
theorem numR_rest4 (B : List Nat) (h : 6 ≤ B.length) : numR (0, B.drop 2) 4 = ((0, B.drop 6), nS B) := by
  unfold numR
  rw [if_pos (by omega), show (4 : Int).toNat = 4 by rfl]
  unfold takeR
  rw [if_pos rfl, if_neg (by simp; omega)]
  unfold nS
  simp [List.drop_drop]
theorem nN_two (B : List Nat) (h : 6 ≤ B.length) : nN B = B.getD 0 0 + 256 * B.getD 1 0 := by
  match B, h with
  | a :: b :: l, _ => simp [nN, un]
theorem rnext_any (p : Option Addr) (n c : Nat) (B : List Nat) (w : World) (hS : Sl w p n c B) (hc : c ≤ maxLen) (hn : n ≤ 1000000) :
    Calls Tryd.prog 12 #[.slice p n c] w (GivesN w p (nextL B) (nextZ B) (nE B)) := by
  have HS := Lib.hid hS
  have hl := hS.len
  have hcap := hS.cap
  have hNl := nN_lt hS
  have hSl := nS_lt hS
  have hc0 := hc
  unfold maxLen at hc
  by_cases h6 : n < 6
  · have he := nE_short (B := B) (by omega)
    have hd := next_bad (B := B) (by rw [he]; omega)
    rw [he, hd.1, hd.2]
    clear he hd hS hNl hSl
    go_enter Tryd.func12, Tryd.ntmps12
    go_wp2_with fail
    go_ret3
    exact givesN_nil w w 6 (Below.refl _ _)
  · obtain ⟨b, off, rfl, hlt, hcell⟩ := hS.blk (by omega)
    have h00 := hcell 0 (by omega)
    have h01 := hcell 1 (by omega)
    rw [Nat.add_zero] at h00
    have hb0 := getD_lt hS.lt 0
    have hb1 := getD_lt hS.lt 1
    have hk2 := nN_two B (by omega)
    have HB : Hid (∀ q, Below w.heap.size w (w.drewN q)) := Lib.hid fun q => below_drewN (Below.refl _ _) q
    have N2 := Lib.hid (numR_rest4 B (by omega))
    have HMID := Lib.hid (fun (w' : World) (hb : Below w.heap.size w w') (hk : 6 + nN B ≤ n) => sl_mid (hS.later hb) 6 (nN B) hk)
    have HTWO : Hid (∀ q, Sl (w.drewN q) (some ⟨b, off + 2, none⟩) (n - 2) (c - 2) (B.drop 2)) := Lib.hid fun q => by
      have h2 := hS.len
      have := sl_mid (hS.later (HB.out q)) 2 (n - 2) (by omega)
      rwa [List.take_of_length_le (by rw [List.length_drop]; omega)] at this
    have HNP : Hid ((B.drop 6).take (nN B) = nP B) := Lib.hid rfl
    clear hS hcell
    by_cases hf : nN B = 0 ∨ 512 < nN B
    · have he := nE_form (B := B) (by omega) hf
      have hd := next_bad (B := B) (by rw [he]; omega)
      rw [he, hd.1, hd.2]
      clear he hd
      generalize hx0 : B.getD 0 0 = x0 at *
      generalize hx1 : B.getD 1 0 = x1 at *
      generalize nN B = k at *
      subst hk2
      generalize nS B = s at *
      go_enter Tryd.func12, Tryd.ntmps12
      go_wp2_with fail
      go_quiet (fail)
      go_wp2_with fail
      all_goals (go_ret3; exact givesN_nil w _ 8 (HB.out _))
    · by_cases hsh : n < 6 + nN B
      · have he := nE_less (B := B) (by omega) hf (by omega)
        have hd := next_bad (B := B) (by rw [he]; omega)
        rw [he, hd.1, hd.2]
        clear he hd
        generalize hx0 : B.getD 0 0 = x0 at *
        generalize hx1 : B.getD 1 0 = x1 at *
        generalize nN B = k at *
        subst hk2
        generalize nS B = s at *
        have hz : ((x0 : Int) + 256 * (x1 : Int) == 0) = false := by
          rw [beq_eq_false_iff_ne]
          omega
        have hz2 : (((x0 : Int) + 256 * (x1 : Int) == 0) || decide (512 < (x0 : Int) + 256 * (x1 : Int))) = false := by
          rw [hz, Bool.false_or, decide_eq_false_iff_not]
          omega
        go_enter Tryd.func12, Tryd.ntmps12
        go_wp2_with fail
        go_quiet (fail)
        go_wp2_with fail
        go_ret3
        exact givesN_nil w _ 6 (HB.out _)
      · have hk512 : nN B ≤ 512 := by omega
        by_cases hsum : sumL (nP B) = nS B
        · have he := nE_ok (B := B) (by omega) hf (by omega) hsum
          have hd := next_ok he
          have hpl := nP_len he
          rw [he, hd.1, hd.2]
          clear he hd
          rw [HNP.out] at HMID
          generalize nP B = P at *
          generalize hx0 : B.getD 0 0 = x0 at *
          generalize hx1 : B.getD 1 0 = x1 at *
          generalize nN B = k at *
          subst hk2
          generalize nS B = s at *
          have hz : ((x0 : Int) + 256 * (x1 : Int) == 0) = false := by
            rw [beq_eq_false_iff_ne]
            omega
          have hz2 : (((x0 : Int) + 256 * (x1 : Int) == 0) || decide (512 < (x0 : Int) + 256 * (x1 : Int))) = false := by
            rw [hz, Bool.false_or, decide_eq_false_iff_not]
            omega
          go_enter Tryd.func12, Tryd.ntmps12
          go_wp2_with fail
          go_quiet (fail)
          go_wp2_with fail
          refine (getnum_any _ _ _ (B.drop 2) 4 _ (HTWO.out _) (by unfold maxLen; omega)).mono ?_
          rw [N2.out]
          rintro e w2 ⟨q2, m2, d2, k2, rfl, _, hw2⟩
          have HB2 : Hid (Below w.heap.size w w2) := Lib.hid (by rw [hw2]; exact below_drewN (HB.out nq) k2)
          clear hw2
          have HM2 := Lib.hid (HMID.out _ HB2.out (by omega))
          go_wp2_with fail
          refine (rsum_sl _ _ _ P _ HM2.out (by omega)).mono ?_
          rintro e w3 ⟨rfl, rfl⟩
          go_wp2_with fail
          go_ret3
          exact givesN_mk hpl HM2.out HB2.out (by unfold maxLen; omega) (by omega) fun a ha => by cases ha; exact .inr ⟨_, rfl, rfl⟩
        · have he := nE_sum (B := B) (by omega) hf (by omega) hsum
          have hd := next_bad (B := B) (by rw [he]; omega)
          rw [he, hd.1, hd.2]
          clear he hd
          rw [HNP.out] at HMID
          generalize nP B = P at *
          generalize hx0 : B.getD 0 0 = x0 at *
          generalize hx1 : B.getD 1 0 = x1 at *
          generalize nN B = k at *
          subst hk2
          generalize nS B = s at *
          have hz : ((x0 : Int) + 256 * (x1 : Int) == 0) = false := by
            rw [beq_eq_false_iff_ne]
            omega
          have hz2 : (((x0 : Int) + 256 * (x1 : Int) == 0) || decide (512 < (x0 : Int) + 256 * (x1 : Int))) = false := by
            rw [hz, Bool.false_or, decide_eq_false_iff_not]
            omega
          go_enter Tryd.func12, Tryd.ntmps12
          go_wp2_with fail
          go_quiet (fail)
          go_wp2_with fail
          refine (getnum_any _ _ _ (B.drop 2) 4 _ (HTWO.out _) (by unfold maxLen; omega)).mono ?_
          rw [N2.out]
          rintro e w2 ⟨q2, m2, d2, k2, rfl, _, hw2⟩
          have HB2 : Hid (Below w.heap.size w w2) := Lib.hid (by rw [hw2]; exact below_drewN (HB.out nq) k2)
          clear hw2
          have HM2 := Lib.hid (HMID.out _ HB2.out (by omega))
          go_wp2_with fail
          refine (rsum_sl _ _ _ P _ HM2.out (by omega)).mono ?_
          rintro e w3 ⟨rfl, rfl⟩
          go_wp2_with fail
          go_ret3
          exact givesN_nil w _ 9 HB2.out
end Go.Proofs.YtmadneedeheekaaDoor
