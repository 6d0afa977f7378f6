/- The document's own sum. -/
import Derived.Test.YtgjfgabagfhnoaaCalcHalves
namespace Go.Proofs.Ytgjfgabagfhnoaa
open Go.RowKit
set_option linter.unusedVariables false
set_option maxRecDepth 10000

theorem step_no (s x : Int) (h : ¬ 4294967296 ≤ loH s + loH x) : hiH s + hiH x = hiH (s + x) ∧ loH s + loH x = loH (s + x) := by unfold hiH loH at *; omega
theorem step_yes (s x : Int) (h : 4294967296 ≤ loH s + loH x) : hiH s + hiH x + 1 = hiH (s + x) ∧ loH s + loH x - 4294967296 = loH (s + x) := by unfold hiH loH at *; omega
theorem parts_bd (s : Int) (n : Nat) (hn : n ≤ 1000000) (h0 : -9223372036854775808 * (n : Int) ≤ s) (h1 : s ≤ 9223372036854775807 * (n : Int)) : -2147483648000000 ≤ hiH s ∧ hiH s ≤ 2147483648000000 ∧ 0 ≤ loH s ∧ loH s ≤ 4294967295 := by
  unfold hiH loH; omega
theorem fits_parts (s : Int) : (-2147483648 ≤ hiH s ∧ hiH s ≤ 2147483647) ↔ (-9223372036854775808 ≤ s ∧ s ≤ 9223372036854775807) := by unfold hiH; omega
theorem whole_parts (s : Int) : hiH s * 4294967296 + loH s = s := by unfold hiH loH; omega

theorem rsum_row (b off len cap : Nat) (xs : List Int) (w : World) (hb : b < w.heap.size) (hz : len = xs.length) (hbig : len ≤ 1000000) (hc : ∀ j, j < xs.length → w.cell? ⟨b, off + j, none⟩ = some (.int .i64 (xs.getD j 0)))
    (hr : ∀ x ∈ xs, -9223372036854775808 ≤ x ∧ x ≤ 9223372036854775807) :
    Calls Try.prog 38 #[.slice (some ⟨b, off, none⟩) len cap] w fun e w' => e = .returned (.tuple #[.int .i64 (val (total xs)), .bool (okB (total xs))]) ∧ Below w.heap.size w w' := by
  have HZ := Lib.hid hz
  have HC := Lib.hid hc
  have HR := Lib.hid hr
  clear hz hc hr
  go_enter Try.func38, Try.ntmps38
  go_wp2_with fail
  go_loopw [5] (fun i wr => ∃ (k : Nat) (s : Int), k ≤ len ∧ i = .int .i64 k ∧ Hid (s = total (xs.take k)) ∧ -9223372036854775808 * (k : Int) ≤ s ∧ s ≤ 9223372036854775807 * (k : Int) ∧
      wr.cell? ⟨w.heap.size, 0, none⟩ = some (.int .i64 (hiH s)) ∧ wr.cell? ⟨w.heap.size, 1, none⟩ = some (.int .i64 (loH s)) ∧ wr.frozen? ⟨w.heap.size, 0, none⟩ = false ∧ wr.frozen? ⟨w.heap.size, 1, none⟩ = false ∧ w.heap.size < wr.heap.size ∧ Hid (Below w.heap.size w wr)) (fun i _ => len - (intOf i).toNat)
  case atStart => exact ⟨0, 0, Nat.zero_le _, rfl, Lib.hid rfl, by omega, by omega, by simp [hiH], by simp [loH], by simp, by simp, by simp, Lib.hid ((Below.refl _ _).alloc (Nat.le_refl _) _)⟩
  case round =>
    obtain ⟨k, s, hk, rfl, HS, hs0, hs1, hc0, hc1, hf0, hf1, hsz, HB⟩ := hrel
    have HS0 := hs0
    have HS1 := hs1
    obtain ⟨hp0, hp1, hp2, hp3⟩ := parts_bd s k (by omega) hs0 hs1
    by_cases hlt : k < len
    · obtain ⟨x, hx, hx0, hx1, hcell⟩ : ∃ x, Hid (x = xs.getD k 0) ∧ -9223372036854775808 ≤ x ∧ x ≤ 9223372036854775807 ∧ wr.cell? ⟨b, off + k, none⟩ = some (.int .i64 x) := by
        have hk' : k < xs.length := by rw [← HZ.out]; exact hlt
        have hm := HR.out (xs.getD k 0) (by rw [List.getD, List.getElem?_eq_getElem hk']; simp)
        exact ⟨_, Lib.hid rfl, hm.1, hm.2, by rw [HB.out.cell (p := ⟨b, off + k, none⟩) hb]; exact HC.out k hk'⟩
      obtain ⟨hq0, hq1, hq2, hq3⟩ := halves_bd x hx0 hx1
      by_cases hov : 4294967296 ≤ loH s + loH x
      · have HN := Lib.hid (step_yes s x hov)
        go_wp2_with fail
        refine (halves_any _ _ hx0 hx1).mono ?_
        rintro e w1 ⟨rfl, hb1⟩
        have gc0 : w1.cell? ⟨w.heap.size, 0, none⟩ = some (.int .i64 (hiH s)) := by rw [hb1.cell (p := ⟨w.heap.size, 0, none⟩) hsz]; exact hc0
        have gc1 : w1.cell? ⟨w.heap.size, 1, none⟩ = some (.int .i64 (loH s)) := by rw [hb1.cell (p := ⟨w.heap.size, 1, none⟩) hsz]; exact hc1
        have gf0 : w1.frozen? ⟨w.heap.size, 0, none⟩ = false := by rw [hb1.frozen (p := ⟨w.heap.size, 0, none⟩) hsz]; exact hf0
        have gf1 : w1.frozen? ⟨w.heap.size, 1, none⟩ = false := by rw [hb1.frozen (p := ⟨w.heap.size, 1, none⟩) hsz]; exact hf1
        have gsz : w.heap.size < w1.heap.size := Nat.lt_of_lt_of_le hsz hb1.size
        have HB1 := Lib.hid (HB.out.trans (hb1.mono (Nat.le_of_lt hsz)))
        clear hb1 HB
        go_wp2_with fail
        go_roundw
        case rel =>
          refine ⟨k + 1, s + x, by omega, by go_num, Lib.hid (by rw [HS.out, hx.out, total_take xs k (by rw [← HZ.out]; exact hlt)]), by omega, by omega, ?_, ?_, ?_, ?_, ?_, ?_⟩
          · rw [← HN.out.1]; go_simp
          · rw [← HN.out.2]; go_simp; exact World.cell?_setCell_same _ _ _ (u := .int .i64 (loH s + loH x)) (by go_simp)
          · go_simp
          · go_simp
          · simp [World.setCell]; omega
          · exact Lib.hid (((((HB1.out.setCell (Nat.le_refl _) _).setCell (Nat.le_refl _) _).setCell (Nat.le_refl _) _).setCell (Nat.le_refl _) _).alloc (by simp [World.setCell]; omega) _)
        case measure => simp [intOf]; omega
      · have HN := Lib.hid (step_no s x hov)
        go_wp2_with fail
        refine (halves_any _ _ hx0 hx1).mono ?_
        rintro e w1 ⟨rfl, hb1⟩
        have gc0 : w1.cell? ⟨w.heap.size, 0, none⟩ = some (.int .i64 (hiH s)) := by rw [hb1.cell (p := ⟨w.heap.size, 0, none⟩) hsz]; exact hc0
        have gc1 : w1.cell? ⟨w.heap.size, 1, none⟩ = some (.int .i64 (loH s)) := by rw [hb1.cell (p := ⟨w.heap.size, 1, none⟩) hsz]; exact hc1
        have gf0 : w1.frozen? ⟨w.heap.size, 0, none⟩ = false := by rw [hb1.frozen (p := ⟨w.heap.size, 0, none⟩) hsz]; exact hf0
        have gf1 : w1.frozen? ⟨w.heap.size, 1, none⟩ = false := by rw [hb1.frozen (p := ⟨w.heap.size, 1, none⟩) hsz]; exact hf1
        have gsz : w.heap.size < w1.heap.size := Nat.lt_of_lt_of_le hsz hb1.size
        have HB1 := Lib.hid (HB.out.trans (hb1.mono (Nat.le_of_lt hsz)))
        clear hb1 HB
        go_wp2_with fail
        go_roundw
        case rel =>
          refine ⟨k + 1, s + x, by omega, by go_num, Lib.hid (by rw [HS.out, hx.out, total_take xs k (by rw [← HZ.out]; exact hlt)]), by omega, by omega, ?_, ?_, ?_, ?_, ?_, ?_⟩
          · rw [← HN.out.1]; go_simp
          · rw [← HN.out.2]; go_simp
          · go_simp
          · go_simp
          · simp [World.setCell]; omega
          · exact Lib.hid (((HB1.out.setCell (Nat.le_refl _) _).setCell (Nat.le_refl _) _).alloc (by simp [World.setCell]; omega) _)
        case measure => simp [intOf]; omega
    · have hs : s = total xs := by
        rw [HS.out, List.take_of_length_le]
        rw [← HZ.out]; omega
      have hfit := fits_parts s
      have hwh := whole_parts s
      clear HC HR HZ HS hs0 hs1 HS0 HS1
      subst hs
      have hin := two_in (total xs)
      have hout := two_out (total xs)
      generalize hiH (total xs) = H at *
      generalize loH (total xs) = L at *
      by_cases h1 : H < -2147483648
      · have HV := Lib.hid (hout (by omega))
        clear hfit hwh hin hout
        go_wp2_with fail
        go_ret2
        exact ⟨by rw [← HV.out]; rfl, HB.out⟩
      · by_cases h2 : 2147483647 < H
        · have HV := Lib.hid (hout (by omega))
          clear hfit hwh hin hout
          go_wp2_with fail
          go_ret2
          exact ⟨by rw [← HV.out]; rfl, HB.out⟩
        · have HV := Lib.hid (hin (by omega))
          have HW := Lib.hid hwh
          have hb2 : -9223372036854775808 ≤ H * 4294967296 ∧ H * 4294967296 ≤ 9223372036854775807 := by omega
          have hb3 : -9223372036854775808 ≤ H * 4294967296 + L ∧ H * 4294967296 + L ≤ 9223372036854775807 := by omega
          obtain ⟨hb20, hb21⟩ := hb2
          obtain ⟨hb30, hb31⟩ := hb3
          clear hfit hwh hin hout
          go_wp2_with fail
          go_ret2
          exact ⟨by rw [← HV.out, ← HW.out]; rfl, HB.out⟩

theorem rsum_none (p : Option Addr) (cap : Nat) (w : World) :
    Calls Try.prog 38 #[.slice p 0 cap] w fun e w' => e = .returned (.tuple #[.int .i64 0, .bool true]) ∧ Below w.heap.size w w' := by
  go_enter Try.func38, Try.ntmps38
  go_wp2_with fail
  go_loop [5] (fun i => i = .int .i64 0) (fun _ => 0)
  case atStart => exact rfl
  case round =>
    obtain rfl := hrel
    go_wp2_with fail
    go_ret2
    exact ⟨rfl, (Below.refl _ _).alloc (Nat.le_refl _) _⟩
end Go.Proofs.Ytgjfgabagfhnoaa
