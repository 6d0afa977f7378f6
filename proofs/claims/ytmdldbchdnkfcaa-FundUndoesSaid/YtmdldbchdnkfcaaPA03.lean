import Derived.Test.YtmdldbchdnkfcaaPA02
import Derived.Test.YtmdldbchdnkfcaaChecked
import Derived.WalkLawsBesides
import Derived.WalkSpells
import Derived.Lib.Hide
import Derived.BigQuiet
namespace Go.Proofs.Ytmdldbchdnkfcaa
open Go.RowKit
set_option linter.unusedVariables false
set_option maxRecDepth 10000
theorem add_any (a b : Int) (w : World) (ha0 : -9223372036854775808 ≤ a) (ha1 : a ≤ 9223372036854775807) (hb0 : -9223372036854775808 ≤ b) (hb1 : b ≤ 9223372036854775807) :
 Calls Try.prog 64 #[.int .i64 a, .int .i64 b] w fun e w' => e = .returned (.tuple #[.int .i64 (val (a + b)), .bool (okB (a + b))]) ∧ w = w' := by
 by_cases hp : 0 < b
 · by_cases hx : 9223372036854775807 - b < a
   · go_enter Try.func64, Try.ntmps64
     go_wp2
     go_ret2
     exact ⟨two_out (a + b) (by omega), rfl⟩
   · have hn : ¬ b < 0 := by omega
     go_enter Try.func64, Try.ntmps64
     go_wp2
     go_ret2
     exact ⟨two_in (a + b) (by omega), rfl⟩
 · by_cases hn : b < 0
   · by_cases hx : a < -9223372036854775808 - b
     · go_enter Try.func64, Try.ntmps64
       go_wp2
       go_ret2
       exact ⟨two_out (a + b) (by omega), rfl⟩
     · go_enter Try.func64, Try.ntmps64
       go_wp2
       go_ret2
       exact ⟨two_in (a + b) (by omega), rfl⟩
   · go_enter Try.func64, Try.ntmps64
     go_wp2
     go_ret2
     exact ⟨two_in (a + b) (by omega), rfl⟩
theorem sub_any (a b : Int) (w : World) (ha0 : -9223372036854775808 ≤ a) (ha1 : a ≤ 9223372036854775807) (hb0 : -9223372036854775808 ≤ b) (hb1 : b ≤ 9223372036854775807) :
 Calls Try.prog 76 #[.int .i64 a, .int .i64 b] w fun e w' => e = .returned (.tuple #[.int .i64 (val (a - b)), .bool (okB (a - b))]) ∧ w = w' := by
 by_cases hp : 0 < b
 · by_cases hx : a < -9223372036854775808 + b
   · go_enter Try.func76, Try.ntmps76
     go_wp2
     go_ret2
     exact ⟨two_out (a - b) (by omega), rfl⟩
   · have hn : ¬ b < 0 := by omega
     go_enter Try.func76, Try.ntmps76
     go_wp2
     go_ret2
     exact ⟨two_in (a - b) (by omega), rfl⟩
 · by_cases hn : b < 0
   · by_cases hx : 9223372036854775807 + b < a
     · go_enter Try.func76, Try.ntmps76
       go_wp2
       go_ret2
       exact ⟨two_out (a - b) (by omega), rfl⟩
     · go_enter Try.func76, Try.ntmps76
       go_wp2
       go_ret2
       exact ⟨two_in (a - b) (by omega), rfl⟩
   · go_enter Try.func76, Try.ntmps76
     go_wp2
     go_ret2
     exact ⟨two_in (a - b) (by omega), rfl⟩
def total : List Int → Int
 | [] => 0
 | x :: r => x + total r
theorem total_append (a b : List Int) : total (a ++ b) = total a + total b := by
 induction a with
 | nil => simp [total]
 | cons x r ih => simp [total, ih]; omega
theorem total_take (xs : List Int) (k : Nat) (h : k < xs.length) : total (xs.take (k + 1)) = total (xs.take k) + xs.getD k 0 := by
 rw [List.take_add_one, total_append]
 simp [List.getD, List.getElem?_eq_getElem h, total]
theorem two_cells {w w' : World} {c0 c1 : Value} {T : TypeId} (h : Below (w.alloc (.cells #[c0, c1] T)).heap.size (w.alloc (.cells #[c0, c1] T)) w') :
 w'.cell? ⟨w.heap.size, 0, none⟩ = some c0 ∧ w'.cell? ⟨w.heap.size, 1, none⟩ = some c1 ∧ w'.frozen? ⟨w.heap.size, 0, none⟩ = false ∧ w'.frozen? ⟨w.heap.size, 1, none⟩ = false ∧ w.heap.size < w'.heap.size := by
 refine ⟨?_, ?_, ?_, ?_, ?_⟩
 · rw [h.cell (p := ⟨w.heap.size, 0, none⟩) (by simp)]; simp
 · rw [h.cell (p := ⟨w.heap.size, 1, none⟩) (by simp)]; simp
 · rw [h.frozen (p := ⟨w.heap.size, 0, none⟩) (by simp)]; simp
 · rw [h.frozen (p := ⟨w.heap.size, 1, none⟩) (by simp)]; simp
 · have := h.size; simp at this; omega
def hiH (a : Int) : Int := a / 4294967296
def loH (a : Int) : Int := a % 4294967296
theorem halves_bd (a : Int) (h0 : -9223372036854775808 ≤ a) (h1 : a ≤ 9223372036854775807) : -2147483648 ≤ hiH a ∧ hiH a ≤ 2147483647 ∧ 0 ≤ loH a ∧ loH a ≤ 4294967295 := by unfold hiH loH; omega
theorem halves_up (a : Int) : -1 - hiH (-(a + 1)) = hiH a ∧ 4294967295 - loH (-(a + 1)) = loH a := by unfold hiH loH; omega
theorem halves_pos (a : Int) (w : World) (h0 : 0 ≤ a) (h1 : a ≤ 9223372036854775807) :
 Calls Try.prog 82 #[.int .i64 a] w fun e w' => e = .returned (.agg #[.int .i64 (hiH a), .int .i64 (loH a)]) ∧ Below w.heap.size w w' := by
 have hn : ¬ a < 0 := by omega
 go_enter Try.func82, Try.ntmps82
 go_wp2
 exact bodyPost_ret (v := .agg #[.int .i64 (hiH a), .int .i64 (loH a)]) (by simp [results, Try.results82, go_sem, hiH, loH]) rfl ⟨rfl, (Below.refl _ _).alloc (Nat.le_refl _) _⟩
theorem halves_any (a : Int) (w : World) (h0 : -9223372036854775808 ≤ a) (h1 : a ≤ 9223372036854775807) :
 Calls Try.prog 82 #[.int .i64 a] w fun e w' => e = .returned (.agg #[.int .i64 (hiH a), .int .i64 (loH a)]) ∧ Below w.heap.size w w' := by
 by_cases hn : a < 0
 · have hm0 : 0 ≤ -(a + 1) := by omega
   have hb := halves_bd (-(a + 1)) (by omega) (by omega)
   obtain ⟨hb0, hb1, hb2, hb3⟩ := hb
   have HU := Lib.hid (halves_up a)
   go_enter Try.func82, Try.ntmps82
   go_wp2_with fail
   refine (halves_pos _ _ (by omega) (by omega)).mono ?_
   rintro e w' ⟨rfl, hbel⟩
   obtain ⟨hc0, hc1, hf0, hf1, hsz⟩ := two_cells hbel
   have HB := Lib.hid hbel
   clear hbel
   go_wp2_with fail
   refine bodyPost_ret (v := .agg #[.int .i64 (hiH a), .int .i64 (loH a)]) ?_ rfl ⟨rfl, ?_⟩
   · simp [results, Try.results82, go_sem, hc0, hc1, hsz, HU.out.1, HU.out.2]
   · exact ((((((Below.refl _ _).alloc (Nat.le_refl _) _).trans (HB.out.mono (by simp))).setCell (by simp) _).setCell (by simp) _)).alloc (by simp [World.setCell]; omega) _
 · exact halves_pos a w (by omega) h1
theorem step_no (s x : Int) (h : ¬ 4294967296 ≤ loH s + loH x) : hiH s + hiH x = hiH (s + x) ∧ loH s + loH x = loH (s + x) := by unfold hiH loH at *; omega
theorem step_yes (s x : Int) (h : 4294967296 ≤ loH s + loH x) : hiH s + hiH x + 1 = hiH (s + x) ∧ loH s + loH x - 4294967296 = loH (s + x) := by unfold hiH loH at *; omega
theorem parts_bd (s : Int) (n : Nat) (hn : n ≤ 1000000) (h0 : -9223372036854775808 * (n : Int) ≤ s) (h1 : s ≤ 9223372036854775807 * (n : Int)) : -2147483648000000 ≤ hiH s ∧ hiH s ≤ 2147483648000000 ∧ 0 ≤ loH s ∧ loH s ≤ 4294967295 := by
 unfold hiH loH; omega
theorem fits_parts (s : Int) : (-2147483648 ≤ hiH s ∧ hiH s ≤ 2147483647) ↔ (-9223372036854775808 ≤ s ∧ s ≤ 9223372036854775807) := by unfold hiH; omega
theorem whole_parts (s : Int) : hiH s * 4294967296 + loH s = s := by unfold hiH loH; omega
theorem rsum_row (b off len cap : Nat) (xs : List Int) (w : World) (hb : b < w.heap.size) (hz : len = xs.length) (hbig : len ≤ 1000000) (hc : ∀ j, j < xs.length → w.cell? ⟨b, off + j, none⟩ = some (.int .i64 (xs.getD j 0)))
 (hr : ∀ x ∈ xs, -9223372036854775808 ≤ x ∧ x ≤ 9223372036854775807) :
 Calls Try.prog 72 #[.slice (some ⟨b, off, none⟩) len cap] w fun e w' => e = .returned (.tuple #[.int .i64 (val (total xs)), .bool (okB (total xs))]) ∧ Below w.heap.size w w' := by
 have HZ := Lib.hid hz
 have HC := Lib.hid hc
 have HR := Lib.hid hr
 clear hz hc hr
 go_enter Try.func72, Try.ntmps72
 go_wp2_with fail
 go_loopw [5] (fun i wr => ∃ (k : Nat) (s : Int), k ≤ len ∧ i = .int .i64 k ∧ Hid (s = total (xs.take k)) ∧ -9223372036854775808 * (k : Int) ≤ s ∧ s ≤ 9223372036854775807 * (k : Int) ∧
  wr.cell? ⟨w.heap.size, 0, none⟩ = some (.int .i64 (hiH s)) ∧ wr.cell? ⟨w.heap.size, 1, none⟩ = some (.int .i64 (loH s)) ∧ wr.frozen? ⟨w.heap.size, 0, none⟩ = false ∧ wr.frozen? ⟨w.heap.size, 1, none⟩ = false ∧ w.heap.size < wr.heap.size ∧ Hid (Below w.heap.size w wr)) (fun i _ => len - (intOf i).toNat)
 case atStart => exact ⟨0, 0, Nat.zero_le _, rfl, Lib.hid rfl, by omega, by omega, by simp [hiH], by simp [loH], by simp, by simp, by simp, Lib.hid ((Below.refl _ _).alloc (Nat.le_refl _) _)⟩
 case round =>
  obtain ⟨k, s, hk, rfl, HS, hs0, hs1, hc0, hc1, hf0, hf1, hsz, HB⟩ := hrel
  have HS0 := hs0
  have HS1 := hs1
  obtain ⟨hp0, hp1, hp2, hp3⟩ := parts_bd s k (by omega) hs0 hs1
  by_cases hlt : k < len
  · obtain ⟨x, hx, hx0, hx1, hcell⟩ : ∃ x, Hid (x = xs.getD k 0) ∧ -9223372036854775808 ≤ x ∧ x ≤ 9223372036854775807 ∧ wr.cell? ⟨b, off + k, none⟩ = some (.int .i64 x) := by
     have hk' : k < xs.length := by rw [← HZ.out]; exact hlt
     have hm := HR.out (xs.getD k 0) (by rw [List.getD, List.getElem?_eq_getElem hk']; simp)
     exact ⟨_, Lib.hid rfl, hm.1, hm.2, by rw [HB.out.cell (p := ⟨b, off + k, none⟩) hb]; exact HC.out k hk'⟩
    obtain ⟨hq0, hq1, hq2, hq3⟩ := halves_bd x hx0 hx1
    by_cases hov : 4294967296 ≤ loH s + loH x
    · have HN := Lib.hid (step_yes s x hov)
      go_wp2_with fail
      refine (halves_any _ _ hx0 hx1).mono ?_
      rintro e w1 ⟨rfl, hb1⟩
      have gc0 : w1.cell? ⟨w.heap.size, 0, none⟩ = some (.int .i64 (hiH s)) := by rw [hb1.cell (p := ⟨w.heap.size, 0, none⟩) hsz]; exact hc0
      have gc1 : w1.cell? ⟨w.heap.size, 1, none⟩ = some (.int .i64 (loH s)) := by rw [hb1.cell (p := ⟨w.heap.size, 1, none⟩) hsz]; exact hc1
      have gf0 : w1.frozen? ⟨w.heap.size, 0, none⟩ = false := by rw [hb1.frozen (p := ⟨w.heap.size, 0, none⟩) hsz]; exact hf0
      have gf1 : w1.frozen? ⟨w.heap.size, 1, none⟩ = false := by rw [hb1.frozen (p := ⟨w.heap.size, 1, none⟩) hsz]; exact hf1
      have gsz : w.heap.size < w1.heap.size := Nat.lt_of_lt_of_le hsz hb1.size
      have HB1 := Lib.hid (HB.out.trans (hb1.mono (Nat.le_of_lt hsz)))
      clear hb1 HB
      go_wp2_with fail
      go_roundw
      case rel =>
       refine ⟨k + 1, s + x, by omega, by go_num, Lib.hid (by rw [HS.out, hx.out, total_take xs k (by rw [← HZ.out]; exact hlt)]), by omega, by omega, ?_, ?_, ?_, ?_, ?_, ?_⟩
       · rw [← HN.out.1]; go_simp
       · rw [← HN.out.2]; go_simp; exact World.cell?_setCell_same _ _ _ (u := .int .i64 (loH s + loH x)) (by go_simp)
       · go_simp
       · go_simp
       · simp [World.setCell]; omega
       · exact Lib.hid (((((HB1.out.setCell (Nat.le_refl _) _).setCell (Nat.le_refl _) _).setCell (Nat.le_refl _) _).setCell (Nat.le_refl _) _).alloc (by simp [World.setCell]; omega) _)
      case measure => simp [intOf]; omega
    · have HN := Lib.hid (step_no s x hov)
      go_wp2_with fail
      refine (halves_any _ _ hx0 hx1).mono ?_
      rintro e w1 ⟨rfl, hb1⟩
      have gc0 : w1.cell? ⟨w.heap.size, 0, none⟩ = some (.int .i64 (hiH s)) := by rw [hb1.cell (p := ⟨w.heap.size, 0, none⟩) hsz]; exact hc0
      have gc1 : w1.cell? ⟨w.heap.size, 1, none⟩ = some (.int .i64 (loH s)) := by rw [hb1.cell (p := ⟨w.heap.size, 1, none⟩) hsz]; exact hc1
      have gf0 : w1.frozen? ⟨w.heap.size, 0, none⟩ = false := by rw [hb1.frozen (p := ⟨w.heap.size, 0, none⟩) hsz]; exact hf0
      have gf1 : w1.frozen? ⟨w.heap.size, 1, none⟩ = false := by rw [hb1.frozen (p := ⟨w.heap.size, 1, none⟩) hsz]; exact hf1
      have gsz : w.heap.size < w1.heap.size := Nat.lt_of_lt_of_le hsz hb1.size
      have HB1 := Lib.hid (HB.out.trans (hb1.mono (Nat.le_of_lt hsz)))
      clear hb1 HB
      go_wp2_with fail
      go_roundw
      case rel =>
       refine ⟨k + 1, s + x, by omega, by go_num, Lib.hid (by rw [HS.out, hx.out, total_take xs k (by rw [← HZ.out]; exact hlt)]), by omega, by omega, ?_, ?_, ?_, ?_, ?_, ?_⟩
       · rw [← HN.out.1]; go_simp
       · rw [← HN.out.2]; go_simp
       · go_simp
       · go_simp
       · simp [World.setCell]; omega
       · exact Lib.hid (((HB1.out.setCell (Nat.le_refl _) _).setCell (Nat.le_refl _) _).alloc (by simp [World.setCell]; omega) _)
      case measure => simp [intOf]; omega
  · have hs : s = total xs := by
     rw [HS.out, List.take_of_length_le]
     rw [← HZ.out]; omega
    have hfit := fits_parts s
    have hwh := whole_parts s
    clear HC HR HZ HS hs0 hs1 HS0 HS1
    subst hs
    have hin := two_in (total xs)
    have hout := two_out (total xs)
    generalize hiH (total xs) = H at *
    generalize loH (total xs) = L at *
    by_cases h1 : H < -2147483648
    · have HV := Lib.hid (hout (by omega))
      clear hfit hwh hin hout
      go_wp2_with fail
      go_ret2
      exact ⟨by rw [← HV.out]; rfl, HB.out⟩
    · by_cases h2 : 2147483647 < H
      · have HV := Lib.hid (hout (by omega))
        clear hfit hwh hin hout
        go_wp2_with fail
        go_ret2
        exact ⟨by rw [← HV.out]; rfl, HB.out⟩
      · have HV := Lib.hid (hin (by omega))
        have HW := Lib.hid hwh
        have hb2 : -9223372036854775808 ≤ H * 4294967296 ∧ H * 4294967296 ≤ 9223372036854775807 := by omega
        have hb3 : -9223372036854775808 ≤ H * 4294967296 + L ∧ H * 4294967296 + L ≤ 9223372036854775807 := by omega
        obtain ⟨hb20, hb21⟩ := hb2
        obtain ⟨hb30, hb31⟩ := hb3
        clear hfit hwh hin hout
        go_wp2_with fail
        go_ret2
        exact ⟨by rw [← HV.out, ← HW.out]; rfl, HB.out⟩
theorem rsum_two (w : World) (b cap : Nat) (x y : Int) (hb : b < w.heap.size) (h0 : w.cell? ⟨b, 0, none⟩ = some (.int .i64 x)) (h1 : w.cell? ⟨b, 1, none⟩ = some (.int .i64 y))
 (hx0 : -9223372036854775808 ≤ x) (hx1 : x ≤ 9223372036854775807) (hy0 : -9223372036854775808 ≤ y) (hy1 : y ≤ 9223372036854775807) :
 Calls Try.prog 72 #[.slice (some ⟨b, 0, none⟩) 2 cap] w fun e w' => e = .returned (.tuple #[.int .i64 (val (x + y)), .bool (okB (x + y))]) ∧ Below w.heap.size w w' := by
 have h := rsum_row b 0 2 cap [x, y] w hb rfl (by omega)
  (fun j hj => by
   simp only [List.length_cons, List.length_nil] at hj
   rcases (by omega : j = 0 ∨ j = 1) with rfl | rfl
   · exact h0
   · exact h1)
  (fun z hz => by
   simp only [List.mem_cons, List.not_mem_nil, or_false] at hz
   rcases hz with rfl | rfl <;> omega)
 have ht : total [x, y] = x + y := by simp [total]
 rw [ht] at h
 exact h
theorem rsum_three (w : World) (b cap : Nat) (x y z : Int) (hb : b < w.heap.size) (h0 : w.cell? ⟨b, 0, none⟩ = some (.int .i64 x)) (h1 : w.cell? ⟨b, 1, none⟩ = some (.int .i64 y)) (h2 : w.cell? ⟨b, 2, none⟩ = some (.int .i64 z))
 (hx0 : -9223372036854775808 ≤ x) (hx1 : x ≤ 9223372036854775807) (hy0 : -9223372036854775808 ≤ y) (hy1 : y ≤ 9223372036854775807) (hz0 : -9223372036854775808 ≤ z) (hz1 : z ≤ 9223372036854775807) :
 Calls Try.prog 72 #[.slice (some ⟨b, 0, none⟩) 3 cap] w fun e w' => e = .returned (.tuple #[.int .i64 (val (x + (y + z))), .bool (okB (x + (y + z)))]) ∧ Below w.heap.size w w' := by
 have h := rsum_row b 0 3 cap [x, y, z] w hb rfl (by omega)
  (fun j hj => by
   simp only [List.length_cons, List.length_nil] at hj
   rcases (by omega : j = 0 ∨ j = 1 ∨ j = 2) with rfl | rfl | rfl
   · exact h0
   · exact h1
   · exact h2)
  (fun u hu => by
   simp only [List.mem_cons, List.not_mem_nil, or_false] at hu
   rcases hu with rfl | rfl | rfl <;> omega)
 have ht : total [x, y, z] = x + (y + z) := by simp [total]
 rw [ht] at h
 exact h
theorem radd_any (a b : Int) (w : World) (ha0 : -9223372036854775808 ≤ a) (ha1 : a ≤ 9223372036854775807) (hb0 : -9223372036854775808 ≤ b) (hb1 : b ≤ 9223372036854775807) :
 Calls Try.prog 50 #[.int .i64 a, .int .i64 b] w fun e w' => e = .returned (.tuple #[.int .i64 (val (a + b)), .bool (okB (a + b))]) ∧ Below w.heap.size w w' := by
 go_enter Try.func50, Try.ntmps50
 go_wp2_with fail
 refine (rsum_two _ _ _ a b (by simp) (by simp) (by simp) ha0 ha1 hb0 hb1).mono ?_
 rintro e w1 ⟨rfl, hb1⟩
 go_wp2_with fail
 go_ret2
 exact ⟨rfl, ((Below.refl _ _).alloc (Nat.le_refl _) _).trans (hb1.mono (by simp))⟩
theorem rsub_any (a b : Int) (w : World) (ha0 : -9223372036854775808 ≤ a) (ha1 : a ≤ 9223372036854775807) (hb0 : -9223372036854775808 ≤ b) (hb1 : b ≤ 9223372036854775807) :
 Calls Try.prog 73 #[.int .i64 a, .int .i64 b] w fun e w' => e = .returned (.tuple #[.int .i64 (val (a - b)), .bool (okB (a - b))]) ∧ Below w.heap.size w w' := by
 by_cases h : b < -9223372036854775807
 · obtain rfl : b = -9223372036854775808 := by omega
   have HE := Lib.hid (show a + (9223372036854775807 + 1) = a - -9223372036854775808 by omega)
   go_enter Try.func73, Try.ntmps73
   go_wp2_with fail
   refine (rsum_three _ _ _ a 9223372036854775807 1 (by simp) (by simp) (by simp) (by simp) ha0 ha1 (by omega) (by omega) (by omega) (by omega)).mono ?_
   rintro e w1 ⟨rfl, hbel⟩
   rw [HE.out]
   go_wp2_with fail
   go_ret2
   exact ⟨rfl, ((Below.refl _ _).alloc (Nat.le_refl _) _).trans (hbel.mono (by simp))⟩
 · have HE := Lib.hid (show a + -b = a - b by omega)
   go_enter Try.func73, Try.ntmps73
   go_wp2_with fail
   refine (rsum_two _ _ _ a (-b) (by simp) (by simp) (by simp) ha0 ha1 (by omega) (by omega)).mono ?_
   rintro e w1 ⟨rfl, hbel⟩
   rw [HE.out]
   go_wp2_with fail
   go_ret2
   exact ⟨rfl, ((Below.refl _ _).alloc (Nat.le_refl _) _).trans (hbel.mono (by simp))⟩
end Go.Proofs.Ytmdldbchdnkfcaa
