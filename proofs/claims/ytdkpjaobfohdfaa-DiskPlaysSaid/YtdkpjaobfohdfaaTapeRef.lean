/- The document's tape, by value: New, End, Segs, Bytes. -/
import Derived.Test.YtdkpjaobfohdfaaTapeBytes
namespace Go.Proofs.Ytdkpjaobfohdfaa
open Go.RowKit Go.ChangeShapes Go.WideShapes
set_option linter.unusedVariables false
set_option maxRecDepth 10000
set_option linter.unusedSimpArgs false

/-- The document's bytes in memory. -/
structure Rt (w : World) (p : Option Addr) (c : Nat) (B : List Int) : Prop where
  bl : BL w p B.length c B
  form : ∀ a, p = some a → a.spot = none
theorem Rt.keep {w w' : World} {p : Option Addr} {c : Nat} {B : List Int} {S : Nat → Prop} (h : Rt w p c B) (hc : Chg S w w') (hs : 0 < B.length → ∀ a, p = some a → ¬ S a.block) : Rt w' p c B := ⟨BL.keep h.bl hc hs, h.form⟩
theorem Rt.later {w w' : World} {p : Option Addr} {c : Nat} {B : List Int} (h : Rt w p c B) (hb : Below w.heap.size w w') : Rt w' p c B := h.keep (Chg.of_below (S := fun _ => False) hb) fun _ _ _ h => h
theorem Rt.nil (w : World) : Rt w none 0 [] := ⟨SlG.empty w, fun a ha => by cases ha⟩
/-- The value of the document's tape. -/
abbrev rv (p : Option Addr) (n c F s : Nat) : Value := .agg #[.slice p n c, .int .i64 (F : Nat), .int .i64 (s : Nat)]
theorem tref_new (a : Int) (w : World) : Calls Try.prog 21 #[.int .i64 a] w fun e w' => e = .returned (rv none 0 0 0 (cl a 64 4096)) ∧ Below w.heap.size w w' := by
  have HB : Hid (∀ z : Nat, (w.alloc (.cells #[.slice none 0 0, .int .i64 0, .int .i64 (z : Nat)] 33)).heap[w.heap.size]? = some (.cells #[.slice none 0 0, .int .i64 0, .int .i64 (z : Nat)] 33 (0, 0)) ∧ Below w.heap.size w (w.alloc (.cells #[.slice none 0 0, .int .i64 0, .int .i64 (z : Nat)] 33))) := Lib.hid fun z => ⟨alloc_block w _, (Below.refl _ _).alloc (Nat.le_refl _) _⟩
  by_cases h1 : a < 64
  · have hc : cl a 64 4096 = 64 := by unfold cl; omega
    rw [hc]
    go_enter Try.func21, Try.ntmps21
    go_wp2_with fail
    refine bodyPost_ret (v := rv none 0 0 0 64) ?_ rfl ⟨rfl, (HB.out 64).2⟩
    exact results_cell_row rfl _ _ w.heap.size 33 _ (0, 0) _ rfl (HB.out 64).1 Try.underlying33 rfl (by kernel_rfl)
  · by_cases h2 : 4096 < a
    · have hc : cl a 64 4096 = 4096 := by unfold cl; omega
      rw [hc]
      go_enter Try.func21, Try.ntmps21
      go_wp2_with fail
      refine bodyPost_ret (v := rv none 0 0 0 4096) ?_ rfl ⟨rfl, (HB.out 4096).2⟩
      exact results_cell_row rfl _ _ w.heap.size 33 _ (0, 0) _ rfl (HB.out 4096).1 Try.underlying33 rfl (by kernel_rfl)
    · obtain ⟨z, hz⟩ : ∃ z : Nat, a = z := ⟨a.toNat, by omega⟩
      subst hz
      have hc : cl (z : Nat) 64 4096 = z := by unfold cl; omega
      rw [hc]
      go_enter Try.func21, Try.ntmps21
      go_wp2_with fail
      refine bodyPost_ret (v := rv none 0 0 0 z) ?_ rfl ⟨rfl, (HB.out z).2⟩
      exact results_cell_row rfl _ _ w.heap.size 33 _ (0, 0) _ rfl (HB.out z).1 Try.underlying33 rfl (by kernel_rfl)
theorem refend_any (p : Option Addr) (n c F s : Nat) (w : World) (h : F + n ≤ 2000000) : Calls Try.prog 34 #[rv p n c F s] w fun e w' => e = .returned (.int .i64 (F + n : Nat)) ∧ Below w.heap.size w w' := by
  have e1 : (F : Int) + (n : Int) = ((F + n : Nat) : Int) := by omega
  have HB := Lib.hid ((Below.refl w.heap.size w).alloc (Nat.le_refl _) (.cells #[.slice p n c, .int .i64 (F : Nat), .int .i64 (s : Nat)] 33))
  generalize F + n = E at *
  unfold rv
  go_enter Try.func34, Try.ntmps34
  go_wp2_with fail
  go_ret
  exact ⟨rfl, HB.out⟩
theorem refsegs_any (p : Option Addr) (n c F s : Nat) (w : World) (hs : 0 < s) (hs4 : s ≤ 4096) (hn : n ≤ 1000000) : Calls Try.prog 36 #[rv p n c F s] w fun e w' => e = .returned (.int .i64 (nS s n : Nat)) ∧ Below w.heap.size w w' := by
  have HB := Lib.hid ((Below.refl w.heap.size w).alloc (Nat.le_refl _) (.cells #[.slice p n c, .int .i64 (F : Nat), .int .i64 (s : Nat)] 33))
  have hA := alloc_block w (.cells #[.slice p n c, .int .i64 (F : Nat), .int .i64 (s : Nat)] 33)
  have x0 := block_cell (j := 0) hA (v := .slice p n c) rfl
  have x2 := block_cell (j := 2) hA (v := .int .i64 (s : Nat)) rfl
  clear hA
  unfold rv
  go_enter Try.func36, Try.ntmps36
  go_wp2_with fail
  generalize w.alloc (.cells #[.slice p n c, .int .i64 (F : Nat), .int .i64 (s : Nat)] 33) = W1 at *
  go_loopw [3, 4] (fun m i wr => ∃ j J : Nat, J ≤ n + s ∧ j ≤ J ∧ Hid (j * s = J) ∧ m = .int .i64 (j : Nat) ∧ i = .int .i64 (J : Nat) ∧ Hid (∀ k, k < j → k * s < n) ∧ wr = W1) (fun _ i _ => n + s - (intOf i).toNat)
  case atStart => exact ⟨0, 0, by omega, Nat.le_refl _, Lib.hid (Nat.zero_mul _), rfl, rfl, Lib.hid fun k hk => by omega, rfl⟩
  case round =>
    obtain ⟨j, J, hJn, hjJ, HJ, rfl, rfl, HK, rfl⟩ := hrel
    by_cases hlt : J < n
    · have hlt' : (J : Int) < (n : Int) := by omega
      have e2 : (J : Int) + (s : Int) = ((J + s : Nat) : Int) := by omega
      have hJs : (j + 1) * s = J + s := by rw [Nat.add_mul, Nat.one_mul, HJ.out]
      have HJS := Lib.hid hJs
      have hbb : J + s ≤ 2000000 := by omega
      clear hJs
      obtain ⟨J2, hJ2⟩ : ∃ J2, J + s = J2 := ⟨_, rfl⟩
      rw [hJ2] at e2 HJS hbb
      have HN : Hid (∀ k, k < j + 1 → k * s < n) := Lib.hid fun k hk => by
        rcases Nat.lt_or_ge k j with h | h
        · exact HK.out k h
        · obtain rfl : k = j := by omega
          rw [HJ.out]
          exact hlt
      go_wp2_with fail
      go_roundw
      case rel => exact ⟨j + 1, J2, by omega, by omega, HJS, by go_num, rfl, HN, trivial⟩
      case measure => simp [intOf]; omega
    · have hm : nS s n = j := nS_eq hs (by rw [HJ.out]; exact hlt) HK.out
      go_wp2_with fail
      go_ret
      exact ⟨by rw [hm]; rfl, HB.out⟩
/-- The document's bytes from a number on. -/
def GivesP (w : World) (L : List Int) (e : Ending) (w' : World) : Prop := ∃ p' c', e = .returned (.slice p' L.length c') ∧ BL w' p' L.length c' L ∧ Below w.heap.size w w'
/-- A slice cut off at its beginning, wherever the walk says that it stands. -/
theorem BL.cut {w : World} {p : Option Addr} {n c : Nat} {L : List Int} (h : BL w p n c L) (k : Nat) (hk : k ≤ n) (q : Option Addr) (h1 : c = k → q = p) (h2 : c ≠ k → q = p.map (·.add k)) : BL w q (n - k) (c - k) (L.drop k) := by
  refine BL.drop h k hk q (fun h0 b off he => ?_) fun e => ?_
  · have := h.cap
    rw [h2 (by omega), he]
    simp [Go.WideShapes.add_plain]
  · by_cases hck : c = k
    · exact hck
    · rw [h2 hck] at e
      have hp : p = none := by cases p <;> simp at e ⊢
      have := h.nil hp
      have := h.cap
      omega
end Go.Proofs.Ytdkpjaobfohdfaa
