/- The wire's reader, below all boxes that are made later: what each of its calls leaves. -/
import Derived.Test.YtppmokkbepihhaaDoorWireRest
namespace Go.Proofs.YtppmokkbepihhaaDoor
open Go.RowKit Go.ChangeShapes Go.WideShapes
set_option linter.unusedVariables false
set_option linter.unusedSimpArgs false
set_option maxRecDepth 10000

theorem numR_less (S : St) (size : Int) : (numR S size).1.2.length ≤ S.2.length := by
  unfold numR takeR bad
  split
  · split
    · split
      · exact Nat.le_refl _
      · show (S.2.drop size.toNat).length ≤ _
        rw [List.length_drop]; omega
    · exact Nat.le_refl _
  · split <;> exact Nat.le_refl _
theorem numR_fit {S : St} (h : ∀ y ∈ S.2, y < 256) {n : Nat} (h1 : 1 ≤ n) (h8 : n ≤ 8) : (numR S n).2 < 256 ^ n := by
  unfold numR
  rw [if_pos ⟨by omega, by omega⟩, Int.toNat_natCast]
  have h2 := un_lt (takeR S n).2 (takeR_lt S n h)
  exact Nat.lt_of_lt_of_le h2 (Nat.pow_le_pow_right (by omega) (takeR_len S n))
theorem numR_bytes {S : St} (h : ∀ y ∈ S.2, y < 256) (size : Int) : ∀ y ∈ (numR S size).1.2, y < 256 := by
  unfold numR takeR bad
  split
  · split
    · split
      · exact h
      · intro y hy
        exact h y (List.mem_of_mem_drop hy)
    · exact h
  · split <;> exact h
/-- The reader in block B: all of it below block N. -/
structure Zw (w : World) (N B : Nat) (S : St) : Prop where
  rd : ∃ p c, Rd w B p c S ∧ ∀ a, p = some a → a.block < N
  low : B < N
  size : N ≤ w.heap.size
  small : S.2.length ≤ 1000
  bytes : ∀ y ∈ S.2, y < 256
theorem Zw.later {w w' : World} {N B : Nat} {S : St} (h : Zw w N B S) (hc : Chg (fun k => N ≤ k) w w') : Zw w' N B S := by
  obtain ⟨p, c, hr, hp⟩ := h.rd
  have hs := h.size
  exact ⟨⟨p, c, hr.chg hc (by have := h.low; omega) (fun a ha => by have := hp a ha; omega), hp⟩, h.low, Nat.le_trans hs hc.size, h.small, h.bytes⟩
theorem Zw.below {w w' : World} {N B : Nat} {S : St} (h : Zw w N B S) (hb : Below w.heap.size w w') : Zw w' N B S := h.later (Chg.of_below hb)
theorem Zw.went {w w' : World} {N B : Nat} {S T : St} {p : Option Addr} {c : Nat} (h : Zw w N B S) (hp : ∀ a, p = some a → a.block < N) (hw : Went w B p T w') (hl : T.2.length ≤ S.2.length) (hb : ∀ y ∈ T.2, y < 256) : Zw w' N B T ∧ Chg (fun k => k = B) w w' := by
  obtain ⟨p', c', h1, h2⟩ := hw.rd
  refine ⟨⟨⟨p', c', h1, fun a ha => ?_⟩, h.low, Nat.le_trans h.size hw.chg.size, Nat.le_trans hl h.small, hb⟩, hw.chg⟩
  obtain ⟨a', e1, e2⟩ := h2 a ha
  rw [e2]
  exact hp a' e1
theorem zw_num {w : World} {N B : Nat} {S : St} (h : Zw w N B S) (size : Int) : Calls Tryd.prog 35 #[.pointer (some ⟨B, 0, none⟩), .int .i64 size] w fun e w' => e = .returned (.int .u64 (((numR S size).2 : Nat) : Int)) ∧ Zw w' N B (numR S size).1 ∧ Chg (fun k => k = B) w w' := by
  obtain ⟨p, c, hr, hp⟩ := h.rd
  refine (num_any B c p S size w hr (by have := h.small; omega)).mono ?_
  rintro e w' ⟨rfl, hw⟩
  obtain ⟨h1, h2⟩ := h.went (c := c) hp hw (numR_less S size) (numR_bytes h.bytes size)
  exact ⟨rfl, h1, h2⟩
theorem zw_int {w : World} {N B : Nat} {S : St} (h : Zw w N B S) : Calls Tryd.prog 36 #[.pointer (some ⟨B, 0, none⟩)] w fun e w' => e = .returned (.int .i64 (sgn (numR S 8).2)) ∧ Zw w' N B (numR S 8).1 ∧ Chg (fun k => k = B) w w' := by
  obtain ⟨p, c, hr, hp⟩ := h.rd
  refine (int_any B c p S w hr (by have := h.small; omega)).mono ?_
  rintro e w' ⟨rfl, hw⟩
  obtain ⟨h1, h2⟩ := h.went (c := c) hp hw (numR_less S 8) (numR_bytes h.bytes 8)
  exact ⟨rfl, h1, h2⟩
theorem bad_2 (e : Int) (S : St) : (bad e S).2 = S.2 := by unfold bad; split <;> rfl
theorem boolR_2 (S : St) : (boolR S).1.2 = (numR S 1).1.2 := by unfold boolR; split; exact bad_2 _ _; rfl
theorem takeR_less (S : St) (n : Nat) : (takeR S n).1.2.length ≤ S.2.length := by
  unfold takeR
  split
  · split
    · exact Nat.le_refl _
    · show (S.2.drop n).length ≤ _
      rw [List.length_drop]; omega
  · exact Nat.le_refl _
theorem takeR_bytes {S : St} (h : ∀ y ∈ S.2, y < 256) (n : Nat) : ∀ y ∈ (takeR S n).1.2, y < 256 := by
  unfold takeR
  split
  · split
    · exact h
    · intro y hy
      exact h y (List.mem_of_mem_drop hy)
  · exact h
theorem bytesR_less (S : St) (most : Int) : (bytesR S most).1.2.length ≤ S.2.length := by
  unfold bytesR
  refine Nat.le_trans (takeR_less _ _) ?_
  split
  · rw [bad_2]; exact numR_less S 2
  · exact numR_less S 2
theorem bytesR_bytes {S : St} (h : ∀ y ∈ S.2, y < 256) (most : Int) : ∀ y ∈ (bytesR S most).1.2, y < 256 := by
  unfold bytesR
  refine takeR_bytes ?_ _
  split
  · rw [bad_2]; exact numR_bytes h 2
  · exact numR_bytes h 2
theorem bytesR_most (S : St) : (bytesR S 512).2.length ≤ 512 := by
  unfold bytesR
  by_cases h : (512 : Int) < ((numR S 2).2 : Int)
  · rw [if_pos h]
    unfold takeR
    rw [if_neg]
    · exact Nat.zero_le _
    · unfold bad
      split
      · show ¬ (7 : Int) = 0
        decide
      · assumption
  · rw [if_neg h]
    have := takeR_len (numR S 2).1 (numR S 2).2
    omega
theorem bytesR_lt {S : St} (h : ∀ y ∈ S.2, y < 256) (most : Int) : ∀ y ∈ (bytesR S most).2, y < 256 := by
  unfold bytesR
  refine takeR_lt _ _ ?_
  split
  · rw [bad_2]; exact numR_bytes h 2
  · exact numR_bytes h 2
end Go.Proofs.YtppmokkbepihhaaDoor
