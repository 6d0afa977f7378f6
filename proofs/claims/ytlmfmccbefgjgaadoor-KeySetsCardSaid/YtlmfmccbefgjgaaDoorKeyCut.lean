/- A text cut at its first blank; the kind of a name; the number of digits. -/
import Derived.Test.YtlmfmccbefgjgaaDoorKeyVars
import Derived.Laws.Strings3
namespace Go.Proofs.YtlmfmccbefgjgaaDoor
open Go.RowKit Go.ChangeShapes Go.WideShapes
set_option linter.unusedVariables false

def cutL (L : List UInt8) : List UInt8 × List UInt8 × Bool := Lib.cut L [32]
def strV (L : List UInt8) : Value := .string ⟨L.toArray⟩
theorem size_arr (L : List UInt8) : (⟨L.toArray⟩ : ByteArray).size = L.length := by simp [ByteArray.size]
theorem cut_lens (L : List UInt8) : (cutL L).1.length ≤ L.length ∧ (cutL L).2.1.length ≤ L.length := by
  unfold cutL Lib.cut
  split
  · simp only [List.length_take, List.length_drop]; omega
  · simp
theorem index_call (L : List UInt8) (W : World) :
    Calls Tryd.prog 47 #[.string ⟨L.toArray⟩, .string ⟨#[32]⟩] W fun e w' => e = .returned (.int .i64 (Lib.index L [32])) ∧ w' = W := by
  have h := Any.stringslite_Index_one (P := Tryd.prog) (ρ := Tryd.laysM145_ren) { Tryd.laysM145 with } ⟨L.toArray⟩ 32 W
  change Calls Tryd.prog 47 _ _ _ at h
  rw [Lib.index_one]
  exact h
theorem lite_any (L : List UInt8) (hl : L.length ≤ 1000) (W : World) :
    Calls Tryd.prog 38 #[.string ⟨L.toArray⟩, .string ⟨#[32]⟩] W fun e w' => e = .returned (.tuple #[strV (cutL L).1, strV (cutL L).2.1, .bool (cutL L).2.2]) ∧ Gr W w' := by
  have hix := fun W => index_call L W
  have hsz := size_arr L
  have hge := Lib.index_ge L [32]
  by_cases h0 : 0 ≤ Lib.index L [32]
  · have hroom := Lib.index_room L [32] h0
    obtain ⟨i, hi⟩ : ∃ i : Nat, Lib.index L [32] = i := ⟨(Lib.index L [32]).toNat, by omega⟩
    obtain ⟨e1, e2, e3⟩ := Lib.cutB_hit ⟨L.toArray⟩ ⟨#[32]⟩ i hi
    have E1 : strV (cutL L).1 = .string ((⟨L.toArray⟩ : ByteArray).extract 0 i) := congrArg Value.string e1
    have E2 : strV (cutL L).2.1 = .string ((⟨L.toArray⟩ : ByteArray).extract (i + 1) (⟨L.toArray⟩ : ByteArray).size) := congrArg Value.string e2
    have E3 : (cutL L).2.2 = true := e3
    rw [E1, E2, E3]
    clear E1 E2 E3 e1 e2 e3
    rw [hi] at hix
    simp only [List.length_cons, List.length_nil] at hroom
    generalize (⟨L.toArray⟩ : ByteArray) = s at *
    have c1 : (0 : Int) ≤ ↑i := by omega
    have c2 : (↑i : Int) ≤ ↑s.size := by omega
    have c3 : (0 : Int) ≤ ↑i + 1 := by omega
    have c4 : (↑i + 1 : Int) ≤ ↑s.size := by omega
    have c5 : (↑i : Int) ≤ 1000 := by omega
    clear hge h0 hroom hi hsz
    go_enter Tryd.func38, Tryd.ntmps38
    go_wp2_with fail
    refine (hix _).mono ?_
    rintro e w' ⟨rfl, rfl⟩
    go_wp2_with fail
    go_quiet (fail)
    go_wp2_with fail
    go_ret3
    exact ⟨rfl, (Gr.refl _).drewN _⟩
  · have hi : Lib.index L [32] = -1 := by omega
    obtain ⟨e1, e2, e3⟩ := Lib.cutB_miss ⟨L.toArray⟩ ⟨#[32]⟩ hi
    have E1 : strV (cutL L).1 = .string ⟨L.toArray⟩ := congrArg Value.string e1
    have E2 : strV (cutL L).2.1 = .string ⟨#[]⟩ := congrArg Value.string e2
    have E3 : (cutL L).2.2 = false := e3
    rw [E1, E2, E3]
    clear E1 E2 E3 e1 e2 e3
    rw [hi] at hix
    clear hge h0 hi
    go_enter Tryd.func38, Tryd.ntmps38
    go_wp2_with fail
    refine (hix _).mono ?_
    rintro e w' ⟨rfl, rfl⟩
    go_wp2_with fail
    go_ret3
    exact ⟨rfl, Gr.refl _⟩
theorem cut_any (L : List UInt8) (hl : L.length ≤ 1000) (W : World) :
    Calls Tryd.prog 19 #[.string ⟨L.toArray⟩, .string ⟨#[32]⟩] W fun e w' => e = .returned (.tuple #[.string ⟨(cutL L).1.toArray⟩, .string ⟨(cutL L).2.1.toArray⟩, .bool (cutL L).2.2]) ∧ Gr W w' := by
  have h := fun W => lite_any L hl W
  unfold strV at h
  go_enter Tryd.func19, Tryd.ntmps19
  go_wp2_with fail
  refine (h _).mono ?_
  rintro e w' ⟨rfl, hg⟩
  have HG := Lib.hid hg
  clear hg
  go_wp2_with fail
  go_ret3
  exact ⟨rfl, HG.out⟩

/-- The kind of a name. -/
def kindN (L : List UInt8) : Int := if wordL 1 = L then 1 else if wordL 2 = L then 2 else if wordL 3 = L then 3 else if wordL 4 = L then 4 else 0
theorem arr_eq (A B : List UInt8) : ((⟨A.toArray⟩ : ByteArray) == ⟨B.toArray⟩) = (A == B) := by
  show (A.toArray == B.toArray) = (A == B)
  simp
theorem kind_any (L : List UInt8) (W : World) :
    Calls Tryd.prog 20 #[.string ⟨L.toArray⟩] W fun e w' => e = .returned (.int .u8 (kindN L)) ∧ w' = W := by
  have hw := fun a W => word_any a W
  go_enter Tryd.func20, Tryd.ntmps20
  go_wp2_with fail
  go_loopw [3] (fun i wr => ∃ k : Nat, 1 ≤ k ∧ k ≤ 5 ∧ i = .int .u8 k ∧ wr = W ∧ Hid (∀ j : Nat, 1 ≤ j → j < k → ¬ wordL j = L)) (fun i _ => 5 - (intOf i).toNat)
  case atStart => exact ⟨1, Nat.le_refl _, by omega, rfl, rfl, Lib.hid fun j h1 h2 => by omega⟩
  case round =>
    obtain ⟨k, hk1, hk, rfl, rfl, hz⟩ := hrel
    by_cases hlt : k < 5
    · have hc := hw (k : Int)
      by_cases h0 : wordL k = L
      · have hK : kindN L = k := by
          have := hz.out
          rcases (by omega : k = 1 ∨ k = 2 ∨ k = 3 ∨ k = 4) with rfl | rfl | rfl | rfl
          · exact if_pos h0
          · exact (if_neg (this 1 (by omega) (by omega))).trans (if_pos h0)
          · exact (if_neg (this 1 (by omega) (by omega))).trans ((if_neg (this 2 (by omega) (by omega))).trans (if_pos h0))
          · exact (if_neg (this 1 (by omega) (by omega))).trans ((if_neg (this 2 (by omega) (by omega))).trans ((if_neg (this 3 (by omega) (by omega))).trans (if_pos h0)))
        have HK := Lib.hid hK
        rw [h0] at hc
        clear hK hz h0 hw
        generalize (⟨L.toArray⟩ : ByteArray) = s at *
        go_wp2_with fail
        refine (hc _).mono ?_
        rintro e w' ⟨rfl, rfl⟩
        go_wp2_with fail
        go_ret
        exact ⟨by rw [HK.out]; rfl, rfl⟩
      · have hne : ((⟨(wordL k).toArray⟩ : ByteArray) == ⟨L.toArray⟩) = false := by rw [arr_eq]; simpa using h0
        have hne' : ((⟨(wordL k).toArray⟩ : ByteArray).toList == (⟨L.toArray⟩ : ByteArray).toList) = false := by rw [← beq_toListBytes]; exact hne
        have HZ : Hid (∀ j : Nat, 1 ≤ j → j < k + 1 → ¬ wordL j = L) := Lib.hid fun j h1 h2 => by
          by_cases hjk : j = k
          · rw [hjk]; exact h0
          · exact hz.out j h1 (by omega)
        clear hz h0 hw
        generalize (⟨L.toArray⟩ : ByteArray) = s at *
        generalize (⟨(wordL (k : Int)).toArray⟩ : ByteArray) = t at *
        go_wp2_with fail
        refine (hc _).mono ?_
        rintro e w' ⟨rfl, rfl⟩
        go_wp2_with fail
        go_roundw
        case rel => exact ⟨k + 1, by omega, by omega, by go_num, trivial, HZ⟩
        case measure => simp [intOf]; omega
    · obtain rfl : k = 5 := by omega
      have hK : kindN L = 0 := by
        have := hz.out
        exact (if_neg (this 1 (by omega) (by omega))).trans ((if_neg (this 2 (by omega) (by omega))).trans ((if_neg (this 3 (by omega) (by omega))).trans (if_neg (this 4 (by omega) (by omega)))))
      have HK := Lib.hid hK
      clear hK
      go_wp2_with fail
      go_ret
      exact ⟨by rw [HK.out]; rfl, rfl⟩

theorem number_any (L : List UInt8) (hl : L.length ≤ 1000) (W : World) (hv : Vars W) :
    Calls Tryd.prog 21 #[.string ⟨L.toArray⟩] W fun e w' => e = .returned (.int .u8 (numN L : Nat)) ∧ Below W.heap.size W w' := by
  have hn := numN_lt L
  have hc := puint_any L hl W hv
  generalize numN L = n at *
  have hw : IntKind.u8.wrap (n : Int) = n := by simp [IntKind.wrap, IntKind.bits, IntKind.signed]; omega
  go_enter Tryd.func21, Tryd.ntmps21
  go_wp2_with fail
  refine hc.mono ?_
  rintro e w' ⟨⟨x, rfl⟩, hg⟩
  have HG := Lib.hid hg
  clear hg
  go_wp2_with fail
  go_ret
  exact ⟨by simp, HG.out⟩
end Go.Proofs.YtlmfmccbefgjgaaDoor
