/- Bytes that come behind all, of which a crash keeps the first ones. -/
import Derived.Test.YtnciihekbbmiaaaDiskBlock
namespace Go.Proofs.Ytnciihekbbmiaaa
set_option linter.unusedVariables false
set_option maxRecDepth 10000
set_option linter.unusedSimpArgs false

theorem bytesT_all (z : Nat) (t : TS) : bytesT z t 0 = t.B := by
  have : fromT z t 0 = 0 := by unfold fromT; omega
  unfold bytesT
  rw [this, List.drop_zero]
theorem app_in {d : DS} {b : List Int} (h : d.addE b = 0) : d.app b = d.add (.grow b) := if_pos h
theorem tail_zero (d : DS) (h : d.L = []) (A B : List Int) (tt : Nat) : bytesT d.z ((((d.add (.grow A)).add (.grow B)).crash 0 (tt : Nat)).sT) 0 = d.sT.B ++ A.take (min tt A.length) := by
  obtain ⟨M, a, z, s, V, t, L⟩ := d
  simp only at h
  subst h
  rw [bytesT_all]
  show t.B ++ A.take (kp (tt : Nat) A.length) = _
  have : kp (tt : Nat) A.length = min tt A.length := by unfold kp; omega
  rw [this]
  rfl
theorem tail_one (d : DS) (h : d.L = []) (A B : List Int) (tt : Nat) : bytesT d.z ((((d.add (.grow A)).add (.grow B)).crash 1 (tt : Nat)).sT) 0 = d.sT.B ++ A ++ B.take (min tt B.length) := by
  obtain ⟨M, a, z, s, V, t, L⟩ := d
  simp only at h
  subst h
  rw [bytesT_all]
  show t.B ++ A ++ B.take (kp (tt : Nat) B.length) = _
  have : kp (tt : Nat) B.length = min tt B.length := by unfold kp; omega
  rw [this]
  rfl
theorem tail_two (d : DS) (h : d.L = []) (A B : List Int) (tt : Nat) : bytesT d.z ((((d.add (.grow A)).add (.grow B)).crash 2 (tt : Nat)).sT) 0 = d.sT.B ++ A ++ B := by
  obtain ⟨M, a, z, s, V, t, L⟩ := d
  simp only at h
  subst h
  rw [bytesT_all]
  rfl
/-- The first n of all. -/
theorem cut_zero (W A B : List Int) (m : Nat) (hm : m ≤ A.length) : (W ++ A ++ B).take (W.length + m) = W ++ A.take m := by
  rw [List.append_assoc, List.take_length_add_append, List.take_append_of_le_length hm]
theorem cut_one (W A B : List Int) (m : Nat) : (W ++ A ++ B).take (W.length + (A.length + m)) = W ++ A ++ B.take m := by
  rw [List.append_assoc, List.append_assoc, List.take_length_add_append, List.take_length_add_append]
theorem cut_two (W A B : List Int) : (W ++ A ++ B).take (W.length + (A.length + B.length)) = W ++ A ++ B := by
  rw [List.take_of_length_le (by simp)]
end Go.Proofs.Ytnciihekbbmiaaa
