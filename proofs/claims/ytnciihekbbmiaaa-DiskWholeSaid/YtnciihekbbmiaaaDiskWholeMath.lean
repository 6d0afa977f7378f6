/- A block that is put, and torn, and put back. -/
import Derived.Test.YtnciihekbbmiaaaDiskBlock
namespace Go.Proofs.Ytnciihekbbmiaaa
set_option linter.unusedVariables false
set_option maxRecDepth 10000
set_option linter.unusedSimpArgs false

theorem put_in {s : Nat} {V : List (List Int)} {i : Int} {b : List Int} (h : tearE s V i b = 0) : ∃ k : Nat, i = k ∧ k < V.length ∧ b.length ≤ s := by
  unfold tearE at h
  split at h
  · omega
  · rename_i h1
    split at h
    · omega
    · have h2 : 0 ≤ i ∧ i < V.length := Classical.not_not.1 h1
      exact ⟨i.toNat, by omega, by omega, by omega⟩
theorem tearV_in {s : Nat} {V : List (List Int)} {k : Nat} {b : List Int} (t : Nat) (hk : k < V.length) (hb : b.length ≤ s) : tearV s V k b t = V.set k (tearL (V.getD k []) b t) := by
  unfold tearV
  rw [if_pos ⟨by omega, hb⟩, Int.toNat_natCast]
theorem whole_facts (M : Nat) (a : Int) (z : Nat) (V : List (List Int)) (t : TS) (hv : V.length = 4) (hall : ∀ y ∈ V, y.length = 32) (i : Int) (b : List Int) (hE : DS.putE ⟨M, a, z, 32, V, t, []⟩ i b = 0) (tear : Int) : ∃ k : Nat, i = k ∧ k < 4 ∧ b.length ≤ 32 ∧ (V.getD k []).length = 32 ∧
    (DS.add ⟨M, a, z, 32, V, t, []⟩ (.put i b)).sV.getD k [] = tearL (V.getD k []) b 32 ∧ ((DS.add ⟨M, a, z, 32, V, t, []⟩ (.put i b)).crash 0 tear).sV.getD k [] = tearL (V.getD k []) b (kp tear 32) ∧
    ((DS.add ⟨M, a, z, 32, V, t, []⟩ (.put i b)).crash 0 tear).putE k (V.getD k []) = 0 ∧ Twin (((DS.add ⟨M, a, z, 32, V, t, []⟩ (.put i b)).crash 0 tear).add (.put k (V.getD k []))) ⟨M, a, z, 32, V, t, []⟩ := by
  obtain ⟨k, rfl, hk, hb⟩ := put_in hE
  simp only at hk hb
  have ho := getD_len hall hk
  have hkp : kp tear 32 ≤ 32 := by have := kp_le tear 32 (by omega); omega
  have e2 : (DS.add ⟨M, a, z, 32, V, t, []⟩ (.put k b)).sV = V.set k (tearL (V.getD k []) b 32) := tearV_in 32 hk hb
  have e3 : (DS.add ⟨M, a, z, 32, V, t, []⟩ (.put k b)).crash 0 tear = ⟨M, a, z, 32, V.set k (tearL (V.getD k []) b (kp tear 32)), t, []⟩ := by
    have h1 : (DS.add ⟨M, a, z, 32, V, t, []⟩ (.put k b)).crash 0 tear = ⟨M, a, z, 32, tearV 32 V k b (kp tear 32), t, []⟩ := rfl
    rw [h1, tearV_in _ hk hb]
  have hx : (tearL (V.getD k []) b (kp tear 32)).length = 32 := by rw [tear_len _ _ _ (by omega)]; exact ho
  refine ⟨k, rfl, by omega, hb, ho, ?_, ?_, ?_, ?_⟩
  · rw [e2, getD_set hk, if_pos rfl]
  · rw [e3]
    show (V.set k (tearL (V.getD k []) b (kp tear 32))).getD k [] = _
    rw [getD_set hk, if_pos rfl]
  · rw [e3]
    show tearE 32 (V.set k (tearL (V.getD k []) b (kp tear 32))) k (V.getD k []) = 0
    unfold tearE
    rw [if_neg (fun h => h ⟨by omega, by rw [List.length_set]; omega⟩), if_neg (by omega)]
  · rw [e3]
    refine ⟨?_, rfl, rfl, rfl⟩
    show tearV 32 (V.set k (tearL (V.getD k []) b (kp tear 32))) k (V.getD k []) 32 = V
    rw [tearV_in 32 (by rw [List.length_set]; exact hk) (by omega)]
    exact tear_back 32 V k _ hx hk hall
end Go.Proofs.Ytnciihekbbmiaaa
