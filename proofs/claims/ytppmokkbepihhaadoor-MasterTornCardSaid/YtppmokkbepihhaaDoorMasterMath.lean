/- Masters as numbers, and their bytes: written, read, torn. No program. -/
import Derived.Test.YtppmokkbepihhaaDoorFrameMath
import Derived.Test.YtppmokkbepihhaaDoorWireNum
namespace Go.Proofs.YtppmokkbepihhaaDoor
set_option linter.unusedVariables false
set_option maxRecDepth 10000

/-- A number with a sign, as eight bytes tell it. -/
def mword (q : Int) : Nat := (q % 18446744073709551616).toNat
theorem mword_lt (q : Int) : mword q < 18446744073709551616 := by unfold mword; omega
theorem sgn_mword {q : Int} (h : -9223372036854775808 ≤ q ∧ q ≤ 9223372036854775807) : sgn (mword q) = q := by
  unfold sgn mword
  split <;> omega
/-- A master: its numbers as words. -/
structure Mv where
  g : Nat
  a : Nat
  r : Nat
  t : Nat
  s : Nat
structure Mv.ok (m : Mv) : Prop where
  g : m.g < 18446744073709551616
  a : m.a < 256
  r : m.r < 18446744073709551616
  t : m.t < 18446744073709551616
  s : m.s < 18446744073709551616
def mz : Mv := ⟨0, 0, 0, 0, 0⟩
theorem mz_ok : mz.ok := ⟨by show 0 < _; omega, by show 0 < _; omega, by show 0 < _; omega, by show 0 < _; omega, by show 0 < _; omega⟩
def goodM (m : Mv) : Bool := decide (m.g ≠ 0 ∧ m.a ≤ 1 ∧ 0 ≤ sgn m.r ∧ 0 ≤ sgn m.s ∧ sgn m.r ≤ sgn m.t)
theorem goodM_iff (m : Mv) : goodM m = true ↔ m.g ≠ 0 ∧ m.a ≤ 1 ∧ 0 ≤ sgn m.r ∧ 0 ≤ sgn m.s ∧ sgn m.r ≤ sgn m.t := by simp [goodM]
/-- The bytes that are summed; all of them. -/
def headM (m : Mv) : List Nat := le m.g 8 ++ (le m.a 1 ++ (le m.r 8 ++ (le m.t 8 ++ le m.s 8)))
def bytesM (m : Mv) : List Nat := headM m ++ (le (sumL (headM m)) 4 ++ le m.g 8)
theorem headM_len (m : Mv) : (headM m).length = 33 := by simp [headM, le_len]
theorem bytesM_len (m : Mv) : (bytesM m).length = 45 := by simp [bytesM, headM_len, le_len]
theorem headM_lt (m : Mv) : ∀ x ∈ headM m, x < 256 := by
  intro x hx
  simp only [headM, List.mem_append] at hx
  rcases hx with h | h | h | h | h <;> exact le_lt _ _ _ h
theorem bytesM_lt (m : Mv) : ∀ x ∈ bytesM m, x < 256 := by
  intro x hx
  simp only [bytesM, List.mem_append] at hx
  rcases hx with h | h | h
  · exact headM_lt m x h
  · exact le_lt _ _ _ h
  · exact le_lt _ _ _ h
/-- What Encode hands back. -/
def encL (m : Mv) : List Nat := if goodM m = true then bytesM m else []
def encE (m : Mv) : Int := if goodM m = true then 0 else 1
/-- What bytes say. -/
def dM (L : List Nat) : Mv := ⟨un (L.take 8), un ((L.drop 8).take 1), un ((L.drop 9).take 8), un ((L.drop 17).take 8), un ((L.drop 25).take 8)⟩
def dS (L : List Nat) : Nat := un ((L.drop 33).take 4)
def dH (L : List Nat) : Nat := un ((L.drop 37).take 8)
def dE (L : List Nat) : Int := if L.length < 45 then 6 else if un (L.take 8) = dH L then (if sumL (L.take 33) = dS L then (if goodM (dM L) = true then 0 else 8) else 9) else 8
def dV (L : List Nat) : Mv := if dE L = 0 then dM L else mz
theorem dE_short {L : List Nat} (h : L.length < 45) : dE L = 6 := if_pos h
theorem dE_torn {L : List Nat} (h : ¬ L.length < 45) (h2 : ¬ un (L.take 8) = dH L) : dE L = 8 := by unfold dE; rw [if_neg h, if_neg h2]
theorem dE_sum {L : List Nat} (h : ¬ L.length < 45) (h2 : un (L.take 8) = dH L) (h3 : ¬ sumL (L.take 33) = dS L) : dE L = 9 := by unfold dE; rw [if_neg h, if_pos h2, if_neg h3]
theorem dE_form {L : List Nat} (h : ¬ L.length < 45) (h2 : un (L.take 8) = dH L) (h3 : sumL (L.take 33) = dS L) (h4 : goodM (dM L) = false) : dE L = 8 := by unfold dE; rw [if_neg h, if_pos h2, if_pos h3, if_neg (by rw [h4]; simp)]
theorem dE_ok {L : List Nat} (h : ¬ L.length < 45) (h2 : un (L.take 8) = dH L) (h3 : sumL (L.take 33) = dS L) (h4 : goodM (dM L) = true) : dE L = 0 := by unfold dE; rw [if_neg h, if_pos h2, if_pos h3, if_pos h4]
theorem dE_zero {L : List Nat} (h : dE L = 0) : 45 ≤ L.length ∧ un (L.take 8) = dH L ∧ sumL (L.take 33) = dS L ∧ goodM (dM L) = true := by
  unfold dE at h
  split at h
  · omega
  · split at h
    · split at h
      · split at h
        · exact ⟨by omega, by assumption, by assumption, by assumption⟩
        · omega
      · omega
    · omega
theorem dE_cases (L : List Nat) : dE L = 0 ∨ dE L = 6 ∨ dE L = 8 ∨ dE L = 9 := by
  unfold dE
  split
  · omega
  · split
    · split
      · split <;> omega
      · omega
    · omega
theorem dV_bad {L : List Nat} (h : dE L ≠ 0) : dV L = mz := if_neg h
theorem dV_ok {L : List Nat} (h : dE L = 0) : dV L = dM L := if_pos h
theorem un_take_lt {L : List Nat} (h : ∀ x ∈ L, x < 256) (k n : Nat) : un ((L.drop k).take n) < 256 ^ n := by
  have h1 := un_lt ((L.drop k).take n) fun y hy => h y (List.mem_of_mem_drop (List.mem_of_mem_take hy))
  have h2 : ((L.drop k).take n).length ≤ n := by rw [List.length_take]; omega
  exact Nat.lt_of_lt_of_le h1 (Nat.pow_le_pow_right (n := 256) (by omega) h2)
theorem dM_ok {L : List Nat} (h : ∀ x ∈ L, x < 256) : (dM L).ok :=
  ⟨by have := un_take_lt h 0 8; rw [List.drop_zero] at this; exact this, un_take_lt h 8 1, un_take_lt h 9 8, un_take_lt h 17 8, un_take_lt h 25 8⟩
theorem dV_isok {L : List Nat} (h : ∀ x ∈ L, x < 256) : (dV L).ok := by
  unfold dV
  split
  · exact dM_ok h
  · exact mz_ok
theorem dS_lt {L : List Nat} (h : ∀ x ∈ L, x < 256) : dS L < 4294967296 := un_take_lt h 33 4
theorem dH_lt {L : List Nat} (h : ∀ x ∈ L, x < 256) : dH L < 18446744073709551616 := un_take_lt h 37 8
/-- One number out of a row of numbers' bytes. -/
theorem cut_le (K : List Nat) (x n : Nat) (M : List Nat) (k : Nat) (hk : K.length = k) (hx : x < 256 ^ n) : un (((K ++ (le x n ++ M)).drop k).take n) = x := by
  subst hk
  rw [List.drop_left, List.take_append_of_le_length (by rw [le_len]; omega), List.take_of_length_le (by rw [le_len]; omega), un_le, Nat.mod_eq_of_lt hx]
theorem sumL_pow (P : List Nat) : sumL P < 256 ^ 4 := sumL_lt P
theorem dM_bytes {m : Mv} (hm : m.ok) (X : List Nat) : dM (bytesM m ++ X) = m := by
  obtain ⟨g, a, r, t, s⟩ := m
  obtain ⟨h1, h2, h3, h4, h5⟩ := hm
  have e1 : un ((bytesM ⟨g, a, r, t, s⟩ ++ X).take 8) = g := by
    have := cut_le [] g 8 (le a 1 ++ (le r 8 ++ (le t 8 ++ le s 8)) ++ (le (sumL (headM ⟨g, a, r, t, s⟩)) 4 ++ le g 8) ++ X) 0 rfl h1
    simpa [bytesM, headM] using this
  have e2 : un (((bytesM ⟨g, a, r, t, s⟩ ++ X).drop 8).take 1) = a := by
    have := cut_le (le g 8) a 1 (le r 8 ++ (le t 8 ++ le s 8) ++ (le (sumL (headM ⟨g, a, r, t, s⟩)) 4 ++ le g 8) ++ X) 8 (by simp [le_len]) h2
    simpa [bytesM, headM] using this
  have e3 : un (((bytesM ⟨g, a, r, t, s⟩ ++ X).drop 9).take 8) = r := by
    have := cut_le (le g 8 ++ le a 1) r 8 (le t 8 ++ le s 8 ++ (le (sumL (headM ⟨g, a, r, t, s⟩)) 4 ++ le g 8) ++ X) 9 (by simp [le_len]) h3
    simpa [bytesM, headM] using this
  have e4 : un (((bytesM ⟨g, a, r, t, s⟩ ++ X).drop 17).take 8) = t := by
    have := cut_le (le g 8 ++ le a 1 ++ le r 8) t 8 (le s 8 ++ (le (sumL (headM ⟨g, a, r, t, s⟩)) 4 ++ le g 8) ++ X) 17 (by simp [le_len]) h4
    simpa [bytesM, headM] using this
  have e5 : un (((bytesM ⟨g, a, r, t, s⟩ ++ X).drop 25).take 8) = s := by
    have := cut_le (le g 8 ++ le a 1 ++ le r 8 ++ le t 8) s 8 (le (sumL (headM ⟨g, a, r, t, s⟩)) 4 ++ le g 8 ++ X) 25 (by simp [le_len]) h5
    simpa [bytesM, headM] using this
  unfold dM
  rw [e1, e2, e3, e4, e5]
theorem dS_bytes (m : Mv) (X : List Nat) : dS (bytesM m ++ X) = sumL (headM m) := by
  have := cut_le (headM m) (sumL (headM m)) 4 (le m.g 8 ++ X) 33 (headM_len m) (sumL_pow _)
  unfold dS
  simpa [bytesM] using this
theorem dH_bytes {m : Mv} (hm : m.ok) (X : List Nat) : dH (bytesM m ++ X) = m.g := by
  have := cut_le (headM m ++ le (sumL (headM m)) 4) m.g 8 X 37 (by simp [headM_len, le_len]) hm.g
  unfold dH
  simpa [bytesM] using this
theorem head_bytes (m : Mv) (X : List Nat) : (bytesM m ++ X).take 33 = headM m := by
  unfold bytesM
  rw [List.append_assoc, List.take_append_of_le_length (by rw [headM_len]; omega), List.take_of_length_le (by rw [headM_len]; omega)]
theorem dE_bytes {m : Mv} (hm : m.ok) (hg : goodM m = true) (X : List Nat) : dE (bytesM m ++ X) = 0 := by
  refine dE_ok (by rw [List.length_append, bytesM_len]; omega) ?_ ?_ (by rw [dM_bytes hm]; exact hg)
  · rw [dH_bytes hm]
    have h : (dM (bytesM m ++ X)).g = m.g := by rw [dM_bytes hm X]
    rw [← h]
    rfl
  · rw [head_bytes, dS_bytes]
theorem dV_bytes {m : Mv} (hm : m.ok) (hg : goodM m = true) (X : List Nat) : dV (bytesM m ++ X) = m := by
  rw [dV_ok (dE_bytes hm hg X), dM_bytes hm]
/-- Both ends of a master's bytes are the same. -/
theorem ends_same (m : Mv) (i : Nat) (h : i < 8) : (bytesM m).getD i 0 = (bytesM m).getD (37 + i) 0 := by
  have e1 : (bytesM m).getD i 0 = (le m.g 8).getD i 0 := by
    unfold bytesM headM
    rw [List.append_assoc, List.getD, List.getElem?_append_left (by rw [le_len]; omega)]
    rfl
  have e2 : (bytesM m).getD (37 + i) 0 = (le m.g 8).getD i 0 := by
    unfold bytesM
    rw [← List.append_assoc, List.getD, List.getElem?_append_right (by simp [headM_len, le_len])]
    simp [headM_len, le_len, List.getD]
  rw [e1, e2]
theorem ends_gen {L : List Nat} (hl : ∀ x ∈ L, x < 256) (h45 : L.length = 45) (h : un (L.take 8) = dH L) (i : Nat) (hi : i < 8) : L.getD i 0 = L.getD (37 + i) 0 := by
  have e1 := le_un (L.take 8) fun y hy => hl y (List.mem_of_mem_take hy)
  have e2 := le_un ((L.drop 37).take 8) fun y hy => hl y (List.mem_of_mem_drop (List.mem_of_mem_take hy))
  have l1 : (L.take 8).length = 8 := by rw [List.length_take]; omega
  have l2 : ((L.drop 37).take 8).length = 8 := by rw [List.length_take, List.length_drop]; omega
  rw [l1] at e1
  rw [l2] at e2
  have e : L.take 8 = (L.drop 37).take 8 := by
    rw [← e1, ← e2, h]
    rfl
  have := congrArg (fun K => K.getD i 0) e
  simp only [List.getD, List.getElem?_take, if_pos hi, List.getElem?_drop] at this
  exact this
/-- One master's bytes written over another's, the first k of them. -/
def tornM (a b : Mv) (k : Nat) : List Nat := (bytesM b).take k ++ (bytesM a).drop k
theorem tornM_len (a b : Mv) (k : Nat) (hk : k ≤ 45) : (tornM a b k).length = 45 := by
  unfold tornM
  rw [List.length_append, List.length_take, List.length_drop, bytesM_len, bytesM_len]; omega
theorem tornM_lt (a b : Mv) (k : Nat) : ∀ x ∈ tornM a b k, x < 256 := by
  intro x hx
  rcases List.mem_append.1 hx with h | h
  · exact bytesM_lt b x (List.mem_of_mem_take h)
  · exact bytesM_lt a x (List.mem_of_mem_drop h)
theorem tornM_get (a b : Mv) (k : Nat) (hk : k ≤ 45) (i : Nat) (hi : i < 45) : (tornM a b k).getD i 0 = if i < k then (bytesM b).getD i 0 else (bytesM a).getD i 0 := by
  unfold tornM
  have hl : ((bytesM b).take k).length = k := by rw [List.length_take, bytesM_len]; omega
  split
  · rename_i h
    rw [List.getD, List.getElem?_append_left (by omega), List.getElem?_take, if_pos h]
    rfl
  · rename_i h
    rw [List.getD, List.getElem?_append_right (by omega), hl, List.getElem?_drop, show k + (i - k) = i by omega]
    rfl
theorem list_ext_getD {L M : List Nat} (hl : L.length = M.length) (h : ∀ i, i < L.length → L.getD i 0 = M.getD i 0) : L = M := by
  refine List.ext_getElem hl fun i h1 h2 => ?_
  have := h i h1
  simpa [List.getD, List.getElem?_eq_getElem h1, List.getElem?_eq_getElem h2] using this
theorem gen_of_bytes {a b : Mv} (ha : a.ok) (hb : b.ok) (h : ∀ i, i < 8 → (bytesM b).getD i 0 = (bytesM a).getD i 0) : b.g = a.g := by
  have ea : (dM (bytesM a ++ [])).g = a.g := by rw [dM_bytes ha []]
  have eb : (dM (bytesM b ++ [])).g = b.g := by rw [dM_bytes hb []]
  rw [List.append_nil] at ea eb
  have fa : un ((bytesM a).take 8) = a.g := ea
  have fb : un ((bytesM b).take 8) = b.g := eb
  have e : (bytesM b).take 8 = (bytesM a).take 8 := by
    refine list_ext_getD (by rw [List.length_take, List.length_take, bytesM_len, bytesM_len]) fun i hi => ?_
    rw [List.length_take, bytesM_len] at hi
    have := h i (by omega)
    simp only [List.getD, List.getElem?_take, if_pos (show i < 8 by omega)]
    exact this
  rw [← fa, ← fb, e]
/-- Torn anywhere, a master is one of the two, or its numbers at the ends differ. -/
theorem torn_either {a b : Mv} (ha : a.ok) (hb : b.ok) (hg : a.g ≠ b.g) (k : Nat) (hk : k ≤ 45) (h : un ((tornM a b k).take 8) = dH (tornM a b k)) : tornM a b k = bytesM a ∨ tornM a b k = bytesM b := by
  have he := ends_gen (tornM_lt a b k) (tornM_len a b k hk) h
  by_cases h8 : k ≤ 8
  · left
    refine list_ext_getD (by rw [tornM_len _ _ _ hk, bytesM_len]) fun i hi => ?_
    rw [tornM_len _ _ _ hk] at hi
    rw [tornM_get a b k hk i hi]
    split
    · rename_i hik
      have e := he i (by omega)
      rw [tornM_get a b k hk i hi, if_pos hik, tornM_get a b k hk (37 + i) (by omega), if_neg (by omega), ← ends_same a i (by omega)] at e
      exact e
    · rfl
  · by_cases h37 : 37 ≤ k
    · right
      refine list_ext_getD (by rw [tornM_len _ _ _ hk, bytesM_len]) fun i hi => ?_
      rw [tornM_len _ _ _ hk] at hi
      rw [tornM_get a b k hk i hi]
      split
      · rfl
      · rename_i hik
        obtain ⟨j, rfl⟩ : ∃ j, i = 37 + j := ⟨i - 37, by omega⟩
        have e := he j (by omega)
        rw [tornM_get a b k hk j (by omega), if_pos (by omega), tornM_get a b k hk (37 + j) hi, if_neg hik, ends_same b j (by omega)] at e
        exact e.symm
    · exfalso
      refine hg (gen_of_bytes ha hb fun i hi => ?_).symm
      have e := he i hi
      rw [tornM_get a b k hk i (by omega), if_pos (by omega), tornM_get a b k hk (37 + i) (by omega), if_neg (by omega), ← ends_same a i hi] at e
      exact e
theorem torn_reads {a b : Mv} (ha : a.ok) (hb : b.ok) (ga : goodM a = true) (gb : goodM b = true) (hg : a.g ≠ b.g) (k : Nat) (hk : k ≤ 45) (h : dE (tornM a b k) = 0) : dV (tornM a b k) = a ∨ dV (tornM a b k) = b := by
  rcases torn_either ha hb hg k hk (dE_zero h).2.1 with e | e
  · left
    rw [e]
    have := dV_bytes ha ga []
    rwa [List.append_nil] at this
  · right
    rw [e]
    have := dV_bytes hb gb []
    rwa [List.append_nil] at this
theorem torn_none {a : Mv} (b : Mv) (ha : a.ok) (ga : goodM a = true) : dE (tornM a b 0) = 0 ∧ dV (tornM a b 0) = a := by
  have e : tornM a b 0 = bytesM a ++ [] := by simp [tornM]
  rw [e]
  exact ⟨dE_bytes ha ga [], dV_bytes ha ga []⟩
theorem torn_all (a : Mv) {b : Mv} (hb : b.ok) (gb : goodM b = true) : dE (tornM a b 45) = 0 ∧ dV (tornM a b 45) = b := by
  have e : tornM a b 45 = bytesM b ++ [] := by
    unfold tornM
    rw [List.take_of_length_le (by rw [bytesM_len]; omega), List.drop_of_length_le (by rw [bytesM_len]; omega)]
  rw [e]
  exact ⟨dE_bytes hb gb [], dV_bytes hb gb []⟩
/-- Of two slots the last one. -/
def pickV (A B : List Nat) : Mv := if dE A = 0 ∧ (dE B ≠ 0 ∨ (dV B).g ≤ (dV A).g) then dV A else dV B
def pickK (A B : List Nat) : Int := if dE A = 0 ∧ (dE B ≠ 0 ∨ (dV B).g ≤ (dV A).g) then 0 else if dE B = 0 then 1 else 0
def pickE (A B : List Nat) : Int := if dE A = 0 ∨ dE B = 0 then 0 else 13
theorem dV_gen {L : List Nat} (h : dE L = 0) : 0 < (dV L).g := by
  have := ((goodM_iff _).1 (dE_zero h).2.2.2).1
  rw [dV_ok h]
  omega
/-- What reading one number of a reader's bytes gives. -/
theorem numR_cut (L : List Nat) (n : Nat) (h1 : 1 ≤ n) (h8 : n ≤ 8) (h : n ≤ L.length) : numR (0, L) n = ((0, L.drop n), un (L.take n)) := by
  unfold numR
  rw [if_pos (by omega), Int.toNat_natCast]
  unfold takeR
  rw [if_pos rfl, if_neg (by show ¬ L.length < n; omega)]
theorem read_nums (L : List Nat) (h : 45 ≤ L.length) : numR (0, L) 8 = ((0, L.drop 8), (dM L).g) ∧ numR (0, L.drop 8) 1 = ((0, L.drop 9), (dM L).a) ∧ numR (0, L.drop 9) 8 = ((0, L.drop 17), (dM L).r) ∧ numR (0, L.drop 17) 8 = ((0, L.drop 25), (dM L).t)
    ∧ numR (0, L.drop 25) 8 = ((0, L.drop 33), (dM L).s) ∧ numR (0, L.drop 33) 4 = ((0, L.drop 37), dS L) ∧ numR (0, L.drop 37) 8 = ((0, L.drop 45), dH L) := by
  have h1 := numR_cut L 8 (by omega) (by omega) (by omega)
  have h2 := numR_cut (L.drop 8) 1 (by omega) (by omega) (by rw [List.length_drop]; omega)
  have h3 := numR_cut (L.drop 9) 8 (by omega) (by omega) (by rw [List.length_drop]; omega)
  have h4 := numR_cut (L.drop 17) 8 (by omega) (by omega) (by rw [List.length_drop]; omega)
  have h5 := numR_cut (L.drop 25) 8 (by omega) (by omega) (by rw [List.length_drop]; omega)
  have h6 := numR_cut (L.drop 33) 4 (by omega) (by omega) (by rw [List.length_drop]; omega)
  have h7 := numR_cut (L.drop 37) 8 (by omega) (by omega) (by rw [List.length_drop]; omega)
  rw [List.drop_drop] at h2 h3 h4 h5 h6 h7
  exact ⟨h1, h2, h3, h4, h5, h6, h7⟩
end Go.Proofs.YtppmokkbepihhaaDoor
