/- The steps of a program that may be: one to five, and each may be. Nothing of the program. -/
import Derived.Test.YtanndpmlpoplnaaDoorPgPall
import Derived.Test.YtanndpmlpoplnaaDoorPgEncode
namespace Go.Proofs.YtanndpmlpoplnaaDoor
open Go.RowKit
set_option linter.unusedVariables false
set_option maxRecDepth 10000

/-- A step of such a program. -/
def FineS (s : Stp) : Prop := goodS 4 4 s.1 s.2.1 s.2.2 = true ∧ (0 ≤ s.1 ∧ s.1 ≤ 255) ∧ (0 ≤ s.2.1 ∧ s.2.1 ≤ 255) ∧ (∀ y ∈ s.2.2, Lnok y) ∧ s.2.2.length ≤ 3
theorem one_fine {t r a q : Int} (ht : 1 ≤ t ∧ t ≤ 6) (ha : 0 ≤ a ∧ a < 4) (hr : 0 ≤ r ∧ r < 4) (hq : 1 ≤ q ∧ q ≤ 9223372036854775807) : FineS (t, r, [(a, q)]) := by
  refine ⟨(good_one 4 4 t r (a, q) (by decide) ht).2 ⟨ha.2, hq.1, hr.2⟩, ⟨by show 0 ≤ t; omega, by show t ≤ 255; omega⟩, ⟨hr.1, by show r ≤ 255; omega⟩, fun y hy => ?_, by simp⟩
  obtain rfl := List.mem_singleton.1 hy
  exact ⟨⟨ha.1, by show a ≤ 255; omega⟩, by show -9223372036854775808 ≤ q; omega, hq.2⟩
theorem owe_fine {t : Int} {M : List Ln} (ht : t = 7 ∨ t = 8) (h1 : 1 ≤ M.length) (hM : linesB 4 M = true) (hok : ∀ x ∈ M, Lnok x) : FineS (t, 0, M) := by
  refine ⟨?_, ⟨by show 0 ≤ t; omega, by show t ≤ 255; omega⟩, by show (0 : Int) ≤ 0 ∧ (0 : Int) ≤ 255; omega, hok, (lines_parts hM).1⟩
  show goodS 4 4 t 0 M = true
  unfold goodS
  rw [hM, decide_eq_true h1, decide_eq_true (show 1 ≤ t ∧ t ≤ 8 by omega), if_pos (show 7 ≤ t by omega)]
  rfl
theorem pay_fine {a q : Int} (ha : 0 ≤ a ∧ a < 4) (hq : 1 ≤ q ∧ q ≤ 9223372036854775807) : FineS (8, 0, [(a, q)]) := by
  refine owe_fine (.inr rfl) (by simp) ?_ fun y hy => ?_
  · simp [linesB, lineB, List.range_succ]
    omega
  · obtain rfl := List.mem_singleton.1 hy
    exact ⟨⟨ha.1, by show a ≤ 255; omega⟩, by show -9223372036854775808 ≤ q; omega, hq.2⟩
theorem house_fine {K o : Int} {T : List Tk} (hK : 1 ≤ K ∧ K ≤ 6) (hT : ∀ x ∈ T, Tkok x) (h : takesB 4 4 o T = true) : ∀ s ∈ housesP K T, FineS s := by
  intro s hs
  obtain ⟨j, hj, rfl⟩ := List.mem_iff_getElem.1 hs
  have e : (housesP K T)[j] = (housesP K T).getD j (0, 0, []) := by simp [List.getD, List.getElem?_eq_getElem hj]
  rw [e]
  have hh : HouseOk 4 4 (housesP K T) := by
    have := (house_takes 4 4 K T (by decide) hK T.length (Nat.le_refl _)).2
    rw [List.take_length] at this
    exact this ((takes_iff 4 4 o T).1 h).2.2
  have h1 := hh j hj
  unfold houseAt at h1
  rw [Bool.and_eq_true] at h1
  obtain ⟨f1, f2, f3, _⟩ := houses_each K T hT hj
  exact ⟨h1.2, by rw [f1]; omega, f2, f3, (good_parts h1.2).2.2.2.1⟩
theorem house_len {K o : Int} {T : List Tk} (hT : ∀ x ∈ T, Tkok x) (h : takesB 4 4 o T = true) : (housesP K T).length ≤ 4 ∧ (1 ≤ T.length → 1 ≤ (housesP K T).length) := by
  have hh := house_at K o T (fun x hx => (hT x hx).2.2.1.1) h T.length (Nat.le_refl _)
  rw [List.take_length] at hh
  constructor
  · rw [hh]
    have hl : ∀ v, (atS K v T).length ≤ 1 := fun v => by unfold atS; split <;> simp
    have hflat : ∀ f : Nat → List Stp, (List.range 4).flatMap f = f 0 ++ f 1 ++ f 2 ++ f 3 := fun f => by simp [List.range_succ]
    rw [hflat]
    simp only [List.length_append]
    have := hl ((0 : Nat) : Int)
    have := hl ((1 : Nat) : Int)
    have := hl ((2 : Nat) : Int)
    have := hl ((3 : Nat) : Int)
    omega
  · intro h1
    obtain ⟨S, L, q, R⟩ := run_all K T T.length h1 (Nat.le_refl _)
    have := R.eq
    rw [List.take_length] at this
    rw [this]
    simp
theorem total_pos : ∀ {l : List Int}, (∀ x ∈ l, 1 ≤ x) → (l.length : Int) ≤ total l
  | [], _ => by simp [total]
  | x :: l, h => by
    have h1 := h x (List.mem_cons.2 (.inl rfl))
    have h2 := total_pos (fun y hy => h y (List.mem_cons.2 (.inr hy)))
    simp only [total, List.length_cons]
    omega
/-- What is ordered is taken or owed. -/
theorem cover_some {L M : List Ln} {T : List Tk} (hL : linesB 4 L = true) (h1 : 1 ≤ L.length) (hok : ∀ x ∈ L, Lnok x) (hc : coverB T M L = true) : 1 ≤ T.length + M.length := by
  rcases Nat.lt_or_ge 0 (T.length + M.length) with h | h
  · exact h
  · obtain rfl : T = [] := List.eq_nil_of_length_eq_zero (by omega)
    obtain rfl : M = [] := List.eq_nil_of_length_eq_zero (by omega)
    have hl := (lines_parts hL).2 0 h1
    unfold lineB at hl
    simp only [Bool.and_eq_true, decide_eq_true_eq] at hl
    have hk := (lnok_mem hok h1).1.1
    have h2 : coverAt [] [] L (L.getD 0 l0).1.toNat = true := by
      unfold coverB at hc
      exact List.all_eq_true.1 hc _ (List.mem_range.2 (by omega))
    unfold coverAt at h2
    simp only [Bool.and_eq_true, decide_eq_true_eq] at h2
    have e : (((L.getD 0 l0).1.toNat : Nat) : Int) = (L.getD 0 l0).1 := Int.toNat_of_nonneg hk
    rw [e] at h2
    have h3 := h2.2
    have z0 : namedI [] [] (L.getD 0 l0).1 = 0 := rfl
    rw [z0] at h3
    unfold namedI at h3
    have z1 : tkparts [] (L.getD 0 l0).1 = [] := rfl
    rw [z1, List.nil_append] at h3
    have hm : (L.getD 0 l0).2 ∈ lnparts L (L.getD 0 l0).1 := by
      unfold lnparts
      refine List.mem_map.2 ⟨L.getD 0 l0, List.mem_filter.2 ⟨?_, by simp⟩, rfl⟩
      rw [List.getD, List.getElem?_eq_getElem h1]
      exact List.getElem_mem _
    have hp : ∀ x ∈ lnparts L (L.getD 0 l0).1, 1 ≤ x := fun x hx => by
      obtain ⟨y, hy, rfl⟩ := List.mem_map.1 hx
      obtain ⟨j, hj, rfl⟩ := mem_getD l0 (List.mem_filter.1 hy).1
      have := (lines_parts hL).2 j hj
      unfold lineB at this
      simp only [Bool.and_eq_true, decide_eq_true_eq] at this
      exact this.1.2
    have := total_pos hp
    have := List.length_pos_of_mem hm
    omega
theorem fills_pos {sk to q : Int} {T : List Tk} (h : fillsB sk to q T = true) (h1 : 1 ≤ T.length) : 1 ≤ namedI T [] sk := by
  rw [named_all T sk (fills_sku h)]
  have hp : ∀ x ∈ allT T, 1 ≤ x := fun x hx => by
    obtain ⟨y, hy, rfl⟩ := List.mem_map.1 hx
    obtain ⟨j, hj, rfl⟩ := mem_getD tk0 hy
    unfold fillsB at h
    rw [Bool.and_eq_true, List.all_eq_true] at h
    have := h.1 j (List.mem_range.2 hj)
    unfold fillAt at this
    simp only [Bool.and_eq_true, decide_eq_true_eq] at this
    exact this.1.2
  have := total_pos hp
  have e : (allT T).length = T.length := by unfold allT; simp
  omega
theorem steps_fine {P : Pg} (h : goodP 4 4 P = true) (hok : Pgok P) : (1 ≤ (stepsP P).length ∧ (stepsP P).length ≤ 5) ∧ ∀ s ∈ stepsP P, FineS s := by
  obtain ⟨k, od, po, L, T, M, sk, fr, to, q⟩ := P
  have h2 : (sizedB 4 4 && askP 4 4 ⟨k, od, po, L, T, M, sk, fr, to, q⟩ && decide ((⟨k, od, po, L, T, M, sk, fr, to, q⟩ : Pg) = qofP ⟨k, od, po, L, T, M, sk, fr, to, q⟩)) = true := h
  have hsk : 0 ≤ sk := hok.sku.1
  have hfr : 0 ≤ fr := hok.frm.1
  have hto : 0 ≤ to := hok.to.1
  have hqq : q ≤ 9223372036854775807 := hok.qty.2
  have house : ∀ K : Int, k = K → (K = 1 ∨ K = 2 ∨ K = 3 ∨ K = 4) → takesB 4 4 od T = true → (∀ s ∈ owesS K M, FineS s) → (1 ≤ T.length ∨ 1 ≤ (owesS K M).length) → (1 ≤ (stepsP ⟨k, od, po, L, T, M, sk, fr, to, q⟩).length ∧ (stepsP ⟨k, od, po, L, T, M, sk, fr, to, q⟩).length ≤ 5) ∧ ∀ s ∈ stepsP ⟨k, od, po, L, T, M, sk, fr, to, q⟩, FineS s := by
    intro K hk hK ht ho h1
    subst hk
    rw [steps_house hK hok.takes h]
    have hl := house_len (K := k) hok.takes ht
    have hol : (owesS k M).length ≤ 1 := by unfold owesS; split <;> (try split) <;> simp
    refine ⟨?_, fun s hs => ?_⟩
    · rw [List.length_append]
      rcases h1 with h1 | h1
      · have := hl.2 h1; omega
      · omega
    rcases List.mem_append.1 hs with hs | hs
    · exact house_fine (by omega) hok.takes ht s hs
    · exact ho s hs
  by_cases k1 : k = 1
  · subst k1
    rw [ask1] at h2
    simp only [Bool.and_eq_true, decide_eq_true_eq] at h2
    obtain ⟨⟨_, ⟨⟨⟨⟨⟨⟨⟨_, _⟩, a3⟩, a4⟩, a5⟩, a6⟩, a7⟩, _⟩⟩, _⟩ := h2
    have hs := cover_some a4 a3 hok.lines a7
    by_cases hm : 1 ≤ M.length
    · refine house 1 rfl (by omega) a5 (by rw [owes_1 hm]; exact fun s hs => by obtain rfl := List.mem_singleton.1 hs; exact owe_fine (.inl rfl) hm a6 hok.owes) (.inr (by rw [owes_1 hm]; simp))
    · obtain rfl : M = [] := List.eq_nil_of_length_eq_zero (by omega)
      exact house 1 rfl (by omega) a5 (by rw [owes_0]; exact fun s hs => by cases hs) (.inl (by simpa using hs))
  by_cases k2 : k = 2
  · subst k2
    rw [ask2] at h2
    simp only [Bool.and_eq_true, decide_eq_true_eq] at h2
    obtain ⟨⟨_, ⟨⟨⟨_, a2⟩, a3⟩, a4⟩⟩, _⟩ := h2
    by_cases hm : 1 ≤ M.length
    · refine house 2 rfl (by omega) a2 (by rw [owes_2 hm]; exact fun s hs => by obtain rfl := List.mem_singleton.1 hs; exact owe_fine (.inr rfl) hm a3 hok.owes) (.inr (by rw [owes_2 hm]; simp))
    · obtain rfl : M = [] := List.eq_nil_of_length_eq_zero (by omega)
      exact house 2 rfl (by omega) a2 (by rw [owes_0]; exact fun s hs => by cases hs) (.inl (by simpa using a4))
  by_cases k3 : k = 3
  · subst k3
    rw [ask3] at h2
    simp only [Bool.and_eq_true, decide_eq_true_eq] at h2
    obtain ⟨⟨_, ⟨⟨_, a2⟩, a3⟩⟩, _⟩ := h2
    exact house 3 rfl (by omega) a2 (by rw [owes_34 (.inl rfl)]; exact fun s hs => by cases hs) (.inl a3)
  by_cases k4 : k = 4
  · subst k4
    rw [ask4] at h2
    simp only [Bool.and_eq_true, decide_eq_true_eq] at h2
    obtain ⟨⟨_, ⟨⟨_, a2⟩, a3⟩⟩, _⟩ := h2
    exact house 4 rfl (by omega) a2 (by rw [owes_34 (.inr rfl)]; exact fun s hs => by cases hs) (.inl a3)
  by_cases k5 : k = 5
  · subst k5
    rw [steps_five od po L T M sk fr to q h]
    have hz := five_ok od po L T M sk fr to q h
    rw [ask5] at h2
    simp only [Bool.and_eq_true, decide_eq_true_eq] at h2
    obtain ⟨⟨_, ⟨⟨⟨a1, a2⟩, a3⟩, a4⟩⟩, _⟩ := h2
    have hz2 := (okB_iff _).1 hz
    by_cases ht : 1 ≤ T.length
    · rw [if_pos ht]
      have hp := fills_pos a4 ht
      refine ⟨by simp, fun s hs => ?_⟩
      simp only [List.cons_append, List.nil_append, List.mem_cons, List.not_mem_nil, or_false] at hs
      rcases hs with rfl | rfl | rfl
      · exact one_fine (by omega) ⟨hsk, a1⟩ ⟨hto, a2⟩ ⟨a3, hqq⟩
      · exact one_fine (by omega) ⟨hsk, a1⟩ ⟨hto, a2⟩ ⟨hp, hz2.2⟩
      · exact pay_fine ⟨hsk, a1⟩ ⟨hp, hz2.2⟩
    · rw [if_neg ht]
      refine ⟨by simp, fun s hs => ?_⟩
      simp only [List.append_nil, List.mem_cons, List.not_mem_nil, or_false] at hs
      subst hs
      exact one_fine (by omega) ⟨hsk, a1⟩ ⟨hto, a2⟩ ⟨a3, hqq⟩
  by_cases k6 : k = 6
  · subst k6
    rw [steps_six od po L T M sk fr to q h]
    rw [ask6] at h2
    simp only [Bool.and_eq_true, decide_eq_true_eq] at h2
    obtain ⟨⟨_, ⟨⟨⟨⟨a1, a2⟩, a3⟩, _⟩, a5⟩⟩, _⟩ := h2
    refine ⟨by simp, fun s hs => ?_⟩
    simp only [List.mem_cons, List.not_mem_nil, or_false] at hs
    rcases hs with rfl | rfl
    · exact one_fine (by omega) ⟨hsk, a1⟩ ⟨hfr, a2⟩ ⟨a5, hqq⟩
    · exact one_fine (by omega) ⟨hsk, a1⟩ ⟨hto, a3⟩ ⟨a5, hqq⟩
  have := goodP_kind (s := 4) (w := 4) (P := ⟨k, od, po, L, T, M, sk, fr, to, q⟩) ⟨k1, k2, k3, k4, k5, k6⟩
  rw [h] at this
  cases this
end Go.Proofs.YtanndpmlpoplnaaDoor
