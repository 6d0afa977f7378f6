/- What a program's steps do, all together, article by article. Nothing of the program. -/
import Derived.Test.YtanndpmlpoplnaaDoorPgFine
namespace Go.Proofs.YtanndpmlpoplnaaDoor
open Go.RowKit
set_option linter.unusedVariables false
set_option maxRecDepth 10000

/-- Of this article, and nothing owed. -/
def ofArt (a : Int) (o : O) : Bool := decide (o.1.2.1 = a) && !decide (o.1.1 = 4)
def selA (l : List O) (a : Int) : List Int := (l.filter (ofArt a)).map (·.2)
/-- The same, as additions to one key. -/
def oneK (ds : List Int) : List O := ds.map fun d => ((0, 0, 0), d)
theorem sel_append (l m : List O) (a : Int) : selA (l ++ m) a = selA l a ++ selA m a := by unfold selA; rw [List.filter_append, List.map_append]
theorem sel_take (l : List O) (a : Int) (j : Nat) (h : j < l.length) : oneK (selA (l.take (j + 1)) a) = oneK (selA (l.take j) a) ++ (if ofArt a (l.getD j o0) = true then [((0, 0, 0), (l.getD j o0).2)] else []) := by
  rw [List.take_add_one, List.getElem?_eq_getElem h, sel_append]
  have e : l.getD j o0 = l[j] := by simp [List.getD, List.getElem?_eq_getElem h]
  rw [e]
  unfold oneK
  rw [List.map_append]
  congr 1
  unfold selA
  by_cases hc : ofArt a l[j] = true <;> simp [hc]
theorem sel_in {l : List O} (h : ∀ o ∈ l, In64 o.2) (a : Int) : ∀ o ∈ oneK (selA l a), Ook o := by
  intro o ho
  obtain ⟨d, hd, rfl⟩ := List.mem_map.1 ho
  obtain ⟨x, hx, rfl⟩ := List.mem_map.1 hd
  exact ⟨show Kok ((0, 0, 0) : K) from ⟨by decide, by decide, by decide⟩, h x (List.mem_filter.1 hx).1⟩
theorem sel_len (l : List O) (a : Int) : (oneK (selA l a)).length ≤ l.length := by
  unfold oneK selA
  rw [List.length_map, List.length_map]
  exact List.length_filter_le _ _
theorem set_same : ∀ n : Nat, (List.replicate n ((0, 0, 0) : K)).foldl insK [(0, 0, 0)] = [(0, 0, 0)]
  | 0 => rfl
  | n + 1 => by
    rw [List.replicate_succ, List.foldl_cons]
    have : insK [((0, 0, 0) : K)] (0, 0, 0) = [(0, 0, 0)] := by decide
    rw [this]
    exact set_same n
theorem keys_one (ds : List Int) : keysO (oneK ds) = if ds = [] then [] else [(0, 0, 0)] := by
  have h : (oneK ds).map (·.1) = List.replicate ds.length (0, 0, 0) := by
    unfold oneK
    rw [List.map_map, List.eq_replicate_iff]
    refine ⟨by simp, fun k hk => ?_⟩
    obtain ⟨d, _, rfl⟩ := List.mem_map.1 hk
    rfl
  unfold keysO
  rw [h]
  cases ds with
  | nil => rfl
  | cons d ds =>
    rw [if_neg (by simp), List.length_cons, List.replicate_succ]
    unfold setL
    rw [List.foldl_cons]
    exact set_same _
theorem sum_one (ds : List Int) : sumO (oneK ds) (0, 0, 0) = total ds := by
  unfold sumO dsL oneK
  congr 1
  rw [List.filter_eq_self.2 (fun o ho => by obtain ⟨d, _, rfl⟩ := List.mem_map.1 ho; rfl), List.map_map]
  simp [Function.comp_def]
theorem netB_one (ds : List Int) : netB (oneK ds) = okB (total ds) := by
  unfold netB netOk
  rw [keys_one]
  by_cases h : ds = []
  · subst h; rfl
  · rw [if_neg h]
    simp [sum_one]
theorem netV_one (ds : List Int) (h : okB (total ds) = true) : netV (oneK ds) = if total ds = 0 then [] else [((0, 0, 0), total ds)] := by
  unfold netV
  rw [netB_one, if_pos h, keys_one]
  unfold netF
  by_cases h0 : ds = []
  · subst h0; rfl
  · rw [if_neg h0]
    by_cases hz : total ds = 0
    · rw [if_pos hz]
      simp [sum_one, hz]
    · rw [if_neg hz]
      simp [sum_one, hz]
/-- What is added of an article. -/
def artI (l : List O) (a : Int) : Int := total (selA l a)
theorem art_append (l m : List O) (a : Int) : artI (l ++ m) a = artI l a + artI m a := by unfold artI; rw [sel_append, total_append]
theorem art_nil (a : Int) : artI [] a = 0 := rfl
theorem art_item {t : Int} (w a : Int) (x : Ln) (ht : t = 1 ∨ t = 2 ∨ t = 3 ∨ t = 4 ∨ t = 7 ∨ t = 8) : artI (itemS t w x) a = 0 := by
  unfold itemS
  split
  · have h4 : ∀ p q : Int, artI [((p, x.1, w), -x.2), ((q, x.1, 0), x.2)] a = artI [((p, x.1, w), -x.2)] a + artI [((q, x.1, 0), x.2)] a := fun p q => art_append [((p, x.1, w), -x.2)] [((q, x.1, 0), x.2)] a
    rcases ht with rfl | rfl | rfl | rfl | rfl | rfl <;> simp [oneS, artI, selA, ofArt, List.filter_cons, total] <;> (by_cases h : x.1 = a <;> simp [h, total] <;> omega)
  · rfl
theorem art_ops {t : Int} (w a : Int) (ht : t = 1 ∨ t = 2 ∨ t = 3 ∨ t = 4 ∨ t = 7 ∨ t = 8) : ∀ L : List Ln, artI (opsS t w L) a = 0
  | [] => rfl
  | x :: L => by rw [opsS_cons, art_append, art_item w a x ht, art_ops w a ht L]; rfl
theorem art_put (w a s q : Int) (hq : 1 ≤ q) : artI (opsS 5 w [(s, q)]) a = if s = a then q else 0 := by
  rw [opsS_cons]
  unfold itemS
  rw [if_pos hq]
  by_cases h : s = a <;> simp [oneS, opsS, artI, selA, ofArt, total, h]
theorem art_draw (w a s q : Int) (hq : 1 ≤ q) : artI (opsS 6 w [(s, q)]) a = if s = a then -q else 0 := by
  rw [opsS_cons]
  unfold itemS
  rw [if_pos hq]
  by_cases h : s = a <;> simp [oneS, opsS, artI, selA, ofArt, total, h]
/-- What steps do. -/
def opsAll (S : List Stp) : List O := S.flatMap fun s => opsS s.1 s.2.1 s.2.2
theorem opsAll_take (S : List Stp) (j : Nat) (h : j < S.length) : opsAll (S.take (j + 1)) = opsAll (S.take j) ++ opsS (S.getD j (0, 0, [])).1 (S.getD j (0, 0, [])).2.1 (S.getD j (0, 0, [])).2.2 := by
  unfold opsAll
  rw [List.take_add_one, List.getElem?_eq_getElem h, List.flatMap_append]
  simp [List.getD, List.getElem?_eq_getElem h]
theorem opsAll_none {S : List Stp} (a : Int) (h : ∀ s ∈ S, s.1 = 1 ∨ s.1 = 2 ∨ s.1 = 3 ∨ s.1 = 4 ∨ s.1 = 7 ∨ s.1 = 8) : artI (opsAll S) a = 0 := by
  induction S with
  | nil => rfl
  | cons s S ih =>
    unfold opsAll
    rw [List.flatMap_cons, art_append, art_ops _ a (h s (List.mem_cons.2 (.inl rfl)))]
    have := ih fun x hx => h x (List.mem_cons.2 (.inr hx))
    unfold opsAll at this
    rw [this]
    rfl
theorem ops_count (t w : Int) : ∀ L : List Ln, (opsS t w L).length ≤ 2 * L.length
  | [] => by simp [opsS]
  | x :: L => by
    rw [opsS_cons, List.length_append, List.length_cons]
    have h1 : (itemS t w x).length ≤ 2 := by unfold itemS; split; exact one_len t w x; simp
    have := ops_count t w L
    omega
theorem opsAll_len : ∀ {S : List Stp}, (∀ s ∈ S, s.2.2.length ≤ 3) → (opsAll S).length ≤ 6 * S.length
  | [], _ => by simp [opsAll]
  | s :: S, h => by
    have h1 := ops_count s.1 s.2.1 s.2.2
    have h2 := h s (List.mem_cons.2 (.inl rfl))
    have h3 := opsAll_len (S := S) fun x hx => h x (List.mem_cons.2 (.inr hx))
    unfold opsAll at *
    rw [List.flatMap_cons, List.length_append, List.length_cons]
    omega
theorem opsAll_in {S : List Stp} (h : ∀ s ∈ S, FineS s) : ∀ o ∈ opsAll S, In64 o.2 := by
  intro o ho
  obtain ⟨s, hs, hos⟩ := List.mem_flatMap.1 ho
  obtain ⟨_, _, f3, f4, _⟩ := h s hs
  exact (opsS_ok s.1 s.2.1 s.2.2 f3 f4 o hos).1.2
/-- What is wanted of an article. -/
def wantI (P : Pg) (a : Int) : Int := if P.kind = 5 ∧ P.sku = a ∧ 0 < (opsAll (stepsP P)).length then P.qty else 0
theorem moves_all {P : Pg} (hok : Pgok P) (a : Int) : artI (opsAll (stepsP P)) a = wantI P a ∧ In64 (wantI P a) ∧ (wantI P a = 0 ∨ 1 ≤ P.qty) := by
  have hin : In64 (wantI P a) := by
    unfold wantI
    split
    · exact hok.qty
    · exact ⟨by decide, by decide⟩
  refine ⟨?_, hin, ?_⟩
  · cases hg : goodP 4 4 P with
    | false =>
      unfold wantI
      rw [steps_no hg, if_neg (by simp [opsAll])]
      rfl
    | true =>
      obtain ⟨k, od, po, L, T, M, sk, fr, to, q⟩ := P
      have house : (k = 1 ∨ k = 2 ∨ k = 3 ∨ k = 4) → artI (opsAll (stepsP ⟨k, od, po, L, T, M, sk, fr, to, q⟩)) a = wantI ⟨k, od, po, L, T, M, sk, fr, to, q⟩ a := fun hk => by
        unfold wantI
        rw [if_neg (by dsimp only; omega)]
        refine opsAll_none a fun s hs => ?_
        rw [steps_house hk hok.takes hg] at hs
        rcases List.mem_append.1 hs with hs | hs
        · obtain ⟨j, hj, rfl⟩ := mem_getD (0, 0, []) hs
          have := (houses_each k T hok.takes hj).1
          rw [this]
          omega
        · unfold owesS at hs
          split at hs
          · obtain rfl := List.mem_singleton.1 hs; dsimp only; omega
          · split at hs
            · obtain rfl := List.mem_singleton.1 hs; dsimp only; omega
            · cases hs
      by_cases k1 : k = 1
      · exact house (by omega)
      by_cases k2 : k = 2
      · exact house (by omega)
      by_cases k3 : k = 3
      · exact house (by omega)
      by_cases k4 : k = 4
      · exact house (by omega)
      have h2 : (sizedB 4 4 && askP 4 4 ⟨k, od, po, L, T, M, sk, fr, to, q⟩ && decide ((⟨k, od, po, L, T, M, sk, fr, to, q⟩ : Pg) = qofP ⟨k, od, po, L, T, M, sk, fr, to, q⟩)) = true := hg
      by_cases k5 : k = 5
      · subst k5
        have hq : 1 ≤ q := by
          rw [ask5] at h2
          simp only [Bool.and_eq_true, decide_eq_true_eq] at h2
          exact h2.1.2.1.2
        unfold wantI
        rw [steps_five od po L T M sk fr to q hg]
        have h1 := opsAll_none (S := if 1 ≤ T.length then [((1 : Int), to, [(sk, namedI T [] sk)]), (8, 0, [(sk, namedI T [] sk)])] else []) a (fun s hs => by
          split at hs
          · simp only [List.mem_cons, List.not_mem_nil, or_false] at hs
            rcases hs with rfl | rfl
            · exact .inl rfl
            · exact .inr (.inr (.inr (.inr (.inr rfl))))
          · cases hs)
        have e : ∀ R : List Stp, opsAll ([((5 : Int), to, [(sk, q)])] ++ R) = opsS 5 to [(sk, q)] ++ opsAll R := fun R => by unfold opsAll; rw [List.flatMap_append]; simp
        rw [e, art_append, h1, art_put to a sk q hq]
        have hpos : 0 < (opsS 5 to [(sk, q)]).length := by rw [opsS_cons]; unfold itemS; rw [if_pos hq]; simp [oneS]
        rw [List.length_append]
        by_cases hs : sk = a
        · rw [if_pos hs, if_pos ⟨rfl, hs, by omega⟩]; show q + 0 = q; omega
        · rw [if_neg hs, if_neg (fun h => hs h.2.1)]; rfl
      by_cases k6 : k = 6
      · subst k6
        have hq : 1 ≤ q := by
          rw [ask6] at h2
          simp only [Bool.and_eq_true, decide_eq_true_eq] at h2
          exact h2.1.2.2
        unfold wantI
        rw [if_neg (by dsimp only; omega), steps_six od po L T M sk fr to q hg]
        have e : opsAll [((6 : Int), fr, [(sk, q)]), (5, to, [(sk, q)])] = opsS 6 fr [(sk, q)] ++ opsS 5 to [(sk, q)] := by unfold opsAll; simp
        rw [e, art_append, art_draw fr a sk q hq, art_put to a sk q hq]
        by_cases hs : sk = a
        · rw [if_pos hs, if_pos hs]; omega
        · rw [if_neg hs, if_neg hs]; rfl
      have := goodP_kind (s := 4) (w := 4) (P := ⟨k, od, po, L, T, M, sk, fr, to, q⟩) ⟨k1, k2, k3, k4, k5, k6⟩
      rw [hg] at this
      cases this
  · by_cases hw : P.kind = 5 ∧ P.sku = a ∧ 0 < (opsAll (stepsP P)).length
    · right
      cases hg : goodP 4 4 P with
      | false => rw [steps_no hg] at hw; simp [opsAll] at hw
      | true =>
        obtain ⟨k, od, po, L, T, M, sk, fr, to, q⟩ := P
        obtain ⟨k5, _⟩ := hw
        dsimp only at k5
        subst k5
        have h2 : (sizedB 4 4 && askP 4 4 ⟨5, od, po, L, T, M, sk, fr, to, q⟩ && decide ((⟨5, od, po, L, T, M, sk, fr, to, q⟩ : Pg) = qofP ⟨5, od, po, L, T, M, sk, fr, to, q⟩)) = true := hg
        rw [ask5] at h2
        simp only [Bool.and_eq_true, decide_eq_true_eq] at h2
        exact h2.1.2.1.2
    · left
      unfold wantI
      rw [if_neg hw]
end Go.Proofs.YtanndpmlpoplnaaDoor
