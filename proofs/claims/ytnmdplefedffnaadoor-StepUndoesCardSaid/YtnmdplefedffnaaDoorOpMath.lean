/- Additions as plain data: what undoes them, what they come to. Nothing of the program. -/
import Derived.Test.YtnmdplefedffnaaDoorCalcSum
import Derived.Test.YtnmdplefedffnaaDoorKeyIns
namespace Go.Proofs.YtnmdplefedffnaaDoor
open Go.RowKit
set_option linter.unusedVariables false

/-- An addition: a key, and how much. -/
abbrev O := K × Int
abbrev o0 : O := ((0, 0, 0), 0)
def In64 (z : Int) : Prop := -9223372036854775808 ≤ z ∧ z ≤ 9223372036854775807
def Ook (o : O) : Prop := Kok o.1 ∧ In64 o.2
/-- What is added to a key. -/
def dsL (L : List O) (k : K) : List Int := (L.filter fun o => decide (o.1 = k)).map (·.2)
/-- The keys, rising, each once. -/
def keysO (L : List O) : List K := setL (L.map (·.1))
def sumO (L : List O) (k : K) : Int := total (dsL L k)
def netF (L : List O) (S : List K) : List O := (S.filter fun k => decide (sumO L k ≠ 0)).map fun k => (k, sumO L k)
def netOk (L : List O) (S : List K) : Bool := S.all fun k => okB (sumO L k)
def netB (L : List O) : Bool := netOk L (keysO L)
/-- What additions come to. -/
def netV (L : List O) : List O := if netB L = true then netF L (keysO L) else []
def negO (o : O) : O := (o.1, -o.2)
def negF (L : List O) : List O := (L.map negO).reverse
def negB (L : List O) : Bool := L.all fun o => okB (-o.2)
/-- What undoes them. -/
def negV (L : List O) : List O := if negB L = true then negF L else []
theorem okB_iff (z : Int) : okB z = true ↔ In64 z := by unfold okB In64; exact decide_eq_true_iff
theorem dsL_append (L M : List O) (k : K) : dsL (L ++ M) k = dsL L k ++ dsL M k := by simp [dsL]
theorem dsL_one (o : O) (k : K) : dsL [o] k = if o.1 = k then [o.2] else [] := by
  by_cases h : o.1 = k <;> simp [dsL, h]
theorem dsL_in {L : List O} (h : ∀ o ∈ L, Ook o) (k : K) : ∀ x ∈ dsL L k, In64 x := by
  intro x hx
  obtain ⟨o, ho, rfl⟩ := List.mem_map.1 hx
  exact (h o (List.mem_filter.1 ho).1).2
theorem dsL_len (L : List O) (k : K) : (dsL L k).length ≤ L.length := by
  unfold dsL
  rw [List.length_map]
  exact List.length_filter_le _ _
theorem dsL_nil {L : List O} {k : K} (h : k ∉ L.map (·.1)) : dsL L k = [] := by
  unfold dsL
  rw [List.map_eq_nil_iff, List.filter_eq_nil_iff]
  intro o ho he
  exact h (List.mem_map.2 ⟨o, ho, by simpa using he⟩)
theorem dsL_reverse (L : List O) (k : K) : dsL L.reverse k = (dsL L k).reverse := by simp [dsL, List.filter_reverse]
theorem total_rev (xs : List Int) : total xs.reverse = total xs := by
  induction xs with
  | nil => rfl
  | cons x r ih => rw [List.reverse_cons, total_append, ih]; simp [total]; omega
theorem total_neg (xs : List Int) : total (xs.map fun x => -x) = - total xs := by
  induction xs with
  | nil => rfl
  | cons x r ih => rw [List.map_cons]; simp only [total]; rw [ih]; omega
theorem sum_reverse (L : List O) (k : K) : sumO L.reverse k = sumO L k := by unfold sumO; rw [dsL_reverse, total_rev]
theorem keys_congr {L M : List O} (h : ∀ k, k ∈ L.map (·.1) ↔ k ∈ M.map (·.1)) : keysO L = keysO M :=
  up_one _ _ (set_up _) (set_up _) fun x => by unfold keysO; rw [set_mem, set_mem, h]
theorem keys_reverse (L : List O) : keysO L.reverse = keysO L := keys_congr fun k => by simp
theorem netF_congr {L M : List O} {S : List K} (h : ∀ k, sumO L k = sumO M k) : netF L S = netF M S := by unfold netF; simp only [h]
theorem netOk_congr {L M : List O} {S : List K} (h : ∀ k, sumO L k = sumO M k) : netOk L S = netOk M S := by unfold netOk; simp only [h]
theorem net_reverse (L : List O) : netV L.reverse = netV L ∧ netB L.reverse = netB L := by
  have h2 : netB L.reverse = netB L := by unfold netB; rw [keys_reverse, netOk_congr (sum_reverse L)]
  refine ⟨?_, h2⟩
  unfold netV
  rw [h2, keys_reverse, netF_congr (sum_reverse L)]
theorem dsL_neg (L : List O) (k : K) : dsL (negF L) k = ((dsL L k).map fun x => -x).reverse := by
  unfold negF
  rw [dsL_reverse]
  congr 1
  unfold dsL
  rw [List.filter_map, List.map_map, List.map_map]
  rfl
theorem net_undone (L : List O) : netV (L ++ negF L) = [] ∧ netB (L ++ negF L) = true := by
  have hs : ∀ k, sumO (L ++ negF L) k = 0 := fun k => by
    unfold sumO
    rw [dsL_append, dsL_neg, total_append, total_rev, total_neg]
    omega
  have hb : netB (L ++ negF L) = true := by
    unfold netB netOk
    rw [List.all_eq_true]
    intro k _
    rw [hs]
    rfl
  refine ⟨?_, hb⟩
  unfold netV
  rw [if_pos hb]
  unfold netF
  rw [List.map_eq_nil_iff, List.filter_eq_nil_iff]
  intro k _
  simp [hs]
theorem neg_neg_list (L : List O) : negF (negF L) = L := by
  unfold negF
  rw [List.map_reverse, List.reverse_reverse, List.map_map]
  have : (negO ∘ negO) = id := by funext o; simp [negO]
  rw [this, List.map_id]
theorem neg_again {L : List O} (h : ∀ o ∈ L, Ook o) : negB (negF L) = true := by
  unfold negB negF
  rw [List.all_eq_true]
  intro o ho
  obtain ⟨x, hx, rfl⟩ := List.mem_map.1 (List.mem_reverse.1 ho)
  rw [okB_iff]
  have := (h x hx).2
  simpa [negO] using this
theorem neg_ok {L : List O} (h : ∀ o ∈ L, Ook o) (hb : negB L = true) : ∀ o ∈ negF L, Ook o := by
  intro o ho
  obtain ⟨x, hx, rfl⟩ := List.mem_map.1 (List.mem_reverse.1 ho)
  exact ⟨(h x hx).1, (okB_iff _).1 (List.all_eq_true.1 hb x hx)⟩
theorem negV_ok {L : List O} (h : ∀ o ∈ L, Ook o) : ∀ o ∈ negV L, Ook o := by
  unfold negV
  split
  · next hb => exact neg_ok h hb
  · intro o ho; cases ho
theorem set_ok {L : List O} (h : ∀ o ∈ L, Ook o) : ∀ k ∈ keysO L, Kok k := by
  intro k hk
  obtain ⟨o, ho, rfl⟩ := List.mem_map.1 ((set_mem _ _).1 hk)
  exact (h o ho).1
theorem netV_ok {L : List O} (h : ∀ o ∈ L, Ook o) : ∀ o ∈ netV L, Ook o := by
  unfold netV
  split
  · next hb =>
    intro o ho
    obtain ⟨k, hk, rfl⟩ := List.mem_map.1 ho
    have hk2 := (List.mem_filter.1 hk).1
    exact ⟨set_ok h k hk2, (okB_iff _).1 (List.all_eq_true.1 hb k hk2)⟩
  · intro o ho; cases ho
theorem up_nodup {L : List K} (h : Up L) : L.Nodup := h.imp fun {a b} hab e => by rw [e, less_irrefl] at hab; cases hab
theorem ins_len (k : K) : ∀ L : List K, (insK L k).length ≤ L.length + 1
  | [] => by simp [insK]
  | x :: L => by
    have ih := ins_len k L
    have hf := List.length_filter_le (fun y => decide (y ≠ k)) (x :: L)
    unfold insK
    split
    · simp only [List.length_cons]; omega
    · simp only [List.length_cons] at *; omega
theorem set_len_to : ∀ (L acc : List K), (L.foldl insK acc).length ≤ acc.length + L.length
  | [], acc => by simp
  | k :: L, acc => by
    have := set_len_to L (insK acc k)
    have h2 := ins_len k acc
    rw [List.foldl_cons, List.length_cons]
    omega
theorem keys_len (L : List O) : (keysO L).length ≤ L.length := by
  have := set_len_to (L.map (·.1)) []
  simpa [keysO, setL] using this
theorem netF_len (L : List O) (S : List K) : (netF L S).length ≤ S.length := by
  unfold netF
  rw [List.length_map]
  exact List.length_filter_le _ _
theorem netV_len (L : List O) : (netV L).length ≤ L.length := by
  unfold netV
  split
  · exact Nat.le_trans (netF_len _ _) (keys_len L)
  · simp
theorem negV_len (L : List O) : (negV L).length ≤ L.length := by
  unfold negV negF
  split <;> simp
/-- Each key once, with a number. -/
theorem ds_once (f : K → Int) (k : K) : ∀ T : List K, T.Nodup → dsL (T.map fun x => (x, f x)) k = if k ∈ T then [f k] else []
  | [], _ => rfl
  | x :: T, h => by
    obtain ⟨h1, h2⟩ := List.nodup_cons.1 h
    have ih := ds_once f k T h2
    have e : dsL ((x :: T).map fun x => (x, f x)) k = dsL [(x, f x)] k ++ dsL (T.map fun x => (x, f x)) k := by rw [List.map_cons, ← List.singleton_append, dsL_append]
    rw [e, ih, dsL_one]
    by_cases hx : x = k
    · subst hx
      simp [h1]
    · have : k ≠ x := fun e => hx e.symm
      simp [hx, this]
theorem net_again (L : List O) : netV (netV L) = netV L ∧ netB (netV L) = true := by
  by_cases hb : netB L = true
  · have hv : netV L = netF L (keysO L) := by unfold netV; rw [if_pos hb]
    rw [hv]
    have hu : Up (keysO L) := set_up _
    obtain ⟨T, hT⟩ : ∃ T, T = (keysO L).filter fun k => decide (sumO L k ≠ 0) := ⟨_, rfl⟩
    have hM : netF L (keysO L) = T.map fun k => (k, sumO L k) := by rw [hT]; rfl
    have hup : Up T := by rw [hT]; exact List.Pairwise.filter _ hu
    have hne : ∀ k ∈ T, sumO L k ≠ 0 := fun k hk => by rw [hT] at hk; simpa using (List.mem_filter.1 hk).2
    have hin : ∀ k ∈ T, okB (sumO L k) = true := fun k hk => by rw [hT] at hk; exact List.all_eq_true.1 hb k (List.mem_filter.1 hk).1
    rw [hM]
    have hs : ∀ k ∈ T, sumO (T.map fun k => (k, sumO L k)) k = sumO L k := fun k hk => by
      have := ds_once (sumO L) k T (up_nodup hup)
      unfold sumO at this ⊢
      rw [this, if_pos hk]
      simp [total]
    have hk : keysO (T.map fun k => (k, sumO L k)) = T := by
      refine up_one _ _ (set_up _) hup fun x => ?_
      unfold keysO
      rw [set_mem, List.map_map]
      have : ((fun o : O => o.1) ∘ fun k => (k, sumO L k)) = id := by funext k; rfl
      rw [this, List.map_id]
    have hb2 : netB (T.map fun k => (k, sumO L k)) = true := by
      unfold netB netOk
      rw [hk, List.all_eq_true]
      intro k hkT
      rw [hs k hkT]
      exact hin k hkT
    refine ⟨?_, hb2⟩
    unfold netV
    rw [if_pos hb2, hk]
    unfold netF
    have hf : (T.filter fun k => decide (sumO (T.map fun k => (k, sumO L k)) k ≠ 0)) = T := by
      rw [List.filter_eq_self]
      intro k hkT
      rw [hs k hkT]
      simpa using hne k hkT
    rw [hf]
    exact List.map_congr_left fun k hkT => by rw [hs k hkT]
  · have hv : netV L = [] := by unfold netV; rw [if_neg hb]
    rw [hv]
    exact ⟨rfl, rfl⟩
/-- The loop over the keys, one further. -/
theorem netF_take (L : List O) (S : List K) (j : Nat) (h : j < S.length) : netF L (S.take (j + 1)) = if sumO L (S.getD j (0, 0, 0)) = 0 then netF L (S.take j) else netF L (S.take j) ++ [(S.getD j (0, 0, 0), sumO L (S.getD j (0, 0, 0)))] := by
  unfold netF
  rw [List.take_add_one, List.getElem?_eq_getElem h, List.filter_append, List.map_append]
  have e : S.getD j (0, 0, 0) = S[j] := by simp [List.getD, List.getElem?_eq_getElem h]
  rw [e]
  by_cases h0 : sumO L S[j] = 0 <;> simp [h0]
theorem netOk_take (L : List O) (S : List K) (j : Nat) (h : j < S.length) : netOk L (S.take (j + 1)) = (netOk L (S.take j) && okB (sumO L (S.getD j (0, 0, 0)))) := by
  unfold netOk
  rw [List.take_add_one, List.getElem?_eq_getElem h, List.all_append]
  have e : S.getD j (0, 0, 0) = S[j] := by simp [List.getD, List.getElem?_eq_getElem h]
  rw [e]
  simp
theorem netOk_false (L : List O) (S : List K) (j : Nat) (h : j < S.length) (hf : okB (sumO L (S.getD j (0, 0, 0))) = false) : netOk L S = false := by
  have e : S.getD j (0, 0, 0) = S[j] := by simp [List.getD, List.getElem?_eq_getElem h]
  rw [e] at hf
  cases hc : netOk L S with
  | false => rfl
  | true =>
    have := List.all_eq_true.1 hc S[j] (List.getElem_mem h)
    rw [hf] at this
    cases this
theorem take_ds (L : List O) (k : K) (j : Nat) (h : j < L.length) : dsL (L.take (j + 1)) k = if (L.getD j o0).1 = k then dsL (L.take j) k ++ [(L.getD j o0).2] else dsL (L.take j) k := by
  rw [List.take_add_one, List.getElem?_eq_getElem h, Option.toList_some, dsL_append, dsL_one]
  have e : L.getD j o0 = L[j] := by simp [List.getD, List.getElem?_eq_getElem h]
  rw [e]
  by_cases hk : L[j].1 = k <;> simp [hk]
/-- What undoes them, from the end on, once j are left. -/
def gathN (L : List O) (j : Nat) : List O := negF (L.drop j)
theorem gathN_start (L : List O) (n : Nat) (h : L.length = n) : gathN L n = [] := by subst h; simp [gathN, negF]
theorem gathN_end (L : List O) : gathN L 0 = negF L := by simp [gathN]
theorem gathN_step (L : List O) (t : Nat) (h : t < L.length) : gathN L t = gathN L (t + 1) ++ [((L.getD t o0).1, -(L.getD t o0).2)] := by
  unfold gathN negF
  rw [List.drop_eq_getElem_cons h, List.map_cons, List.reverse_cons, List.getD, List.getElem?_eq_getElem h]
  rfl
theorem gathN_len (L : List O) (j : Nat) : (gathN L j).length = L.length - j := by simp [gathN, negF]
theorem negB_false (L : List O) (j : Nat) (h : j < L.length) (hf : okB (-(L.getD j o0).2) = false) : negB L = false := by
  have e : L.getD j o0 = L[j] := by simp [List.getD, List.getElem?_eq_getElem h]
  rw [e] at hf
  cases hc : negB L with
  | false => rfl
  | true =>
    have := List.all_eq_true.1 hc L[j] (List.getElem_mem h)
    rw [hf] at this
    cases this
theorem negB_true (L : List O) (h : ∀ j, j < L.length → okB (-(L.getD j o0).2) = true) : negB L = true := by
  unfold negB
  rw [List.all_eq_true]
  intro o ho
  obtain ⟨j, hj, rfl⟩ := List.getElem_of_mem ho
  have := h j hj
  simpa [List.getD, List.getElem?_eq_getElem hj] using this
end Go.Proofs.YtnmdplefedffnaaDoor
