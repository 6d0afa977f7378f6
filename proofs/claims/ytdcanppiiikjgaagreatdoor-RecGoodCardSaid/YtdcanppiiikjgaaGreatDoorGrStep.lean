/- Steps as plain data: what one may be, what it does, and that what it does and undoes comes to nothing. Nothing of the program. -/
/- Lines in memory; steps that came in; a row that grows by whole lists. -/
/- What the tags are called: the words lie in their variable where the row's condition holds. -/
import Derived.Test.YtdcanppiiikjgaaGreatDoorGrOp
import Derived.Lib.SmallJoins
import Derived.OpenShut
import Derived.LaidMore
import Derived.LaidLaws
import Derived.Lib.LaidTab
import Derived.MakeChecks
namespace Go.Proofs.YtdcanppiiikjgaaGreatDoor
open Go.RowKit
set_option linter.unusedVariables false
set_option maxRecDepth 10000

/-- A line: an article, and how many. -/
abbrev Ln := Int × Int
abbrev l0 : Ln := (0, 0)
def Lnok (x : Ln) : Prop := (0 ≤ x.1 ∧ x.1 ≤ 255) ∧ In64 x.2
/-- What a step of a tag does at a warehouse by one line. -/
def oneS (t w : Int) (x : Ln) : List O :=
  if t = 1 then [((1, x.1, w), -x.2), ((2, x.1, w), x.2)] else
  if t = 2 then [((2, x.1, w), -x.2), ((1, x.1, w), x.2)] else
  if t = 3 then [((2, x.1, w), -x.2), ((3, x.1, 0), x.2)] else
  if t = 4 then [((3, x.1, 0), -x.2), ((1, x.1, w), x.2)] else
  if t = 5 then [((1, x.1, w), x.2)] else
  if t = 6 then [((1, x.1, w), -x.2)] else
  if t = 7 then [((4, x.1, 0), x.2)] else
  if t = 8 then [((4, x.1, 0), -x.2)] else []
theorem one_cases (t w : Int) (x : Ln) :
    (t = 1 ∧ oneS t w x = [((1, x.1, w), -x.2), ((2, x.1, w), x.2)]) ∨ (t = 2 ∧ oneS t w x = [((2, x.1, w), -x.2), ((1, x.1, w), x.2)]) ∨
    (t = 3 ∧ oneS t w x = [((2, x.1, w), -x.2), ((3, x.1, 0), x.2)]) ∨ (t = 4 ∧ oneS t w x = [((3, x.1, 0), -x.2), ((1, x.1, w), x.2)]) ∨
    (t = 5 ∧ oneS t w x = [((1, x.1, w), x.2)]) ∨ (t = 6 ∧ oneS t w x = [((1, x.1, w), -x.2)]) ∨
    (t = 7 ∧ oneS t w x = [((4, x.1, 0), x.2)]) ∨ (t = 8 ∧ oneS t w x = [((4, x.1, 0), -x.2)]) ∨
    ((t ≠ 1 ∧ t ≠ 2 ∧ t ≠ 3 ∧ t ≠ 4 ∧ t ≠ 5 ∧ t ≠ 6 ∧ t ≠ 7 ∧ t ≠ 8) ∧ oneS t w x = []) := by
  by_cases h1 : t = 1
  · subst h1; exact .inl ⟨rfl, rfl⟩
  by_cases h2 : t = 2
  · subst h2; exact .inr (.inl ⟨rfl, rfl⟩)
  by_cases h3 : t = 3
  · subst h3; exact .inr (.inr (.inl ⟨rfl, rfl⟩))
  by_cases h4 : t = 4
  · subst h4; exact .inr (.inr (.inr (.inl ⟨rfl, rfl⟩)))
  by_cases h5 : t = 5
  · subst h5; exact .inr (.inr (.inr (.inr (.inl ⟨rfl, rfl⟩))))
  by_cases h6 : t = 6
  · subst h6; exact .inr (.inr (.inr (.inr (.inr (.inl ⟨rfl, rfl⟩)))))
  by_cases h7 : t = 7
  · subst h7; exact .inr (.inr (.inr (.inr (.inr (.inr (.inl ⟨rfl, rfl⟩))))))
  by_cases h8 : t = 8
  · subst h8; exact .inr (.inr (.inr (.inr (.inr (.inr (.inr (.inl ⟨rfl, rfl⟩)))))))
  refine .inr (.inr (.inr (.inr (.inr (.inr (.inr (.inr ⟨⟨h1, h2, h3, h4, h5, h6, h7, h8⟩, ?_⟩)))))))
  simp only [oneS, if_neg h1, if_neg h2, if_neg h3, if_neg h4, if_neg h5, if_neg h6, if_neg h7, if_neg h8]
theorem one1 (w : Int) (x : Ln) : oneS 1 w x = [((1, x.1, w), -x.2), ((2, x.1, w), x.2)] := rfl
theorem one2 (w : Int) (x : Ln) : oneS 2 w x = [((2, x.1, w), -x.2), ((1, x.1, w), x.2)] := rfl
theorem one3 (w : Int) (x : Ln) : oneS 3 w x = [((2, x.1, w), -x.2), ((3, x.1, 0), x.2)] := rfl
theorem one4 (w : Int) (x : Ln) : oneS 4 w x = [((3, x.1, 0), -x.2), ((1, x.1, w), x.2)] := rfl
theorem one5 (w : Int) (x : Ln) : oneS 5 w x = [((1, x.1, w), x.2)] := rfl
theorem one6 (w : Int) (x : Ln) : oneS 6 w x = [((1, x.1, w), -x.2)] := rfl
theorem one7 (w : Int) (x : Ln) : oneS 7 w x = [((4, x.1, 0), x.2)] := rfl
theorem one8 (w : Int) (x : Ln) : oneS 8 w x = [((4, x.1, 0), -x.2)] := rfl
def itemS (t w : Int) (x : Ln) : List O := if 1 ≤ x.2 then oneS t w x else []
/-- What a step does. -/
def opsS (t w : Int) (L : List Ln) : List O := L.flatMap (itemS t w)
theorem opsS_cons (t w : Int) (x : Ln) (L : List Ln) : opsS t w (x :: L) = itemS t w x ++ opsS t w L := List.flatMap_cons ..
theorem opsS_take (t w : Int) (L : List Ln) (j : Nat) (h : j < L.length) : opsS t w (L.take (j + 1)) = opsS t w (L.take j) ++ itemS t w (L.getD j l0) := by
  unfold opsS
  rw [List.take_add_one, List.getElem?_eq_getElem h, List.flatMap_append]
  simp [List.getD, List.getElem?_eq_getElem h]
theorem opsS_nil (t w : Int) (L : List Ln) : opsS t w (L.take 0) = [] := by simp [opsS]
theorem one_len (t w : Int) (x : Ln) : (oneS t w x).length ≤ 2 := by
  rcases one_cases t w x with ⟨_, h⟩ | ⟨_, h⟩ | ⟨_, h⟩ | ⟨_, h⟩ | ⟨_, h⟩ | ⟨_, h⟩ | ⟨_, h⟩ | ⟨_, h⟩ | ⟨_, h⟩ <;> rw [h] <;> simp
theorem item_len (t w : Int) (x : Ln) : (itemS t w x).length ≤ 2 := by
  unfold itemS
  split
  · exact one_len t w x
  · simp
theorem opsS_len (t w : Int) : ∀ L : List Ln, (opsS t w L).length ≤ 2 * L.length
  | [] => by simp [opsS]
  | x :: L => by
    have := opsS_len t w L
    have := item_len t w x
    rw [opsS_cons, List.length_append, List.length_cons]
    omega
/-- An addition of a step's: its key is of bytes, and its number is neither nought nor the least. -/
def Ook2 (o : O) : Prop := Ook o ∧ In64 (-o.2) ∧ o.2 ≠ 0
theorem item_ok (t w : Int) (x : Ln) (hw : 0 ≤ w ∧ w ≤ 255) (hx : Lnok x) : ∀ o ∈ itemS t w x, Ook2 o := by
  obtain ⟨s, q⟩ := x
  obtain ⟨⟨h0, h1⟩, h2, h3⟩ := hx
  dsimp only at h0 h1 h2 h3
  unfold itemS
  split
  · next hq =>
    dsimp only at hq
    have hb : ∀ k d, Kok k → (d = q ∨ d = -q) → Ook2 (k, d) := fun k d hk hd => ⟨⟨hk, by dsimp only [In64]; omega⟩, by dsimp only [In64]; omega, by dsimp only; omega⟩
    have hk1 : ∀ a : Int, 0 ≤ a → a ≤ 255 → Kok (a, s, w) := fun a ha hb => ⟨⟨ha, hb⟩, ⟨h0, h1⟩, hw⟩
    have hk0 : ∀ a : Int, 0 ≤ a → a ≤ 255 → Kok (a, s, 0) := fun a ha hb => ⟨⟨ha, hb⟩, ⟨h0, h1⟩, by dsimp only; omega⟩
    rcases one_cases t w (s, q) with ⟨_, h⟩ | ⟨_, h⟩ | ⟨_, h⟩ | ⟨_, h⟩ | ⟨_, h⟩ | ⟨_, h⟩ | ⟨_, h⟩ | ⟨_, h⟩ | ⟨_, h⟩ <;> rw [h] <;> intro o ho <;> simp only [List.mem_cons, List.not_mem_nil, or_false] at ho
    all_goals (try rcases ho with rfl | rfl)
    all_goals (first | (subst ho) | skip)
    all_goals (refine hb _ _ ?_ (by first | exact .inl rfl | exact .inr rfl))
    all_goals (first | (apply hk1 <;> omega) | (apply hk0 <;> omega))
  · intro o ho; cases ho
theorem opsS_ok (t w : Int) (L : List Ln) (hw : 0 ≤ w ∧ w ≤ 255) (hL : ∀ x ∈ L, Lnok x) : ∀ o ∈ opsS t w L, Ook2 o := by
  intro o ho
  obtain ⟨x, hx, hox⟩ := List.mem_flatMap.1 ho
  exact item_ok t w x hw (hL x hx) o hox
theorem negB_ops (t w : Int) (L : List Ln) (hw : 0 ≤ w ∧ w ≤ 255) (hL : ∀ x ∈ L, Lnok x) : negB (opsS t w L) = true := by
  unfold negB
  rw [List.all_eq_true]
  exact fun o ho => (okB_iff _).2 (opsS_ok t w L hw hL o ho).2.1
/-- Where all comes to nothing. -/
theorem net_zero {L : List O} (hs : ∀ k, sumO L k = 0) : netV L = [] ∧ netB L = true := by
  have hb : netB L = true := by
    unfold netB netOk
    rw [List.all_eq_true]
    intro k _
    rw [hs]
    rfl
  refine ⟨?_, hb⟩
  unfold netV
  rw [if_pos hb]
  unfold netF
  rw [List.map_eq_nil_iff, List.filter_eq_nil_iff]
  intro k _
  simp [hs]
theorem sum_append (L M : List O) (k : K) : sumO (L ++ M) k = sumO L k + sumO M k := by
  unfold sumO
  rw [dsL_append, total_append]
theorem sum_nil (k : K) : sumO [] k = 0 := rfl
theorem sum_cons (o : O) (L : List O) (k : K) : sumO (o :: L) k = (if o.1 = k then o.2 else 0) + sumO L k := by
  have h : o :: L = [o] ++ L := rfl
  rw [h, sum_append]
  congr 1
  unfold sumO
  rw [dsL_one]
  by_cases h : o.1 = k <;> simp [h, total]
theorem item_sum {t w : Int} {x : Ln} {L : List O} (h : oneS t w x = L) (k : K) : sumO (itemS t w x) k = if 1 ≤ x.2 then sumO L k else 0 := by
  unfold itemS
  split
  · rw [h]
  · rfl
theorem ops_pair (t u w : Int) (h : ∀ x k, sumO (itemS t w x) k + sumO (itemS u w x) k = 0) : ∀ (L : List Ln) k, sumO (opsS t w L) k + sumO (opsS u w L) k = 0
  | [], k => rfl
  | x :: L, k => by
    have h1 := ops_pair t u w h L k
    have h2 := h x k
    rw [opsS_cons, opsS_cons, sum_append, sum_append]
    omega
theorem ops_three (t u v w : Int) (h : ∀ x k, sumO (itemS t w x) k + (sumO (itemS u w x) k + sumO (itemS v w x) k) = 0) : ∀ (L : List Ln) k, sumO (opsS t w L) k + (sumO (opsS u w L) k + sumO (opsS v w L) k) = 0
  | [], k => rfl
  | x :: L, k => by
    have h1 := ops_three t u v w h L k
    have h2 := h x k
    rw [opsS_cons, opsS_cons, opsS_cons, sum_append, sum_append, sum_append]
    omega
/-- What steps of several tags do, one behind the other. -/
def tagsS (T : List Int) (w : Int) (L : List Ln) : List O := T.flatMap fun t => opsS t w L
theorem tags_take (T : List Int) (w : Int) (L : List Ln) (j : Nat) (h : j < T.length) : tagsS (T.take (j + 1)) w L = tagsS (T.take j) w L ++ opsS (T.getD j 0) w L := by
  unfold tagsS
  rw [List.take_add_one, List.getElem?_eq_getElem h, List.flatMap_append]
  simp [List.getD, List.getElem?_eq_getElem h]
theorem tags_len (w : Int) (L : List Ln) : ∀ T : List Int, (tagsS T w L).length ≤ T.length * (2 * L.length)
  | [] => by simp [tagsS]
  | t :: T => by
    have := tags_len w L T
    have := opsS_len t w L
    unfold tagsS at *
    rw [List.flatMap_cons, List.length_append, List.length_cons, Nat.add_mul]
    omega
theorem tags_ok (T : List Int) (w : Int) (L : List Ln) (hw : 0 ≤ w ∧ w ≤ 255) (hL : ∀ x ∈ L, Lnok x) : ∀ o ∈ tagsS T w L, Ook o := by
  intro o ho
  obtain ⟨t, _, hot⟩ := List.mem_flatMap.1 ho
  exact (opsS_ok t w L hw hL o hot).1
theorem pair_net (t u w : Int) (L : List Ln) (h : ∀ x k, sumO (itemS t w x) k + sumO (itemS u w x) k = 0) : netV (tagsS [t, u] w L) = [] ∧ netB (tagsS [t, u] w L) = true := by
  refine net_zero fun k => ?_
  have : tagsS [t, u] w L = opsS t w L ++ opsS u w L := by simp [tagsS]
  rw [this, sum_append]
  exact ops_pair t u w h L k
theorem take_free (w : Int) (L : List Ln) : netV (tagsS [1, 2] w L) = [] ∧ netB (tagsS [1, 2] w L) = true := by
  refine pair_net 1 2 w L fun x k => ?_
  rw [item_sum (one1 w x), item_sum (one2 w x)]
  simp only [sum_cons, sum_nil]
  repeat' split
  all_goals omega
theorem put_draw (w : Int) (L : List Ln) : netV (tagsS [5, 6] w L) = [] ∧ netB (tagsS [5, 6] w L) = true := by
  refine pair_net 5 6 w L fun x k => ?_
  rw [item_sum (one5 w x), item_sum (one6 w x)]
  simp only [sum_cons, sum_nil]
  repeat' split
  all_goals omega
theorem owe_pay (w : Int) (L : List Ln) : netV (tagsS [7, 8] w L) = [] ∧ netB (tagsS [7, 8] w L) = true := by
  refine pair_net 7 8 w L fun x k => ?_
  rw [item_sum (one7 w x), item_sum (one8 w x)]
  simp only [sum_cons, sum_nil]
  repeat' split
  all_goals omega
theorem take_send_back (w : Int) (L : List Ln) : netV (tagsS [1, 3, 4] w L) = [] ∧ netB (tagsS [1, 3, 4] w L) = true := by
  refine net_zero fun k => ?_
  have : tagsS [1, 3, 4] w L = opsS 1 w L ++ (opsS 3 w L ++ opsS 4 w L) := by simp [tagsS]
  rw [this, sum_append, sum_append]
  refine ops_three 1 3 4 w (fun x k => ?_) L k
  rw [item_sum (one1 w x), item_sum (one3 w x), item_sum (one4 w x)]
  simp only [sum_cons, sum_nil]
  repeat' split
  all_goals omega
/-- Where each key stands once. -/
theorem ds_nodup : ∀ L : List O, (L.map (·.1)).Nodup → ∀ o ∈ L, dsL L o.1 = [o.2]
  | [], _, o, ho => by cases ho
  | x :: T, h, o, ho => by
    rw [List.map_cons] at h
    obtain ⟨h1, h2⟩ := List.nodup_cons.1 h
    have e : x :: T = [x] ++ T := rfl
    rw [e, dsL_append, dsL_one]
    rcases List.mem_cons.1 ho with rfl | ho
    · rw [if_pos rfl, dsL_nil h1]; rfl
    · have hne : x.1 ≠ o.1 := fun e => h1 (e ▸ List.mem_map.2 ⟨o, ho, rfl⟩)
      rw [if_neg hne, ds_nodup T h2 o ho]; rfl
theorem ins_new (k : K) : ∀ L : List K, k ∉ L → (insK L k).length = L.length + 1
  | [], _ => by simp [insK]
  | x :: L, h => by
    have ih := ins_new k L (fun hk => h (List.mem_cons.2 (.inr hk)))
    have hf : ((x :: L).filter fun y => decide (y ≠ k)) = x :: L := by
      rw [List.filter_eq_self]
      intro y hy
      simp only [decide_eq_true_eq]
      exact fun e => h (e ▸ hy)
    unfold insK
    split
    · rw [List.length_cons, ih, List.length_cons]
    · rw [hf]; simp
theorem set_nodup_to : ∀ (L acc : List K), L.Nodup → (∀ x ∈ L, x ∉ acc) → (L.foldl insK acc).length = acc.length + L.length
  | [], acc, _, _ => by simp
  | k :: L, acc, h, hd => by
    obtain ⟨h1, h2⟩ := List.nodup_cons.1 h
    have hk := ins_new k acc (hd k (List.mem_cons.2 (.inl rfl)))
    have := set_nodup_to L (insK acc k) h2 (fun x hx hi => by
      rcases (ins_mem k x acc).1 hi with rfl | hi
      · exact h1 hx
      · exact hd x (List.mem_cons.2 (.inr hx)) hi)
    rw [List.foldl_cons, this, hk, List.length_cons]
    omega
/-- Keys each once, with numbers that are not nought: they come to as many. -/
theorem net_count {L : List O} (hn : (L.map (·.1)).Nodup) (hok : ∀ o ∈ L, In64 o.2 ∧ o.2 ≠ 0) : netB L = true ∧ (netV L).length = L.length := by
  have hsum : ∀ o ∈ L, sumO L o.1 = o.2 := fun o ho => by unfold sumO; rw [ds_nodup L hn o ho]; simp [total]
  have hkey : ∀ k ∈ keysO L, ∃ o ∈ L, o.1 = k := fun k hk => by
    obtain ⟨o, ho, h⟩ := List.mem_map.1 ((set_mem _ _).1 hk)
    exact ⟨o, ho, h⟩
  have hb : netB L = true := by
    unfold netB netOk
    rw [List.all_eq_true]
    intro k hk
    obtain ⟨o, ho, rfl⟩ := hkey k hk
    rw [hsum o ho]
    exact (okB_iff _).2 (hok o ho).1
  refine ⟨hb, ?_⟩
  unfold netV
  rw [if_pos hb]
  unfold netF
  rw [List.length_map]
  have hf : ((keysO L).filter fun k => decide (sumO L k ≠ 0)) = keysO L := by
    rw [List.filter_eq_self]
    intro k hk
    obtain ⟨o, ho, rfl⟩ := hkey k hk
    rw [hsum o ho]
    simpa using (hok o ho).2
  rw [hf]
  have := set_nodup_to (L.map (·.1)) [] hn (fun _ _ h => by cases h)
  simpa [keysO, setL] using this
/-- A line that may be, behind those ahead of it. -/
def lineB (s : Int) (L : List Ln) (j : Nat) : Bool := decide ((L.getD j l0).1 < s) && decide (1 ≤ (L.getD j l0).2) && (decide (j = 0) || decide ((L.getD (j - 1) l0).1 < (L.getD j l0).1))
def linesB (s : Int) (L : List Ln) : Bool := (List.range L.length).all (lineB s L) && decide (L.length ≤ 3)
/-- Whether a step may be. -/
def goodS (s w t r : Int) (L : List Ln) : Bool := sizedB s w && decide (1 ≤ t ∧ t ≤ 8) && decide (1 ≤ L.length) && linesB s L && (if 7 ≤ t then decide (r = 0) else decide (r < w))
theorem lines_false (s : Int) (L : List Ln) (j : Nat) (h : j < L.length) (hf : lineB s L j = false) : linesB s L = false := by
  unfold linesB
  cases hc : (List.range L.length).all (lineB s L) with
  | false => rfl
  | true =>
    have := List.all_eq_true.1 hc j (List.mem_range.2 h)
    rw [hf] at this
    cases this
theorem lines_true (s : Int) (L : List Ln) (h : ∀ j, j < L.length → lineB s L j = true) : linesB s L = decide (L.length ≤ 3) := by
  unfold linesB
  have : (List.range L.length).all (lineB s L) = true := by
    rw [List.all_eq_true]
    exact fun j hj => h j (List.mem_range.1 hj)
  rw [this]; rfl
/-- The kind of key that a step names. -/
def kindS (t : Int) : Int := if t = 7 ∨ t = 8 then 4 else 1
theorem named_good (s w t r : Int) (x : Ln) (hr : 0 ≤ r) (ht : 1 ≤ t ∧ t ≤ 8) : goodB s w (kindS t) x.1 r = (sizedB s w && decide (x.1 < s) && (if 7 ≤ t then decide (r = 0) else decide (r < w))) := by
  unfold goodB kindS widthI
  by_cases h : t = 7 ∨ t = 8
  · have h7 : 7 ≤ t := by omega
    rw [if_pos h, if_pos h7]
    congr 1
    simp
    omega
  · have h7 : ¬ 7 ≤ t := by omega
    rw [if_neg h, if_neg h7]
    simp
theorem good_parts {s w t r : Int} {L : List Ln} (h : goodS s w t r L = true) : sizedB s w = true ∧ (1 ≤ t ∧ t ≤ 8) ∧ 1 ≤ L.length ∧ L.length ≤ 3 ∧ (∀ j, j < L.length → lineB s L j = true) ∧ (if 7 ≤ t then r = 0 else r < w) := by
  unfold goodS linesB at h
  simp only [Bool.and_eq_true, decide_eq_true_eq] at h
  obtain ⟨⟨⟨⟨h1, h2⟩, h3⟩, h4, h5⟩, h6⟩ := h
  refine ⟨h1, h2, h3, h5, fun j hj => List.all_eq_true.1 h4 j (List.mem_range.2 hj), ?_⟩
  split
  · next h7 => rw [if_pos h7] at h6; simpa using h6
  · next h7 => rw [if_neg h7] at h6; simpa using h6
/-- Of a step that may be: its articles rise, each line does one or two additions, of keys that there are. -/
theorem good_item {s w t r : Int} {L : List Ln} (h : goodS s w t r L = true) (hr : 0 ≤ r) (hL : ∀ x ∈ L, Lnok x) : ∀ o ∈ opsS t r L, goodB s w o.1.1 o.1.2.1 o.1.2.2 = true := by
  obtain ⟨hs, ht, h1, h3, hj, hw⟩ := good_parts h
  intro o ho
  obtain ⟨x, hx, hox⟩ := List.mem_flatMap.1 ho
  obtain ⟨j, hjl, rfl⟩ := List.getElem_of_mem hx
  have e : L.getD j l0 = L[j] := by simp [List.getD, List.getElem?_eq_getElem hjl]
  have hlb := hj j hjl
  unfold lineB at hlb
  rw [e] at hlb
  simp only [Bool.and_eq_true, decide_eq_true_eq] at hlb
  obtain ⟨⟨hb1, hb2⟩, _⟩ := hlb
  unfold itemS at hox
  rw [if_pos hb2] at hox
  have hsz : 1 ≤ s ∧ s ≤ 4 ∧ 1 ≤ w ∧ w ≤ 4 := by
    unfold sizedB at hs
    simp only [Bool.and_eq_true, decide_eq_true_eq] at hs
    omega
  have hin : ∀ a : Int, (a = 1 ∨ a = 2) → t ≤ 6 → goodB s w a L[j].1 r = true := fun a ha h6 => by
    rw [if_neg (by omega)] at hw
    unfold goodB widthI
    rw [hs, if_pos ha, decide_eq_true hb1, decide_eq_true hw]; rfl
  have hout : ∀ a : Int, (a = 3 ∨ a = 4) → goodB s w a L[j].1 0 = true := fun a ha => by
    unfold goodB widthI
    rw [hs, if_neg (by omega), if_pos ha, decide_eq_true hb1]; rfl
  generalize L[j] = y at *
  rcases one_cases t r y with ⟨h8, h⟩ | ⟨h8, h⟩ | ⟨h8, h⟩ | ⟨h8, h⟩ | ⟨h8, h⟩ | ⟨h8, h⟩ | ⟨h8, h⟩ | ⟨h8, h⟩ | ⟨h8, h⟩ <;> rw [h] at hox <;> simp only [List.mem_cons, List.not_mem_nil, or_false] at hox
  all_goals (try rcases hox with rfl | rfl)
  all_goals (first | (subst hox) | skip)
  all_goals dsimp only
  all_goals (first | (refine hin _ ?_ ?_ <;> omega) | (refine hout _ ?_; omega))
theorem good_rise {s w t r : Int} {L : List Ln} (h : goodS s w t r L = true) : (∀ x ∈ L, 1 ≤ x.2) ∧ (L.map (·.1)).Pairwise (· < ·) := by
  obtain ⟨hs, ht, h1, h3, hj, hw⟩ := good_parts h
  have hat : ∀ j (hjl : j < L.length), 1 ≤ L[j].2 := fun j hjl => by
    have e : L.getD j l0 = L[j] := by simp [List.getD, List.getElem?_eq_getElem hjl]
    have hlb := hj j hjl
    unfold lineB at hlb
    rw [e] at hlb
    simp only [Bool.and_eq_true, decide_eq_true_eq] at hlb
    obtain ⟨⟨_, h2⟩, _⟩ := hlb
    exact h2
  have hup : ∀ j (hjl : j + 1 < L.length), L[j].1 < L[j + 1].1 := fun j hjl => by
    have e : L.getD (j + 1) l0 = L[j + 1] := by simp [List.getD, List.getElem?_eq_getElem hjl]
    have e2 : L.getD j l0 = L[j] := by simp [List.getD, List.getElem?_eq_getElem (show j < L.length by omega)]
    have hlb := hj (j + 1) hjl
    unfold lineB at hlb
    rw [show j + 1 - 1 = j from rfl, e, e2] at hlb
    simp only [Bool.and_eq_true, Bool.or_eq_true, decide_eq_true_eq] at hlb
    omega
  refine ⟨fun x hx => ?_, ?_⟩
  · obtain ⟨j, hjl, rfl⟩ := List.getElem_of_mem hx
    exact hat j hjl
  · clear hat hj h
    match L, h1, h3, hup with
    | [a], _, _, _ => simp
    | [a, b], _, _, hup =>
      have := hup 0 (by simp)
      simpa using this
    | [a, b, c], _, _, hup =>
      have h01 := hup 0 (by simp)
      have h12 := hup 1 (by simp)
      simp at h01 h12
      simp
      omega
theorem one_keys (t r : Int) (x : Ln) : (((oneS t r x).map (·.1)).Nodup) ∧ (∀ o ∈ oneS t r x, o.1.2.1 = x.1) ∧ ((1 ≤ t ∧ t ≤ 8) → 1 ≤ (oneS t r x).length) := by
  rcases one_cases t r x with ⟨h8, h⟩ | ⟨h8, h⟩ | ⟨h8, h⟩ | ⟨h8, h⟩ | ⟨h8, h⟩ | ⟨h8, h⟩ | ⟨h8, h⟩ | ⟨h8, h⟩ | ⟨h8, h⟩ <;> rw [h] <;> refine ⟨by simp, ?_, ?_⟩
  all_goals (try (intro o ho; simp only [List.mem_cons, List.not_mem_nil, or_false] at ho))
  all_goals (try (rcases ho with rfl | rfl))
  all_goals (try rfl)
  all_goals (try (subst ho; rfl))
  all_goals (intro h9; first | (simp; done) | (exfalso; omega))
theorem ops_nodup (t r : Int) : ∀ L : List Ln, (L.map (·.1)).Pairwise (· < ·) → ((opsS t r L).map (·.1)).Nodup
  | [], _ => by simp [opsS]
  | x :: L, h => by
    rw [List.map_cons, List.pairwise_cons] at h
    have ih := ops_nodup t r L h.2
    rw [opsS_cons, List.map_append]
    refine List.nodup_append.2 ⟨?_, ih, ?_⟩
    · unfold itemS
      split
      · exact (one_keys t r x).1
      · simp
    · intro a ha b hb e
      subst e
      obtain ⟨o, ho, rfl⟩ := List.mem_map.1 ha
      obtain ⟨u, hu, he⟩ := List.mem_map.1 hb
      obtain ⟨y, hy, huy⟩ := List.mem_flatMap.1 hu
      have e1 : o.1.2.1 = x.1 := by
        unfold itemS at ho
        split at ho
        · exact (one_keys t r x).2.1 o ho
        · cases ho
      have e2 : u.1.2.1 = y.1 := by
        unfold itemS at huy
        split at huy
        · exact (one_keys t r y).2.1 u huy
        · cases huy
      have := h.1 y.1 (List.mem_map.2 ⟨y, hy, rfl⟩)
      rw [← e1, ← e2, he] at this
      omega
theorem ops_least (t r : Int) (ht : 1 ≤ t ∧ t ≤ 8) : ∀ L : List Ln, (∀ x ∈ L, 1 ≤ x.2) → L.length ≤ (opsS t r L).length
  | [], _ => by simp
  | x :: L, h => by
    have ih := ops_least t r ht L fun y hy => h y (List.mem_cons.2 (.inr hy))
    have h1 := (one_keys t r x).2.2 ht
    have h2 : itemS t r x = oneS t r x := if_pos (h x (List.mem_cons.2 (.inl rfl)))
    rw [opsS_cons, List.length_append, h2, List.length_cons]
    omega
/-- Of a step that may be: what it does is as many additions as it comes to, at least as many as its lines, at most six. -/
theorem good_counts {s w t r : Int} {L : List Ln} (h : goodS s w t r L = true) (hr : 0 ≤ r ∧ r ≤ 255) (hL : ∀ x ∈ L, Lnok x) : netB (opsS t r L) = true ∧ (netV (opsS t r L)).length = (opsS t r L).length ∧ L.length ≤ (opsS t r L).length ∧ (opsS t r L).length ≤ 6 := by
  obtain ⟨hs, ht, h1, h3, hj, hw⟩ := good_parts h
  obtain ⟨g1, g2⟩ := good_rise h
  have hn := net_count (ops_nodup t r L g2) (fun o ho => ⟨(opsS_ok t r L hr hL o ho).1.2, (opsS_ok t r L hr hL o ho).2.2⟩)
  have := opsS_len t r L
  exact ⟨hn.1, hn.2, ops_least t r ht L g1, by omega⟩
end Go.Proofs.YtdcanppiiikjgaaGreatDoor
namespace Go.Proofs.YtdcanppiiikjgaaGreatDoor
open Go.RowKit Go.ChangeShapes Go.WideShapes Go.Deep
set_option linter.unusedVariables false
set_option maxRecDepth 10000

/-- A line's cells. -/
def lc (x : Ln) : List Value := [.int .u8 x.1, .int .i64 x.2]
theorem lc_len (x : Ln) : (lc x).length = 2 := rfl
abbrev LL (w : World) (p : Option Addr) (n c : Nat) (L : List Ln) : Prop := SlG lc 2 l0 w p n c L
theorem line_cells {w : World} {p : Option Addr} {n c : Nat} {L : List Ln} (h : LL w p n c L) {j : Nat} (hj : j < n) : ∃ b off, p = some ⟨b, off, none⟩ ∧ b < w.heap.size ∧ w.cell? ⟨b, off + j * 2, none⟩ = some (.int .u8 (L.getD j l0).1) ∧ w.cell? ⟨b, off + j * 2 + 1, none⟩ = some (.int .i64 (L.getD j l0).2) := by
  obtain ⟨b, off, rfl, hb, hc⟩ := h.cell (by omega)
  exact ⟨b, off, rfl, hb, hc j hj 0 _ rfl, hc j hj 1 _ rfl⟩
theorem lnok_at {L : List Ln} (h : ∀ x ∈ L, Lnok x) {j : Nat} (hj : j < L.length) : Lnok (L.getD j l0) := by
  rw [List.getD, List.getElem?_eq_getElem hj]
  exact h _ (List.getElem_mem _)
theorem byteCells1 : Tryz.prog.cellsOf 5 = 1 := by kernel_rfl
theorem lineCells : Tryz.prog.cellsOf 110 = 2 := by kernel_rfl
theorem linesCells : Tryz.prog.cellsOf 25 = 1 := by kernel_rfl
theorem stepCells : Tryz.prog.cellsOf 147 = 3 := by kernel_rfl
section
variable {H : Type} {enc : TypeId × Value → H} {w : World} {base : Nat} {held : Bool}
theorem line_trod {spare : Nat → Bool} {fuel : Nat} {cs : List Value} {d : DataW H × List MemPlace} (h : DataW.trod enc Tryz.prog w base spare held fuel 110 cs = some d) : ∃ x : Ln, Lnok x ∧ cs = lc x := by
  obtain ⟨_, _, _, _, hlen, _, _⟩ := DataW.trod_struct Tryz.underlying110 h
  rw [lineCells] at hlen
  obtain ⟨y0, y1, n, _, _, t0, t1⟩ := trod_struct2 Tryz.underlying110 h
  obtain ⟨v0, v1, rfl⟩ : ∃ v0 v1, cs = [v0, v1] := by
    match cs, hlen with
    | [a, b], _ => exact ⟨a, b, rfl⟩
  simp only [byteCells1, intCells, List.drop_zero, List.drop_succ_cons, List.take_succ_cons, List.take_zero] at t0 t1
  obtain ⟨z0, hv0, _, wf0⟩ := DataW.trod_int Tryz.underlying5 t0
  obtain ⟨z1, hv1, _, wf1⟩ := DataW.trod_int Tryz.underlying2 t1
  simp at hv0 hv1
  subst hv0 hv1
  exact ⟨(z0, z1), ⟨bounds_u8 wf0, bounds_i64 wf1⟩, rfl⟩
/-- A slice of lines that came in. -/
theorem open_lines {fuel : Nat} {a : Option Addr} {len cap : Nat} {x : DataW H × List MemPlace}
    (h : DataW.trod enc Tryz.prog w base (fun _ => true) held fuel 25 [.slice a len cap] = some x) : ∃ L, LL w a len cap L ∧ ∀ y ∈ L, Lnok y := by
  rcases open_slice Tryz.underlying25 h with ⟨hcs, _⟩ | ⟨a', l, c, m, n, D, Pl, hcs, hb, hl, hm, hmm, hx, hi⟩
  · simp at hcs
    obtain ⟨rfl, rfl, rfl⟩ := hcs
    exact ⟨[], SlG.empty w, fun y hy => by cases hy⟩
  · simp at hcs
    obtain ⟨rfl, rfl, rfl⟩ := hcs
    rw [if_pos rfl] at hmm
    subst hmm
    have hall : ∀ i, i < len → ∃ y : Ln, Lnok y ∧ ∀ j u, (lc y)[j]? = some u → w.cell? (a'.add (i * 2 + j)) = some u := by
      intro i hil
      obtain ⟨cs', hc, ht⟩ := hi i (by omega)
      rw [lineCells] at hc
      obtain ⟨y, hy, rfl⟩ := line_trod ht
      obtain ⟨_, hcl, hat⟩ := World.cells?_some hc
      refine ⟨y, hy, fun j u hu => ?_⟩
      have hj : j < 2 := (List.getElem?_eq_some_iff.1 hu).1
      have := hat j hj
      rw [← Go.Deep.add_add, this]
      exact hu
    obtain ⟨f, hf⟩ : ∃ f : Nat → Ln, ∀ i, i < len → Lnok (f i) ∧ ∀ j u, (lc (f i))[j]? = some u → w.cell? (a'.add (i * 2 + j)) = some u :=
      ⟨fun i => if h : i < len then Classical.choose (hall i h) else l0, fun i h => by dsimp only; rw [dif_pos h]; exact Classical.choose_spec (hall i h)⟩
    refine ⟨(List.range len).map f, ⟨by simp, hl, hm, (fun h => by cases h), fun h0 => ?_⟩, fun y hy => ?_⟩
    · have h00 := (hf 0 h0).2 0 _ rfl
      have hsp : a'.spot = none := World.cell?_spot (a := a') (by simpa [Addr.add] using h00)
      obtain ⟨b, off, sp⟩ := a'
      replace hsp : sp = none := hsp
      subst hsp
      rw [Go.WideShapes.add_plain] at h00
      refine ⟨b, off, rfl, World.block_lt_of_cell? _ _ h00, fun j hj i v hv => ?_⟩
      have e : ((List.range len).map f).getD j l0 = f j := by
        rw [List.getD, List.getElem?_map, List.getElem?_range hj]; rfl
      rw [e] at hv
      have := (hf j hj).2 i v hv
      rwa [Go.WideShapes.add_plain, ← Nat.add_assoc] at this
    · obtain ⟨i, hi', rfl⟩ := List.mem_map.1 hy
      exact (hf i (List.mem_range.1 hi')).1
end
/-- What is known of a step's cells: among them its lines. -/
def StepIn (w : World) (a : Array Value) : Prop := ∃ (t r : Int) (p : Option Addr) (n c : Nat) (L : List Ln), a = #[.int .u8 t, .int .u8 r, .slice p n c] ∧ (0 ≤ t ∧ t ≤ 255) ∧ (0 ≤ r ∧ r ≤ 255) ∧ LL w p n c L ∧ ∀ x ∈ L, Lnok x
theorem open_step {H : Type} {enc : TypeId × Value → H} {w : World} {base b0 : Nat} {held : Bool} {r : Reach} {v : Value} {d : DataW H} {p : List MemPlace}
    (hv : Value.okWide Tryz.prog w r b0 147 v) (h : DataW.Trod enc Tryz.prog w base (fun _ => true) held 147 v d p) : ∃ c, v = .agg c ∧ StepIn w c := by
  obtain ⟨c, rfl, hsz⟩ := okWide_struct Tryz.underlying147 hv
  obtain ⟨fuel, hf⟩ := h
  obtain ⟨_, _, _, _, hlen, _, _⟩ := DataW.trod_struct Tryz.underlying147 hf
  rw [stepCells] at hlen
  obtain ⟨y0, y1, y2, n, _, _, t0, t1, t2⟩ := trod_struct3 Tryz.underlying147 hf
  obtain ⟨v0, v1, v2, hcs⟩ : ∃ v0 v1 v2, c.toList = [v0, v1, v2] := by
    match h : c.toList, hlen with
    | [a, b, c], _ => exact ⟨a, b, c, rfl⟩
  have hcells : (Value.agg c).cells.toList = c.toList := rfl
  rw [hcells, hcs] at t0 t1 t2
  simp only [byteCells1, linesCells, List.drop_zero, List.drop_succ_cons, List.take_succ_cons, List.take_zero] at t0 t1 t2
  obtain ⟨z0, hv0, _, wf0⟩ := DataW.trod_int Tryz.underlying5 t0
  obtain ⟨z1, hv1, _, wf1⟩ := DataW.trod_int Tryz.underlying5 t1
  simp at hv0 hv1
  subst hv0 hv1
  obtain ⟨a, len, cap, rfl⟩ : ∃ a len cap, v2 = .slice a len cap := by
    rcases open_slice Tryz.underlying25 t2 with ⟨hcs, _⟩ | ⟨a', l, c', m, n', D', Pl, hcs, _⟩
    · exact ⟨none, 0, 0, by simpa using hcs⟩
    · exact ⟨some a', l, c', by simpa using hcs⟩
  obtain ⟨L, hL, hok⟩ := open_lines t2
  exact ⟨c, rfl, z0, z1, a, len, cap, L, Array.ext' hcs, bounds_u8 wf0, bounds_u8 wf1, hL, hok⟩
/-- A row of the call's own, in an elder base. -/
theorem own_zero {w : World} {B : Nat} {T : TypeId} {k : Nat} {v : Value} {n : Nat} {xs : List Value} (h : w.ownsRow B T k v n xs) : w.ownsRow 0 T k v n xs := by
  refine ⟨h.1, ?_⟩
  rcases h.2 with hn | ⟨g, cap, cur, rfl, h1, h2, h3⟩
  · exact .inl hn
  · exact .inr ⟨g, cap, cur, rfl, Nat.zero_le _, h2, h3⟩
theorem GivesG.since {α : Type} {enc : α → List Value} {k : Nat} {d : α} {W W2 : World} {V : List α} {e : Ending} {w' : World} (h : GivesG enc k d W2 V e w') (hb : Below W.heap.size W W2) : GivesG enc k d W V e w' := by
  obtain ⟨p, c, rfl, hs, hb2, hp⟩ := h
  exact ⟨p, c, rfl, hs, hb.trans (hb2.mono hb.size), fun a ha => Nat.le_trans hb.size (hp a ha)⟩
end Go.Proofs.YtdcanppiiikjgaaGreatDoor
namespace Go.Proofs.YtdcanppiiikjgaaGreatDoor
open Go.RowKit Go.ChangeShapes Go.WideShapes
set_option linter.unusedVariables false
set_option maxRecDepth 10000

/-- The words, by the tag. -/
def wordsL : List (List UInt8) := [[], [116, 97, 107, 101], [102, 114, 101, 101], [115, 101, 110, 100], [98, 97, 99, 107], [112, 117, 116], [100, 114, 97, 119], [111, 119, 101], [112, 97, 121]]
def wordB (t : Nat) : ByteArray := ⟨(wordsL.getD t []).toArray⟩
/-- An array of texts that reads as the table holds its texts, cell for cell. -/
theorem cells_of_strs {H : Type} {enc : TypeId × Value → H} {P : Program} {w : World} {base : Nat} {sp : Nat → Bool} {held : Bool} {fuel : Nat} {t e : TypeId} {n : Nat} {cs : List Value} {zs : List (List UInt8)} {p : List MemPlace}
    (ht : P.underlying t = some (.array n e)) (he : P.underlying e = some .string) (hce : P.cellsOf e = 1) (hct : P.cellsOf t = n)
    (h : DataW.trod enc P w base sp held fuel t cs = some (.agg (zs.map fun z => .lit (.string z)), p)) : cs = zs.map fun z => Value.string ⟨z.toArray⟩ := by
  cases fuel with
  | zero => simp [DataW.trod] at h
  | succ fuel =>
    simp only [DataW.trod, ht, hce, hct, Nat.mul_one] at h
    split at h
    · rename_i hl
      obtain ⟨xs, hm, hx⟩ := Option.map_eq_some_iff.1 h
      have hxs : xs.map (·.1) = zs.map fun z => (DataW.lit (.string z) : DataW H) := by
        have := congrArg Prod.fst hx
        simpa using this
      have hxl : xs.length = n := by simpa using Lib.mapM_length hm
      have hzl : zs.length = n := by
        have := congrArg List.length hxs
        simp at this
        omega
      apply List.ext_getElem?
      intro i
      by_cases hi : i < n
      · obtain ⟨b, hb, hf⟩ := Lib.mapM_at hm i i (by simp [hi])
        obtain ⟨z, hc, rfl, _⟩ := DataW.trod_string he hf
        have h1 : cs[i]? = some (.string z) := by
          have := congrArg (·[0]?) hc
          simpa [List.getElem?_take, List.getElem?_drop] using this
        have h2 : (xs.map (·.1))[i]? = some (DataW.lit (.string z.data.toList) : DataW H) := by simp [hb]
        rw [hxs] at h2
        simp only [List.getElem?_map, Option.map_eq_some_iff, DataW.lit.injEq, Lit.string.injEq] at h2
        obtain ⟨z', hz', hzz⟩ := h2
        have hz2 : (⟨z'.toArray⟩ : ByteArray) = z := by rw [hzz]
        simp [h1, hz', hz2]
      · rw [List.getElem?_eq_none (by omega), List.getElem?_eq_none (by simp; omega)]
    · cases h
/-- The words lie in their variable. -/
def Words (W : World) : Prop := W.var? Tryz.prog "pledge/step.words" = some (wordsL.map fun z => Value.string ⟨z.toArray⟩).toArray
theorem gWords : Tryz.prog.globalNamed "pledge/step.words" = some 1 := by kernel_rfl
theorem tWords : (Tryz.prog.globals[1]?).map (·.type) = some 161 := by kernel_rfl
theorem Words.later {W W' : World} (h : Words W) (hb : Below W.heap.size W W') : Words W' := Go.Joins.var_stays gWords h hb (Nat.le_refl _)
theorem Words.cell {W : World} (h : Words W) (t : Nat) (ht : t < 9) : W.cell? ⟨1, t, none⟩ = some (.string (wordB t)) := by
  have := World.var?_cell gWords h t
  rw [this]
  rcases (by omega : t = 0 ∨ t = 1 ∨ t = 2 ∨ t = 3 ∨ t = 4 ∨ t = 5 ∨ t = 6 ∨ t = 7 ∨ t = 8) with rfl | rfl | rfl | rfl | rfl | rfl | rfl | rfl | rfl <;> rfl
theorem tagword_any (t : Int) (h0 : 0 ≤ t) (h255 : t ≤ 255) (W : World) (hw : Words W) :
    Calls Tryz.prog 115 #[.int .u8 t] W fun e w' => e = .returned (.string (wordB t.toNat)) ∧ w' = W := by
  by_cases h9 : t < 9
  · obtain ⟨k, rfl⟩ : ∃ k : Nat, t = (k : Int) := ⟨t.toNat, by omega⟩
    have hc := hw.cell k (by omega)
    have hd : decide (9 ≤ (k : Int)) = false := decide_eq_false (by omega)
    have hk : ((k : Nat) : Int).toNat = k := rfl
    rw [hk]
    generalize wordB k = s at *
    clear hw hk
    go_enter Tryz.func115, Tryz.ntmps115
    go_wp2_with fail
    go_ret
    exact ⟨rfl, rfl⟩
  · have hd : decide (9 ≤ t) = true := decide_eq_true (by omega)
    have hk : wordB t.toNat = ⟨#[]⟩ := by
      unfold wordB wordsL
      rw [List.getD, List.getElem?_eq_none (by simp; omega)]; rfl
    rw [hk]
    clear hw hk
    go_enter Tryz.func115, Tryz.ntmps115
    go_wp2_with fail
    go_ret
    exact ⟨rfl, rfl⟩
end Go.Proofs.YtdcanppiiikjgaaGreatDoor
