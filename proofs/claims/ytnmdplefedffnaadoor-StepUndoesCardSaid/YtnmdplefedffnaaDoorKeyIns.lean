/- Keys in order, each once: the document's way, one at its place after another. -/
import Derived.Test.YtnmdplefedffnaaDoorKeyRefs
namespace Go.Proofs.YtnmdplefedffnaaDoor
open Go.RowKit Go.ChangeShapes Go.WideShapes
set_option linter.unusedVariables false

def stW (k : K) (st : Bool × List K) (x : K) : Bool × List K :=
  let s1 := if (!st.1 && !lessB x k) = true then (true, st.2 ++ [k]) else st
  (s1.1, if x = k then s1.2 else s1.2 ++ [x])
def withL (L : List K) (k : K) : List K := if (L.foldl (stW k) (false, [])).1 = true then (L.foldl (stW k) (false, [])).2 else (L.foldl (stW k) (false, [])).2 ++ [k]
def insK : List K → K → List K
  | [], k => [k]
  | x :: L, k => if lessB x k = true then x :: insK L k else k :: (x :: L).filter fun y => decide (y ≠ k)
theorem fold_done (k : K) : ∀ (L out : List K), L.foldl (stW k) (true, out) = (true, out ++ L.filter fun y => decide (y ≠ k))
  | [], out => by simp
  | x :: L, out => by
    rw [List.foldl_cons]
    have h : stW k (true, out) x = (true, if x = k then out else out ++ [x]) := by simp [stW]
    rw [h, fold_done k L]
    by_cases hx : x = k
    · simp [hx]
    · simp [hx]
theorem fold_ins (k : K) : ∀ (L out : List K), (if (L.foldl (stW k) (false, out)).1 = true then (L.foldl (stW k) (false, out)).2 else (L.foldl (stW k) (false, out)).2 ++ [k]) = out ++ insK L k
  | [], out => by simp [insK]
  | x :: L, out => by
    rw [List.foldl_cons]
    cases hx : lessB x k with
    | true =>
      have hne : ¬ x = k := fun e => by rw [e, less_irrefl] at hx; cases hx
      have h : stW k (false, out) x = (false, out ++ [x]) := by simp [stW, hx, hne]
      rw [h, fold_ins k L (out ++ [x]), insK, if_pos hx, List.append_assoc]
      rfl
    | false =>
      have h : stW k (false, out) x = (true, if x = k then out ++ [k] else out ++ [k] ++ [x]) := by simp [stW, hx]
      have hn : ¬ lessB x k = true := by simp [hx]
      have hi : insK (x :: L) k = k :: (x :: L).filter fun y => decide (y ≠ k) := by rw [insK, if_neg hn]
      rw [h, fold_done, hi]
      by_cases hxk : x = k
      · simp [hxk]
      · simp [hxk]
theorem with_ins (L : List K) (k : K) : withL L k = insK L k := by
  have := fold_ins k L []
  simpa [withL] using this
theorem ins_mem (k x : K) : ∀ L : List K, x ∈ insK L k ↔ x = k ∨ x ∈ L
  | [] => by simp [insK]
  | y :: L => by
    have ih := ins_mem k x L
    unfold insK
    split
    · rw [List.mem_cons, ih, List.mem_cons]
      constructor
      · rintro (h | h | h)
        · exact .inr (.inl h)
        · exact .inl h
        · exact .inr (.inr h)
      · rintro (h | h | h)
        · exact .inr (.inl h)
        · exact .inl h
        · exact .inr (.inr h)
    · rw [List.mem_cons, List.mem_filter]
      simp only [decide_eq_true_eq]
      constructor
      · rintro (h | h)
        · exact .inl h
        · exact .inr h.1
      · rintro (h | h)
        · exact .inl h
        · by_cases hx : x = k
          · exact .inl hx
          · exact .inr ⟨h, hx⟩
def Up (L : List K) : Prop := L.Pairwise fun a b => lessB a b = true
theorem ins_up (k : K) : ∀ L : List K, Up L → Up (insK L k)
  | [], _ => by unfold Up; simp [insK]
  | y :: L, h => by
    obtain ⟨h1, h2⟩ := List.pairwise_cons.1 h
    have ih := ins_up k L h2
    unfold insK
    split
    · next hy =>
      refine List.pairwise_cons.2 ⟨fun x hx => ?_, ih⟩
      rcases (ins_mem k x L).1 hx with rfl | hx
      · exact hy
      · exact h1 x hx
    · next hy =>
      refine List.pairwise_cons.2 ⟨fun x hx => ?_, List.Pairwise.filter _ h⟩
      obtain ⟨hx, hne⟩ := List.mem_filter.1 hx
      simp only [decide_eq_true_eq] at hne
      have hyx : lessB x k = false := by
        rcases List.mem_cons.1 hx with rfl | hx
        · simpa using hy
        · cases hc : lessB x k with
          | false => rfl
          | true => exact absurd (less_trans y x k (h1 x hx) hc) hy
      cases hc : lessB k x with
      | true => rfl
      | false => exact absurd (less_total x k hyx hc) hne
def setL (L : List K) : List K := L.foldl insK []
theorem set_fold (x : K) : ∀ (L acc : List K), Up acc → Up (L.foldl insK acc) ∧ (x ∈ L.foldl insK acc ↔ x ∈ acc ∨ x ∈ L)
  | [], acc, h => ⟨h, by simp⟩
  | k :: L, acc, h => by
    have ih := set_fold x L (insK acc k) (ins_up k acc h)
    rw [List.foldl_cons]
    refine ⟨ih.1, ih.2.trans ?_⟩
    rw [ins_mem, List.mem_cons]
    constructor
    · rintro ((h | h) | h)
      · exact .inr (.inl h)
      · exact .inl h
      · exact .inr (.inr h)
    · rintro (h | h | h)
      · exact .inl (.inr h)
      · exact .inl (.inl h)
      · exact .inr h
theorem set_up (L : List K) : Up (setL L) := (set_fold (0, 0, 0) L [] List.Pairwise.nil).1
theorem set_mem (L : List K) (x : K) : x ∈ setL L ↔ x ∈ L := by
  have := (set_fold x L [] List.Pairwise.nil).2
  simpa [setL] using this
theorem up_one : ∀ (L M : List K), Up L → Up M → (∀ x, x ∈ L ↔ x ∈ M) → L = M
  | [], [], _, _, _ => rfl
  | [], y :: M, _, _, h => by have := (h y).2 (List.mem_cons_self ..); cases this
  | x :: L, [], _, _, h => by have := (h x).1 (List.mem_cons_self ..); cases this
  | x :: L, y :: M, hL, hM, h => by
    obtain ⟨l1, l2⟩ := List.pairwise_cons.1 hL
    obtain ⟨m1, m2⟩ := List.pairwise_cons.1 hM
    have hxy : x = y := by
      rcases List.mem_cons.1 ((h x).1 (List.mem_cons_self ..)) with e | hx
      · exact e
      · rcases List.mem_cons.1 ((h y).2 (List.mem_cons_self ..)) with e | hy
        · exact e.symm
        · have := less_asymm y x (m1 x hx)
          rw [l1 y hy] at this
          cases this
    subst hxy
    congr 1
    refine up_one L M l2 m2 fun z => ⟨fun hz => ?_, fun hz => ?_⟩
    · rcases List.mem_cons.1 ((h z).1 (List.mem_cons_of_mem _ hz)) with rfl | h'
      · have := l1 z hz; rw [less_irrefl] at this; cases this
      · exact h'
    · rcases List.mem_cons.1 ((h z).2 (List.mem_cons_of_mem _ hz)) with rfl | h'
      · have := m1 z hz; rw [less_irrefl] at this; cases this
      · exact h'
end Go.Proofs.YtnmdplefedffnaaDoor
