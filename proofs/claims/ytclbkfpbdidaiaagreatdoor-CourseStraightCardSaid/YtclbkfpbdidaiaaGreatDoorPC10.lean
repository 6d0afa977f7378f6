import Derived.Test.YtclbkfpbdidaiaaGreatDoorPC09
import Derived.Deep.LoopGhost
namespace Go.Proofs.YtclbkfpbdidaiaaGreatDoor
open Go.RowKit Go.ChangeShapes Go.WideShapes
set_option linter.unusedVariables false
set_option maxRecDepth 10000
def Lists (W:World) (L:List K) (e:Ending) (w':World):Prop:=∃ p c,e=.returned (.slice p L.length c)∧KL w' p L.length c L∧Below W.heap.size W w'
def insK:List K→K→List K
 | [],k=>[k]
 | x::L,k=>if z7g x k=true then x::insK L k else k::(x::L).filter fun y=>decide (y≠k)
theorem q0d (k x:K):∀ L:List K,x∈insK L k ↔ x=k∨x∈L
 | []=>by simp [insK]
 | y::L=>by
  have ih:=q0d k x L
  unfold insK
  split
  · rw [List.mem_cons,ih,List.mem_cons]
    constructor
    · rintro (h | h | h)
      · exact .inr (.inl h)
      · exact .inl h
      · exact .inr (.inr h)
    · rintro (h | h | h)
      · exact .inr (.inl h)
      · exact .inl h
      · exact .inr (.inr h)
  · rw [List.mem_cons,List.mem_filter]
    simp only [decide_eq_true_eq]
    constructor
    · rintro (h | h)
      · exact .inl h
      · exact .inr h.1
    · rintro (h | h)
      · exact .inl h
      · by_cases hx:x=k
        · exact .inl hx
        · exact .inr ⟨h,hx⟩
def Up (L:List K):Prop:=L.Pairwise fun a b=>z7g a b=true
theorem ins_up (k:K):∀ L:List K,Up L→Up (insK L k)
 | [],_=>by unfold Up;simp [insK]
 | y::L,h=>by
  obtain⟨h1,h2⟩:=List.pairwise_cons.1 h
  have ih:=ins_up k L h2
  unfold insK
  split
  · next hy =>
    refine List.pairwise_cons.2 ⟨fun x hx=>?_,ih⟩
    rcases (q0d k x L).1 hx with rfl | hx
    · exact hy
    · exact h1 x hx
  · next hy =>
    refine List.pairwise_cons.2 ⟨fun x hx=>?_,List.Pairwise.filter _ h⟩
    obtain⟨hx,hne⟩:=List.mem_filter.1 hx
    simp only [decide_eq_true_eq] at hne
    have hyx:z7g x k=false:=by
     rcases List.mem_cons.1 hx with rfl | hx
     · simpa using hy
     · cases hc:z7g x k with
       | false=>rfl
       | true=>exact absurd (less_trans y x k (h1 x hx) hc) hy
    cases hc:z7g k x with
    | true=>rfl
    | false=>exact absurd (less_total x k hyx hc) hne
def setL (L:List K):List K:=L.foldl insK []
theorem set_fold (x:K):∀ (L acc:List K),Up acc→Up (L.foldl insK acc)∧(x∈L.foldl insK acc ↔ x∈acc∨x∈L)
 | [],acc,h=>⟨h,by simp⟩
 | k::L,acc,h=>by
  have ih:=set_fold x L (insK acc k) (ins_up k acc h)
  rw [List.foldl_cons]
  refine⟨ih.1,ih.2.trans ?_⟩
  rw [q0d,List.mem_cons]
  constructor
  · rintro ((h | h) | h)
    · exact .inr (.inl h)
    · exact .inl h
    · exact .inr (.inr h)
  · rintro (h | h | h)
    · exact .inl (.inr h)
    · exact .inl (.inl h)
    · exact .inr h
theorem set_mem (L:List K) (x:K):x∈setL L ↔ x∈L:=by
 have:=(set_fold x L [] List.Pairwise.nil).2
 simpa [setL] using this
end Go.Proofs.YtclbkfpbdidaiaaGreatDoor
