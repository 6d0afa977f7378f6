import Derived.Test.YtclbkfpbdidaiaaGreatDoorPA09
import Derived.Deep.LoopGhost
namespace Go.Proofs.YtclbkfpbdidaiaaGreatDoor
open Go.RowKit Go.ChangeShapes Go.WideShapes
set_option linter.unusedVariables false
set_option maxRecDepth 10000
def Lists (W:World) (L:List K) (e:Ending) (w':World):Prop:=∃ p c,e=.returned (.slice p L.length c)∧KL w' p L.length c L∧Below W.heap.size W w'
theorem refgood_off (s w a b c:Int) (hb:0≤b∧b≤255) (h:s<1∨(¬ s<1∧4<s)∨(¬ s<1∧¬ 4<s∧w<1)∨(¬ s<1∧¬ 4<s∧¬ w<1∧4<w)∨(¬ s<1∧¬ 4<s∧¬ w<1∧¬ 4<w∧s≤b)) (W:World) :
 Calls Tryz.prog 114 #[.int .i64 s,.int .i64 w,.agg #[.int .u8 a,.int .u8 b,.int .u8 c]] W fun e w'=>e=.returned (.bool false)∧Gr W w':=by
 obtain⟨hb0,hb1⟩:=hb
 rcases h with h1 | ⟨h1,h2⟩ | ⟨h1,h2,h3⟩ | ⟨h1,h2,h3,h4⟩ | ⟨h1,h2,h3,h4,h5⟩
 all_goals
  go_enter Tryz.func114,Tryz.ntmps114
  go_wp2_with fail
  go_ret
  exact⟨rfl,(Gr.refl W).alloc _⟩
theorem refgood_on (s w a b c:Int) (hb:0≤b∧b≤255) (hc:0≤c∧c≤255) (h1:¬ s<1) (h2:¬ 4<s) (h3:¬ w<1) (h4:¬ 4<w) (h5:¬ s≤b) (W:World) :
 Calls Tryz.prog 114 #[.int .i64 s,.int .i64 w,.agg #[.int .u8 a,.int .u8 b,.int .u8 c]] W fun e w'=>e=.returned (.bool (decide (c<widthI a w)))∧Gr W w':=by
 obtain⟨hb0,hb1⟩:=hb
 obtain⟨hc0,hc1⟩:=hc
 by_cases a1:a=1
 · subst a1
   have hw:widthI 1 w=w:=rfl
   rw [hw]
   clear hw
   go_enter Tryz.func114,Tryz.ntmps114
   go_wp2_with fail
   go_ret
   exact⟨rfl,(Gr.refl W).alloc _⟩
 by_cases a2:a=2
 · subst a2
   have hw:widthI 2 w=w:=rfl
   rw [hw]
   clear hw
   go_enter Tryz.func114,Tryz.ntmps114
   go_wp2_with fail
   go_ret
   exact⟨rfl,(Gr.refl W).alloc _⟩
 have n1:(a==1)=false:=by simpa using a1
 have n2:(a==2)=false:=by simpa using a2
 by_cases a34:a=3∨a=4
 · have hw:decide (c<widthI a w)=(c==0):=by
    rcases a34 with rfl | rfl
    · rw [show widthI 3 w=1 from rfl,Bool.eq_iff_iff];simp;omega
    · rw [show widthI 4 w=1 from rfl,Bool.eq_iff_iff];simp;omega
   rw [hw]
   clear hw
   rcases a34 with rfl | rfl
   · go_enter Tryz.func114,Tryz.ntmps114
     go_wp2_with fail
     go_ret
     exact⟨rfl,(Gr.refl W).alloc _⟩
   · go_enter Tryz.func114,Tryz.ntmps114
     go_wp2_with fail
     go_ret
     exact⟨rfl,(Gr.refl W).alloc _⟩
 · have hw:decide (c<widthI a w)=false:=by
    have:widthI a w=0:=by unfold widthI;rw [if_neg (by omega),if_neg a34]
    rw [this];simp;omega
   rw [hw]
   clear hw
   have n3:(a==3)=false:=by simp;omega
   have n4:(a==4)=false:=by simp;omega
   clear a34
   go_enter Tryz.func114,Tryz.ntmps114
   go_wp2_with fail
   go_ret
   exact⟨rfl,(Gr.refl W).alloc _⟩
theorem refgood_any (s w a b c:Int) (hb:0≤b∧b≤255) (hc:0≤c∧c≤255) (W:World) :
 Calls Tryz.prog 114 #[.int .i64 s,.int .i64 w,.agg #[.int .u8 a,.int .u8 b,.int .u8 c]] W fun e w'=>e=.returned (.bool (goodB s w a b c))∧Gr W w':=by
 by_cases h:z0q s w=true∧b<s
 · have hF:goodB s w a b c=decide (c<widthI a w):=by simp [goodB,h]
   rw [hF]
   obtain⟨h,h5⟩:=h
   simp only [z0q,Bool.and_eq_true,decide_eq_true_eq] at h
   exact refgood_on s w a b c hb hc (by omega) (by omega) (by omega) (by omega) (by omega) W
 · have hF:goodB s w a b c=false:=by
    cases hg:goodB s w a b c with
    | false=>rfl
    | true =>
     simp only [goodB,Bool.and_eq_true,decide_eq_true_eq] at hg
     exact absurd ⟨hg.1.1,hg.1.2⟩ h
   rw [hF]
   simp only [z0q,Bool.and_eq_true,decide_eq_true_eq] at h
   exact refgood_off s w a b c hb (by omega) W
def insK:List K→K→List K
 | [],k=>[k]
 | x::L,k=>if lessB x k=true then x::insK L k else k::(x::L).filter fun y=>decide (y≠k)
theorem ins_mem (k x:K):∀ L:List K,x∈insK L k ↔ x=k∨x∈L
 | []=>by simp [insK]
 | y::L=>by
  have ih:=ins_mem k x L
  unfold insK
  split
  · rw [List.mem_cons,ih,List.mem_cons]
    constructor
    · rintro (h | h | h)
      · exact .inr (.inl h)
      · exact .inl h
      · exact .inr (.inr h)
    · rintro (h | h | h)
      · exact .inr (.inl h)
      · exact .inl h
      · exact .inr (.inr h)
  · rw [List.mem_cons,List.mem_filter]
    simp only [decide_eq_true_eq]
    constructor
    · rintro (h | h)
      · exact .inl h
      · exact .inr h.1
    · rintro (h | h)
      · exact .inl h
      · by_cases hx:x=k
        · exact .inl hx
        · exact .inr ⟨h,hx⟩
def Up (L:List K):Prop:=L.Pairwise fun a b=>lessB a b=true
theorem ins_up (k:K):∀ L:List K,Up L→Up (insK L k)
 | [],_=>by unfold Up;simp [insK]
 | y::L,h=>by
  obtain⟨h1,h2⟩:=List.pairwise_cons.1 h
  have ih:=ins_up k L h2
  unfold insK
  split
  · next hy =>
    refine List.pairwise_cons.2 ⟨fun x hx=>?_,ih⟩
    rcases (ins_mem k x L).1 hx with rfl | hx
    · exact hy
    · exact h1 x hx
  · next hy =>
    refine List.pairwise_cons.2 ⟨fun x hx=>?_,List.Pairwise.filter _ h⟩
    obtain⟨hx,hne⟩:=List.mem_filter.1 hx
    simp only [decide_eq_true_eq] at hne
    have hyx:lessB x k=false:=by
     rcases List.mem_cons.1 hx with rfl | hx
     · simpa using hy
     · cases hc:lessB x k with
       | false=>rfl
       | true=>exact absurd (less_trans y x k (h1 x hx) hc) hy
    cases hc:lessB k x with
    | true=>rfl
    | false=>exact absurd (less_total x k hyx hc) hne
def setL (L:List K):List K:=L.foldl insK []
theorem set_fold (x:K):∀ (L acc:List K),Up acc→Up (L.foldl insK acc)∧(x∈L.foldl insK acc ↔ x∈acc∨x∈L)
 | [],acc,h=>⟨h,by simp⟩
 | k::L,acc,h=>by
  have ih:=set_fold x L (insK acc k) (ins_up k acc h)
  rw [List.foldl_cons]
  refine⟨ih.1,ih.2.trans ?_⟩
  rw [ins_mem,List.mem_cons]
  constructor
  · rintro ((h | h) | h)
    · exact .inr (.inl h)
    · exact .inl h
    · exact .inr (.inr h)
  · rintro (h | h | h)
    · exact .inl (.inr h)
    · exact .inl (.inl h)
    · exact .inr h
theorem set_mem (L:List K) (x:K):x∈setL L ↔ x∈L:=by
 have:=(set_fold x L [] List.Pairwise.nil).2
 simpa [setL] using this
end Go.Proofs.YtclbkfpbdidaiaaGreatDoor
