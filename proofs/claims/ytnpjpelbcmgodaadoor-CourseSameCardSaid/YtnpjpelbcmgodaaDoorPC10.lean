import Derived.Test.YtnpjpelbcmgodaaDoorPC09
import Derived.Deep.LoopGhost
namespace Go.Proofs.YtnpjpelbcmgodaaDoor
open Go.RowKit Go.ChangeShapes Go.WideShapes
set_option linter.unusedVariables false
set_option maxRecDepth 10000
def Lists (W:World) (L:List K) (e:Ending) (w':World):Prop:=∃ p c,e=.returned (.slice p L.length c)∧KL w' p L.length c L∧Below W.heap.size W w'
theorem refgood_off (s w a b c:Int) (hb:0≤b∧b≤255) (h:s<1∨(¬ s<1∧4<s)∨(¬ s<1∧¬ 4<s∧w<1)∨(¬ s<1∧¬ 4<s∧¬ w<1∧4<w)∨(¬ s<1∧¬ 4<s∧¬ w<1∧¬ 4<w∧s≤b)) (W:World) :
 Calls Tryd.prog 58 #[.int .i64 s,.int .i64 w,.agg #[.int .u8 a,.int .u8 b,.int .u8 c]] W fun e w'=>e=.returned (.bool false)∧Gr W w':=by
 obtain⟨hb0,hb1⟩:=hb
 rcases h with h1 | ⟨h1,h2⟩ | ⟨h1,h2,h3⟩ | ⟨h1,h2,h3,h4⟩ | ⟨h1,h2,h3,h4,h5⟩
 all_goals
  go_enter Tryd.func58,Tryd.ntmps58
  go_wp2_with fail
  go_ret
  exact⟨rfl,(Gr.refl W).alloc _⟩
theorem refgood_on (s w a b c:Int) (hb:0≤b∧b≤255) (hc:0≤c∧c≤255) (h1:¬ s<1) (h2:¬ 4<s) (h3:¬ w<1) (h4:¬ 4<w) (h5:¬ s≤b) (W:World) :
 Calls Tryd.prog 58 #[.int .i64 s,.int .i64 w,.agg #[.int .u8 a,.int .u8 b,.int .u8 c]] W fun e w'=>e=.returned (.bool (decide (c<z2t a w)))∧Gr W w':=by
 obtain⟨hb0,hb1⟩:=hb
 obtain⟨hc0,hc1⟩:=hc
 by_cases a1:a=1
 · subst a1
   have hw:z2t 1 w=w:=rfl
   rw [hw]
   clear hw
   go_enter Tryd.func58,Tryd.ntmps58
   go_wp2_with fail
   go_ret
   exact⟨rfl,(Gr.refl W).alloc _⟩
 by_cases a2:a=2
 · subst a2
   have hw:z2t 2 w=w:=rfl
   rw [hw]
   clear hw
   go_enter Tryd.func58,Tryd.ntmps58
   go_wp2_with fail
   go_ret
   exact⟨rfl,(Gr.refl W).alloc _⟩
 have n1:(a==1)=false:=by simpa using a1
 have n2:(a==2)=false:=by simpa using a2
 by_cases a34:a=3∨a=4
 · have hw:decide (c<z2t a w)=(c==0):=by
    rcases a34 with rfl | rfl
    · rw [show z2t 3 w=1 from rfl,Bool.eq_iff_iff];simp;omega
    · rw [show z2t 4 w=1 from rfl,Bool.eq_iff_iff];simp;omega
   rw [hw]
   clear hw
   rcases a34 with rfl | rfl
   · go_enter Tryd.func58,Tryd.ntmps58
     go_wp2_with fail
     go_ret
     exact⟨rfl,(Gr.refl W).alloc _⟩
   · go_enter Tryd.func58,Tryd.ntmps58
     go_wp2_with fail
     go_ret
     exact⟨rfl,(Gr.refl W).alloc _⟩
 · have hw:decide (c<z2t a w)=false:=by
    have:z2t a w=0:=by unfold z2t;rw [if_neg (by omega),if_neg a34]
    rw [this];simp;omega
   rw [hw]
   clear hw
   have n3:(a==3)=false:=by simp;omega
   have n4:(a==4)=false:=by simp;omega
   clear a34
   go_enter Tryd.func58,Tryd.ntmps58
   go_wp2_with fail
   go_ret
   exact⟨rfl,(Gr.refl W).alloc _⟩
theorem refgood_any (s w a b c:Int) (hb:0≤b∧b≤255) (hc:0≤c∧c≤255) (W:World) :
 Calls Tryd.prog 58 #[.int .i64 s,.int .i64 w,.agg #[.int .u8 a,.int .u8 b,.int .u8 c]] W fun e w'=>e=.returned (.bool (z3c s w a b c))∧Gr W w':=by
 by_cases h:z0l s w=true∧b<s
 · have hF:z3c s w a b c=decide (c<z2t a w):=by simp [z3c,h]
   rw [hF]
   obtain⟨h,h5⟩:=h
   simp only [z0l,Bool.and_eq_true,decide_eq_true_eq] at h
   exact refgood_on s w a b c hb hc (by omega) (by omega) (by omega) (by omega) (by omega) W
 · have hF:z3c s w a b c=false:=by
    cases hg:z3c s w a b c with
    | false=>rfl
    | true =>
     simp only [z3c,Bool.and_eq_true,decide_eq_true_eq] at hg
     exact absurd ⟨hg.1.1,hg.1.2⟩ h
   rw [hF]
   simp only [z0l,Bool.and_eq_true,decide_eq_true_eq] at h
   exact refgood_off s w a b c hb (by omega) W
end Go.Proofs.YtnpjpelbcmgodaaDoor
