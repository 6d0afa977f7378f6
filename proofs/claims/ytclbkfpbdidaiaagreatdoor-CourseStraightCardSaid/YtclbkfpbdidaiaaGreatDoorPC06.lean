import Derived.Test.YtclbkfpbdidaiaaGreatDoorPC05
import Derived.ProofKit
import Derived.Lib.Hide
import Derived.WalkSpells
import Derived.StillTailTactics
import Derived.Sort.Grow
import Derived.Deep.Draws
namespace Go.Proofs.YtclbkfpbdidaiaaGreatDoor
open Go.RowKit Go.ChangeShapes Go.WideShapes
set_option linter.unusedVariables false
set_option maxRecDepth 10000
theorem ksized_any (s w:Int) (W:World) :
 Calls Tryz.prog 140 #[.int .i64 s,.int .i64 w] W fun e w'=>e=.returned (.bool (z0m s w))∧w'=W:=by
 by_cases h1:1≤s <;> by_cases h2:s≤4 <;> by_cases h3:1≤w <;> by_cases h4:w≤4
 all_goals
  go_enter Tryz.func140,Tryz.ntmps140
  go_wp2_with fail
  go_ret
  exact⟨by simp [z0m, *],rfl⟩
theorem width_any (a w:Int) (W:World) :
 Calls Tryz.prog 141 #[.int .u8 a,.int .i64 w] W fun e w'=>e=.returned (.int .i64 (z6s a w))∧w'=W:=by
 by_cases h1:a=1
 · subst h1
   go_enter Tryz.func141,Tryz.ntmps141
   go_wp2_with fail
   go_ret
   exact⟨rfl,rfl⟩
 by_cases h2:a=2
 · subst h2
   go_enter Tryz.func141,Tryz.ntmps141
   go_wp2_with fail
   go_ret
   exact⟨rfl,rfl⟩
 by_cases h3:a=3
 · subst h3
   go_enter Tryz.func141,Tryz.ntmps141
   go_wp2_with fail
   go_ret
   exact⟨rfl,rfl⟩
 by_cases h4:a=4
 · subst h4
   go_enter Tryz.func141,Tryz.ntmps141
   go_wp2_with fail
   go_ret
   exact⟨rfl,rfl⟩
 have hF:z6s a w=0:=by simp [z6s,h1,h2,h3,h4]
 rw [hF]
 go_enter Tryz.func141,Tryz.ntmps141
 go_wp2_with fail
 go_ret
 exact⟨rfl,rfl⟩
def Gr (w w':World):Prop:=∃ q os,w'=Sort.grow (w.drewN q) os
theorem Gr.refl (w:World):Gr w w:=⟨0,#[],by rw [Sort.grow_empty];rfl⟩
theorem Gr.trans {a b c:World} (h:Gr a b) (g:Gr b c):Gr a c:=by
 obtain⟨q,os,rfl⟩:=h
 obtain⟨q',os',rfl⟩:=g
 exact⟨q+q',os++os',by show Sort.grow (Sort.grow ((a.drewN q).drewN q') os) os'=_;rw [Sort.grow_grow,World.drewN_drewN]⟩
theorem Gr.alloc {a b:World} (h:Gr a b) (o:Obj):Gr a (b.alloc o):=h.trans ⟨0,#[o],by rw [Sort.alloc_eq_grow];rfl⟩
theorem Gr.drewN {a b:World} (h:Gr a b) (n:Nat):Gr a (b.drewN n):=h.trans ⟨n,#[],by rw [Sort.grow_empty]⟩
theorem Gr.below {a b:World} (h:Gr a b):Below a.heap.size a b:=by
 obtain⟨q,os,rfl⟩:=h
 exact⟨rfl,rfl,rfl,by simp [World.drewN],fun k hk=>Sort.heap_grow_old (a.drewN q) os hk⟩
def box (k:K):Obj:=.cells #[.int .u8 k.1,.int .u8 k.2.1,.int .u8 k.2.2] 40
end Go.Proofs.YtclbkfpbdidaiaaGreatDoor
