import Derived.Test.YtfdgnniicjdjdaaGreatDoorPS43
import Derived.Test.YtfdgnniicjdjdaaGreatDoorPS41
import Derived.Test.YtfdgnniicjdjdaaGreatDoorPS44
namespace Go.Proofs.YtfdgnniicjdjdaaGreatDoor
open Go.RowKit Go.ChangeShapes Go.WideShapes
set_option linter.unusedVariables false
set_option maxRecDepth 10000
section
attribute [local go_sem] Oper.semAt_some
def offE (a:Nat) (out:List (Nat × Rx)):List En:=out.map fun e=>(((a+e.1:Nat):Int),e.2)
theorem z6o (a:Nat) (out:List (Nat × Rx)):(offE a out).length=out.length:=by simp [offE]
theorem offE_snoc (a:Nat) (out:List (Nat × Rx)) (i:Nat) (X:Rx):offE a (out ++ [(i,X)])=offE a out ++ [(((a+i:Nat):Int),X)]:=by simp [offE]
def q0y (W:World) (a:Nat) (B:List Nat) (e:Ending) (w':World):Prop:=∃ p c H,e=.returned (.tuple #[.slice p (z4x B).1.length c,.int .i64 ((a+(z4x B).2.1:Nat):Int),.int .i64 (z4x B).2.2])∧EL w' p (z4x B).1.length c H (offE a (z4x B).1)∧Below W.heap.size W w'
theorem wal_behind (x:Nat) (n:Nat) (w:World) (h:x+n≤9000000000000000000):Calls Tryz.prog 74 #[.int .i64 (x:Nat),.int .i64 (n:Nat)] w fun e w'=>e=.returned (.int .i64 ((x+n:Nat):Int))∧w'=w:=by
 have h1:((x+n:Nat):Int)=(x:Int)+(n:Int):=by omega
 have h2:¬ (x:Int) > 9223372036854775807-(n:Int):=by omega
 have h3:decide ((x:Int) > 9223372036854775807-(n:Int))=false:=decide_eq_false h2
 rw [h1]
 go_enter Tryz.func74,Tryz.ntmps74
 go_wp2_with fail
 go_ret
 exact⟨rfl,rfl⟩
theorem wal_frames (p:Option Addr) (n c:Nat) (w:World):Calls Tryz.prog 73 #[.slice p n c] w fun e w'=>e=.returned (.func (.func 116) #[] #[.pointer (some ⟨w.heap.size,0,none⟩)])∧w'=w.alloc (.cells #[.slice p n c] 33):=by
 go_enter Tryz.func73,Tryz.ntmps73
 go_wp2_with fail
 go_ret
 exact⟨rfl,rfl⟩
structure ScI (W6:World) (N a:Nat) (B:List Nat) (pre:List Yl) (X:World):Prop where
 all:∃ (v:Value) (H:List Eh) (out:List (Nat × Rx)),Boxed X (N+4) 74 v∧FE (N+6) X v H (offE a out)∧Sx B out (zsY pre)
 at_:Boxed X N 2 (.int .i64 ((a+zsY pre:Nat):Int))
 ok:∀ y∈pre,y.e=0
 chg:Chg (fun k=>k=N∨k=N+4) W6 X
structure ScX (W6:World) (N a:Nat) (B:List Nat) (X:World):Prop where
 all:∃ (v:Value) (H:List Eh) (out:List (Nat × Rx)) (i:Nat) (er:Int),Boxed X (N+1) 74 v∧Boxed X (N+2) 2 (.int .i64 ((a+i:Nat):Int))∧Boxed X (N+3) 56 (.int .i64 er)∧FE (N+6) X v H (offE a out)∧z4x B=(out,i,er)
 chg:Chg (fun k=>N≤k∧k<N+5) W6 X
theorem ScI.own {W6:World} {N a:Nat} {B:List Nat} (h6:W6.heap.size=N+6):OwnFrom W6.heap.size (ScI W6 N a B):=fun pre X X' row hs hg hr=>by
 have hne:∀ k,k<N+6→some k≠row:=fun k hk e=>by have:=(hr k e.symm).1;omega
 obtain⟨v,H,out,h1,h2,h3⟩:=hs.all
 refine⟨⟨v,H,out,h1.kept hg (hne _ (by omega)),h2.kept hg fun r e=>(hr r e).2,h3⟩,hs.at_.kept hg (hne _ (by omega)),hs.ok,hs.chg.trans (Chg.of_grown hg) fun k hk e=>absurd e.symm (hne k (by omega))⟩
theorem ScX.own {W6:World} {N a:Nat} {B:List Nat} (h6:W6.heap.size=N+6):OwnFrom W6.heap.size (fun (_:List Yl)=>ScX W6 N a B):=fun pre X X' row hs hg hr=>by
 have hne:∀ k,k<N+6→some k≠row:=fun k hk e=>by have:=(hr k e.symm).1;omega
 obtain⟨v,H,out,i,er,h1,h2,h3,h4,h5⟩:=hs.all
 exact⟨⟨v,H,out,i,er,h1.kept hg (hne _ (by omega)),h2.kept hg (hne _ (by omega)),h3.kept hg (hne _ (by omega)),h4.kept hg fun r e=>(hr r e).2,h5⟩,hs.chg.trans (Chg.of_grown hg) fun k hk e=>absurd e.symm (hne k (by omega))⟩
structure ScA (W6:World) (B:List Nat) (tm:Yl→Nat→Array Value) (pre:List Yl) (x:Yl) (a':Act) (X:World):Prop where
 all:∃ Bf,W6.heap.size≤Bf∧X.heap[Bf]?=some (.cells #[.slice x.p x.P.length x.c,.int .i64 (x.z:Nat)] 142 (0,0))∧a'={ tmps:=tm x Bf,defers:=[] }
 tell:TellY B pre x X
end
end Go.Proofs.YtfdgnniicjdjdaaGreatDoor
