import Derived.Test.YtclbkfpbdidaiaaGreatDoorPC15
import Derived.Lib.SlBytesConst
namespace Go.Proofs.YtclbkfpbdidaiaaGreatDoor
open Go.RowKit Go.ChangeShapes Go.WideShapes
set_option linter.unusedVariables false
set_option maxRecDepth 10000
def WrOk (W w:World) (B:Nat) (most:Int) (S:St):Prop:=∃ v,Wr w B v most S∧W.heap.size≤B∧(∀ k,v.ownBlock=some k→W.heap.size≤k)∧Below W.heap.size W w
theorem WrOk.below {W w:World} {B:Nat} {most:Int} {S:St} (h:WrOk W w B most S):Below W.heap.size W w:=by
 obtain⟨_,_,_,_,h⟩:=h
 exact h
def z9g (W:World) (B:Nat) (most:Int) (S:St) (e:Ending) (w':World):Prop:=e=.returned (.tuple #[])∧WrOk W w' B most S
theorem WrOk.step {W w:World} {B:Nat} {most:Int} {S T:St} {f:Nat} {args:Array Value} (h:WrOk W w B most S) (hc:∀ v,Wr w B v most S→Calls Tryz.prog f args w (Wrot w B v most T)):Calls Tryz.prog f args w (z9g W B most T):=by
 obtain⟨v,hw,hB,hv,hb⟩:=h
 refine (hc v hw).mono ?_
 rintro e w' ⟨rfl,⟨v',hw',hn⟩,hch⟩
 refine⟨rfl,v',hw',hB,fun k hk=>?_,hch.below hb hb.size fun k hk=>?_⟩
 · rcases hn k hk with h | h
   · exact hv k h
   · exact Nat.le_trans hb.size h
 · rcases hk with rfl | hk
   · exact hB
   · exact hv k hk
theorem WrOk.later {W w w':World} {B:Nat} {most:Int} {S:St} (h:WrOk W w B most S) (hc:Chg (fun _=>False) w w'):WrOk W w' B most S:=by
 obtain⟨v,hw,hB,hv,hb⟩:=h
 exact⟨v,hw.chg hc (fun h=>h) (fun _ _ h=>h),hB,hv,hc.below hb hb.size fun k hk=>hk.elim⟩
def lim (m:Int):Int:=if m<0 then 0 else m
def Newed (W:World) (m:Int) (e:Ending) (w':World):Prop:=∃ B,e=.returned (.pointer (some ⟨B,0,none⟩))∧WrOk W w' B (lim m) (0,[])
theorem z7e (W w:World) (m:Int) (hb:Below W.heap.size W w):Calls Tryz.prog 98 #[.int .i64 m] w (Newed W m):=by
 refine (new_any m w).mono ?_
 rintro e w' ⟨rfl,rfl⟩
 exact⟨_,rfl,_,new_wr w (lim m),hb.size,(fun k hk=>by cases hk),hb.alloc hb.size _⟩
def DoneOk (W:World) (S:St) (e:Ending) (w':World):Prop:=Below W.heap.size W w'∧if S.1=0 then ∃ p c,e=.returned (.tuple #[.slice p S.2.length c,.int .i64 0])∧Sl w' p S.2.length c S.2∧∀ a,p=some a→W.heap.size≤a.block else e=.returned (.tuple #[.slice none 0 0,.int .i64 S.1])
theorem done_ok (W w:World) (B:Nat) (most:Int) (S:St) (h:WrOk W w B most S) (hl:S.2.length≤100000):Calls Tryz.prog 105 #[.pointer (some ⟨B,0,none⟩)] w (DoneOk W S):=by
 obtain⟨v,hw,hB,hv,hb⟩:=h
 refine (done_any B v most S w hw hl).mono ?_
 rintro e w' ⟨h1,h2⟩
 refine⟨hb.trans (h1.mono hb.size),?_⟩
 split at h2
 · rename_i h0
   rw [if_pos h0]
   obtain⟨v,rfl,hr,ho⟩:=h2
   obtain⟨q,d,rfl,_,hs,hq⟩:=hr.sl
   exact⟨_,_,rfl,hs,fun a ha=>Nat.le_trans hb.size (ho _ (hq a ha))⟩
 · rename_i h0
   rw [if_neg h0]
   exact h2
theorem z3g (W w:World) (B:Nat) (most:Int) (L:List Nat) (h:WrOk W w B most (0,L)) (hl:L.length≤100000):Calls Tryz.prog 105 #[.pointer (some ⟨B,0,none⟩)] w fun e w'=>∃ p c,e=.returned (.tuple #[.slice p L.length c,.int .i64 0])∧Below W.heap.size W w'∧Sl w' p L.length c L∧∀ a,p=some a→W.heap.size≤a.block:=by
 refine (done_ok W w B most (0,L) h hl).mono ?_
 rintro e w' ⟨h1,h2⟩
 rw [if_pos rfl] at h2
 obtain⟨p,c,rfl,h3,h4⟩:=h2
 exact⟨p,c,rfl,h1,h3,h4⟩
theorem least (len B:Nat):∃ k:Nat,min (len:Int) (B:Int)=(k:Int)∧k≤len∧k≤B :=
 ⟨min len B,by omega,Nat.min_le_left _ _,Nat.min_le_right _ _⟩
end Go.Proofs.YtclbkfpbdidaiaaGreatDoor
