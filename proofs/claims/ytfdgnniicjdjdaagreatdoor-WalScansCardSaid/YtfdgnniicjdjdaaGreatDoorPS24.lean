import Derived.Test.YtfdgnniicjdjdaaGreatDoorPS23
import Derived.Lib.SlBytesConst
namespace Go.Proofs.YtfdgnniicjdjdaaGreatDoor
open Go.RowKit Go.ChangeShapes Go.WideShapes
set_option linter.unusedVariables false
set_option maxRecDepth 10000
def WrOk (W w:World) (B:Nat) (most:Int) (S:St):Prop:=∃ v,Wr w B v most S∧W.heap.size≤B∧(∀ k,v.ownBlock=some k→W.heap.size≤k)∧Below W.heap.size W w
theorem WrOk.below {W w:World} {B:Nat} {most:Int} {S:St} (h:WrOk W w B most S):Below W.heap.size W w:=by
 obtain⟨_,_,_,_,h⟩:=h
 exact h
def z9u (W:World) (B:Nat) (most:Int) (S:St) (e:Ending) (w':World):Prop:=e=.returned (.tuple #[])∧WrOk W w' B most S
theorem WrOk.step {W w:World} {B:Nat} {most:Int} {S T:St} {f:Nat} {args:Array Value} (h:WrOk W w B most S) (hc:∀ v,Wr w B v most S→Calls Tryz.prog f args w (Wrot w B v most T)):Calls Tryz.prog f args w (z9u W B most T):=by
 obtain⟨v,hw,hB,hv,hb⟩:=h
 refine (hc v hw).mono ?_
 rintro e w' ⟨rfl,⟨v',hw',hn⟩,hch⟩
 refine⟨rfl,v',hw',hB,fun k hk=>?_,hch.below hb hb.size fun k hk=>?_⟩
 · rcases hn k hk with h | h
   · exact hv k h
   · exact Nat.le_trans hb.size h
 · rcases hk with rfl | hk
   · exact hB
   · exact hv k hk
theorem WrOk.later {W w w':World} {B:Nat} {most:Int} {S:St} (h:WrOk W w B most S) (hc:Chg (fun _=>False) w w'):WrOk W w' B most S:=by
 obtain⟨v,hw,hB,hv,hb⟩:=h
 exact⟨v,hw.chg hc (fun h=>h) (fun _ _ h=>h),hB,hv,hc.below hb hb.size fun k hk=>hk.elim⟩
def lim (m:Int):Int:=if m<0 then 0 else m
def Newed (W:World) (m:Int) (e:Ending) (w':World):Prop:=∃ B,e=.returned (.pointer (some ⟨B,0,none⟩))∧WrOk W w' B (lim m) (0,[])
theorem z6v (W w:World) (m:Int) (hb:Below W.heap.size W w):Calls Tryz.prog 106 #[.int .i64 m] w (Newed W m):=by
 refine (new_any m w).mono ?_
 rintro e w' ⟨rfl,rfl⟩
 exact⟨_,rfl,_,new_wr w (lim m),hb.size,(fun k hk=>by cases hk),hb.alloc hb.size _⟩
def RdOk (W w:World) (B:Nat) (S:St):Prop:=∃ p c,Rd w B p c S∧W.heap.size≤B∧(∀ a,p=some a→W.heap.size≤a.block)∧Below W.heap.size W w
theorem RdOk.below {W w:World} {B:Nat} {S:St} (h:RdOk W w B S):Below W.heap.size W w:=by
 obtain⟨_,_,_,_,_,h⟩:=h
 exact h
theorem RdOk.went {W w w':World} {B:Nat} {p:Option Addr} {T:St} (hB:W.heap.size≤B) (hp:∀ a,p=some a→W.heap.size≤a.block) (hb:Below W.heap.size W w) (h:Went w B p T w'):RdOk W w' B T:=by
 obtain⟨p',c',h1,h2⟩:=h.rd
 refine⟨p',c',h1,hB,fun a ha=>?_,h.chg.below hb hb.size fun k hk=>by rw [hk];exact hB⟩
 obtain⟨a',e1,e2⟩:=h2 a ha
 rw [e2]
 exact hp a' e1
def Readed (W w:World) (L:List Nat) (e:Ending) (w':World):Prop:=∃ B,e=.returned (.pointer (some ⟨B,0,none⟩))∧RdOk W w' B (0,L)∧Below w.heap.size w w'∧w.heap.size≤B
theorem q0k (W w:World) (p:Option Addr) (n c:Nat) (L:List Nat) (hS:Sl w p n c L) (hn:n≤100000) (hb:Below W.heap.size W w):Calls Tryz.prog 93 #[.slice p n c] w (Readed W w L):=by
 refine (q0l p n c L w hS hn).mono ?_
 rintro e w' ⟨B,p',c',rfl,h1,h2,h3,h4⟩
 exact⟨_,rfl,⟨p',c',h2,Nat.le_trans hb.size h1,(fun a ha=>Nat.le_trans hb.size (h3 a ha).1),hb.trans (h4.mono hb.size)⟩,h4,h1⟩
def NumOk (W:World) (B:Nat) (R:St × Nat) (e:Ending) (w':World):Prop:=e=.returned (.int .u64 ((R.2:Nat):Int))∧RdOk W w' B R.1
theorem z8m (W w:World) (B:Nat) (S:St) (size:Int) (h:RdOk W w B S) (hb:S.2.length≤90000):Calls Tryz.prog 134 #[.pointer (some ⟨B,0,none⟩),.int .i64 size] w (NumOk W B (numR S size)):=by
 obtain⟨p,c,hr,hB,hp,hw⟩:=h
 refine (z7z B c p S size w hr (by omega)).mono ?_
 rintro e w' ⟨rfl,h⟩
 exact⟨rfl,RdOk.went hB hp hw h⟩
def DoneOk (W:World) (S:St) (e:Ending) (w':World):Prop:=Below W.heap.size W w'∧if S.1=0 then ∃ p c,e=.returned (.tuple #[.slice p S.2.length c,.int .i64 0])∧Sl w' p S.2.length c S.2∧∀ a,p=some a→W.heap.size≤a.block else e=.returned (.tuple #[.slice none 0 0,.int .i64 S.1])
theorem done_ok (W w:World) (B:Nat) (most:Int) (S:St) (h:WrOk W w B most S) (hl:S.2.length≤100000):Calls Tryz.prog 111 #[.pointer (some ⟨B,0,none⟩)] w (DoneOk W S):=by
 obtain⟨v,hw,hB,hv,hb⟩:=h
 refine (q0u B v most S w hw hl).mono ?_
 rintro e w' ⟨h1,h2⟩
 refine⟨hb.trans (h1.mono hb.size),?_⟩
 split at h2
 · rename_i h0
   rw [if_pos h0]
   obtain⟨v,rfl,hr,ho⟩:=h2
   obtain⟨q,d,rfl,_,hs,hq⟩:=hr.sl
   exact⟨_,_,rfl,hs,fun a ha=>Nat.le_trans hb.size (ho _ (hq a ha))⟩
 · rename_i h0
   rw [if_neg h0]
   exact h2
theorem z3u (W w:World) (B:Nat) (most:Int) (L:List Nat) (h:WrOk W w B most (0,L)) (hl:L.length≤100000):Calls Tryz.prog 111 #[.pointer (some ⟨B,0,none⟩)] w fun e w'=>∃ p c,e=.returned (.tuple #[.slice p L.length c,.int .i64 0])∧Below W.heap.size W w'∧Sl w' p L.length c L∧∀ a,p=some a→W.heap.size≤a.block:=by
 refine (done_ok W w B most (0,L) h hl).mono ?_
 rintro e w' ⟨h1,h2⟩
 rw [if_pos rfl] at h2
 obtain⟨p,c,rfl,h3,h4⟩:=h2
 exact⟨p,c,rfl,h1,h3,h4⟩
theorem sl_first {w:World} {x:Addr} {zs:List Int} (k c:Nat) (hk:k≤zs.length) (hkc:k≤c) (hc:∀ i,i<zs.length→w.cell? (x.add i)=some (.int .u8 (zs.getD i 0))) (hwf:∀ n∈zs,(Lit.int .u8 n).wf=true):Sl w (some x) k c ((zs.take k).map Int.toNat):=by
 have hz:∀ z∈zs,0≤z∧z≤255:=fun z hz=>bounds_u8 (hwf z hz)
 refine⟨by simp;omega,hkc,(fun h=>by cases h),fun y hy=>?_,fun h0=>?_⟩
 · obtain⟨z,hz1,rfl⟩:=List.mem_map.1 hy
   have:=hz z (List.mem_of_mem_take hz1)
   omega
 · obtain⟨b,off,spot⟩:=x
   have h00:=hc 0 (by omega)
   have hspot:spot=none:=by simpa [Addr.add] using World.cell?_spot h00
   subst hspot
   refine⟨b,off,rfl,fun j hj=>?_⟩
   have hjl:j<zs.length:=by omega
   have e:((zs.take k).map Int.toNat).getD j 0=(zs.getD j 0).toNat:=by
    simp [List.getD,hj,List.getElem?_eq_getElem hjl]
   have hb:=hz (zs.getD j 0) (by rw [List.getD,List.getElem?_eq_getElem hjl];simp)
   rw [e,Int.toNat_of_nonneg hb.1,← Go.WideShapes.add_plain]
   exact hc j hjl
end Go.Proofs.YtfdgnniicjdjdaaGreatDoor
