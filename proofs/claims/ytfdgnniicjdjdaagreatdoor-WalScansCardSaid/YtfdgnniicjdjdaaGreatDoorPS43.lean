import Derived.Test.YtfdgnniicjdjdaaGreatDoorPS40
import Derived.Test.YtfdgnniicjdjdaaGreatDoorPS25
import Derived.RegionIn
import Derived.LoopIn
namespace Go.Proofs.YtfdgnniicjdjdaaGreatDoor
open Go.Lib (hid)
set_option maxHeartbeats 4000000
open Go.RowKit Go.ChangeShapes Go.WideShapes
set_option linter.unusedVariables false
set_option maxRecDepth 10000
section
attribute [local go_sem] Oper.semAt_some
structure KpS (S:Nat→Prop) (W W':World):Prop where
 size:W.heap.size≤W'.heap.size
 same:∀ k,S k→k<W.heap.size→W'.heap[k]?=W.heap[k]?
theorem KpS.refl (S:Nat→Prop) (W:World):KpS S W W:=⟨Nat.le_refl _,fun _ _ _=>rfl⟩
theorem KpS.trans {S:Nat→Prop} {A B C:World} (h:KpS S A B) (g:KpS S B C):KpS S A C:=⟨Nat.le_trans h.size g.size,fun k hk hl=>(g.same k hk (Nat.lt_of_lt_of_le hl h.size)).trans (h.same k hk hl)⟩
theorem KpS.of_below {S:Nat→Prop} {A B:World} (h:Below A.heap.size A B):KpS S A B:=⟨h.size,fun k _ hl=>h.block k hl⟩
theorem KpS.cell {S:Nat→Prop} {A B:World} (h:KpS S A B) {b i:Nat} {v:Value} (hs:S b) (hc:A.cell? ⟨b,i,none⟩=some v):B.cell? ⟨b,i,none⟩=some v :=
 (World.cell?_of_block (a:=⟨b,i,none⟩) (h.same b hs (World.block_lt_of_cell? _ _ hc))).trans hc
theorem KpS.sl {S:Nat→Prop} {A B:World} (h:KpS S A B) {p:Option Addr} {n c:Nat} {L:List Nat} (hl:Sl A p n c L) (hs:0<n→∀ a,p=some a→S a.block):Sl B p n c L:=by
 by_cases h0:0<n
 · exact hl.keep fun a ha hlt=>h.same _ (hs h0 a ha) hlt
 · exact⟨hl.len,hl.cap,hl.nil,hl.lt,fun h1=>absurd h1 h0⟩
theorem KpS.tab {S:Nat→Prop} {A B:World} (h:KpS S A B) (hT:Tab A) (hs:S 1):Tab B:=fun i hi=>h.cell hs (hT i hi)
structure Yl where
 p:Option Addr
 c:Nat
 P:List Nat
 z:Nat
 e:Int
def encY (x:Yl):Array Value:=#[.agg #[.slice x.p x.P.length x.c,.int .i64 (x.z:Nat)],.int .i64 x.e]
def zsY (pre:List Yl):Nat:=(pre.map (·.z)).sum
theorem q0c (pre:List Yl) (x:Yl):zsY (pre ++ [x])=zsY pre+x.z:=by simp [zsY]
structure TellY (B:List Nat) (pre:List Yl) (x:Yl) (W:World):Prop where
 sl:Sl W x.p x.P.length x.c x.P
 lt:zsY pre<B.length
 P:x.P=q1e (B.drop (zsY pre))
 z:x.z=z9l (B.drop (zsY pre))
 e:x.e=nE (B.drop (zsY pre))
def q3e (B:List Nat) (xs:List Yl):Prop:=B.length≤zsY xs∨∃ y∈xs,y.e≠0
def AnyY (_:List Yl):Prop:=True
set_option maxRecDepth 100000 in
theorem frames_tells (Bx:Nat) (S:Nat→Prop) (p:Option Addr) (n c:Nat) (B:List Nat) (w:World) (hx:w.cell? ⟨Bx,0,none⟩=some (.slice p n c)) (hS:Sl w p n c B) (hcm:c≤maxLen) (hn:n≤100000) (hT:Tab w) (hSx:S Bx) (hSp:0<n→∀ a,p=some a→S a.block) (hSg:S 1) :
 SeqTells Fence.wide 5 Tryz.prog 116 #[.pointer (some ⟨Bx,0,none⟩)] encY (TellY B) (KpS S) (q3e B) AnyY n w:=fun l J Jx W hW hJ _ hY h0=>by
 have HX:Hid (∀ W',KpS S W W'→W'.cell? ⟨Bx,0,none⟩=some (.slice p n c)∧Sl W' p n c B∧Tab W'):=hid fun W' h=>by
  have h':KpS S w W':=(KpS.of_below hW).trans h
  exact⟨h'.cell hSx hx,h'.sl hS hSp,h'.tab hT hSg⟩
 have HLN:=hid hS.len
 have hcap:=hS.cap
 have hc0:=hcm
 have HJ:=hid hJ
 have HY:=hid hY
 have HJ0:=hid h0
 have hbx:∃ b off,0<n→p=some ⟨b,off,none⟩:=by
  by_cases h:0<n
  · obtain⟨b,off,hp,_⟩:=hS.cell h
    exact⟨b,off,fun _=>hp⟩
  · exact⟨0,0,fun h'=>absurd h' h⟩
 obtain⟨pb,poff,hpb⟩:=hbx
 unfold maxLen at hcm
 clear hx hS hT hSx hSp hSg hJ hY h0 hW
 refine callsIn_of_wp Tryz.func116 rfl trivial ?_ rfl
 simp only [Tryz.ntmps116,List.size_toArray,List.length_cons,List.length_nil,Nat.reduceAdd,Nat.reduceSub,Array.replicate_succ,Array.replicate_zero,List.push_toArray,List.append_toArray,List.nil_append,List.cons_append]
 gi_wp2
 gi_loopw [3] (fun i wr=>∃ (j:Nat) (pre:List Yl),i=.int .i64 (j:Nat)∧j≤n∧Hid (zsY pre=j∧7*pre.length≤j∧J pre wr∧KpS S W wr)) (fun i _=>n-(intOf i).toNat)
 case atStart=>exact⟨0,[],rfl,Nat.zero_le _,hid ⟨rfl,Nat.zero_le _,HJ0.out,KpS.refl _ _⟩⟩
 case round =>
  obtain⟨j,pre,rfl,hj,HR⟩:=hrel
  obtain⟨x1,hsl,htb⟩:=HX.out wr HR.out.2.2.2
  by_cases hlt:j<n
  · have hlt':(j:Int)<n:=by omega
    have hp:=hpb (by omega)
    subst hp
    have hd:Sl wr (some ⟨pb,poff+j,none⟩) (n-j) (c-j) (B.drop j):=by
     have:=q1c hsl j (n-j) (by omega)
     rwa [List.take_of_length_le (by rw [List.length_drop,HLN.out];omega)] at this
    have hnx:=callsIn_wide (n:=4).2 (next_any _ _ _ (B.drop j) wr hd (by omega) (by omega) htb)
    have HNX:=hid hnx
    clear hd hnx hsl htb
    gi_wp2
    refine⟨trivial,HNX.out.mono ?_⟩
    rintro e w1 ⟨q,cq,rfl,hs1,hb1,_,_⟩
    have hJ1:=HJ.out pre wr w1 none HR.out.2.2.1 ⟨hb1.os,hb1.tape,hb1.output,hb1.size,fun k hk _=>hb1.block k hk⟩ (fun r e=>by cases e)
    have HK1:Hid (KpS S W w1):=hid (HR.out.2.2.2.trans (KpS.of_below hb1))
    have HZ:=HR.out.1
    have HF:=hid HR.out.2.1
    obtain⟨x,hxx⟩:∃ x:Yl,x=⟨q,cq,q1e (B.drop j),z9l (B.drop j),nE (B.drop j)⟩:=⟨_,rfl⟩
    have hte:TellY B pre x w1:=by
     rw [hxx]
     exact⟨hs1,by rw [HLN.out];omega,by rw [HZ],by rw [HZ],by rw [HZ]⟩
    have hlen:pre.length<n:=by have:=HF.out;omega
    obtain⟨fn,tmps,assign,body,hy,hR⟩:=HY.out pre x w1 hJ1 hte hlen
    have hzz:nE (B.drop j)=0→7≤z9l (B.drop j)∧j+z9l (B.drop j)≤n:=fun h=>by
     have h1:=z7c h
     rw [List.length_drop,HLN.out] at h1
     have h2:z9l (B.drop j)=6+nN (B.drop j):=if_pos h
     omega
    have HZZ:=hid hzz
    have HXX:=hid hxx
    rw [hxx] at hy
    dsimp only [encY] at hy
    clear hs1 hb1 hJ1 hte hzz hxx x1 HR HNX
    have HZ0:=hid HZ
    clear HZ
    generalize q1e (B.drop j)=P at *
    generalize z9l (B.drop j)=z at *
    generalize nE (B.drop j)=er at *
    by_cases he:er=0
    · obtain⟨z7,zn⟩:=HZZ.out he
      have HE:=hid he
      subst he
      clear hpb
      gi_wp2
      refine hR.mono ?_
      rintro e W3 (⟨rfl,hJ4,hk4⟩ | ⟨rfl,hJx4⟩)
      · have HREL:Hid (zsY (pre ++ [x])=j+z∧7*(pre ++ [x]).length≤j+z∧J (pre ++ [x]) W3∧KpS S W W3):=hid ⟨by rw [q0c,HZ0.out,HXX.out],by rw [List.length_append,List.length_singleton];have:=HF.out;omega,hJ4,HK1.out.trans hk4⟩
        clear hJ4 hk4 hR hy
        gi_wp2
        go_roundw
        case rel=>exact⟨j+z,pre ++ [x],by go_num,by omega,HREL⟩
        case measure=>simp [intOf];omega
      · have HX4:=hid hJx4
        clear hJx4 hR hy
        gi_wp2
        refine bodyPost_ret (results_none rfl _ _ _) rfl ?_
        exact⟨⟨_,rfl⟩,.inr ⟨pre ++ [x],trivial,HX4.out⟩⟩
    · have d1:(er != 0)=true:=by simpa using he
      have d2:(er==0)=false:=by simpa using he
      have d3:decide (er=0)=false:=by simpa using he
      clear hpb
      have HE:=hid he
      clear he
      gi_wp2
      refine hR.mono ?_
      rintro e W3 (⟨rfl,hJ4,hk4⟩ | ⟨rfl,hJx4⟩)
      · have HX4:Hid (∃ xs,q3e B xs∧J xs W3):=hid ⟨pre ++ [x],.inr ⟨x,List.mem_append_right _ (List.mem_singleton.2 rfl),by rw [HXX.out];exact HE.out⟩,hJ4⟩
        clear hJ4 hk4 hR hy
        gi_wp2
        refine bodyPost_ret (results_none rfl _ _ _) rfl ?_
        exact⟨⟨_,rfl⟩,.inl HX4.out⟩
      · have HX4:=hid hJx4
        clear hJx4 hR hy
        gi_wp2
        refine bodyPost_ret (results_none rfl _ _ _) rfl ?_
        exact⟨⟨_,rfl⟩,.inr ⟨pre ++ [x],trivial,HX4.out⟩⟩
  · obtain rfl:n=j:=by omega
    have HX4:Hid (∃ xs,q3e B xs∧J xs wr):=hid ⟨pre,.inl (by rw [HR.out.1,HLN.out];exact Nat.le_refl _),HR.out.2.2.1⟩
    clear hsl htb HR
    gi_wp2
    go_end0
    exact⟨⟨_,rfl⟩,.inl HX4.out⟩
end
end Go.Proofs.YtfdgnniicjdjdaaGreatDoor
