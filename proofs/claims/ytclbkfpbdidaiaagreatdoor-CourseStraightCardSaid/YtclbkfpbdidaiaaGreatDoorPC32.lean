import Derived.Test.YtclbkfpbdidaiaaGreatDoorPC20
import Derived.Sort.QuietIn
import Derived.RangeFuncNested
import Derived.RangeFuncBound
import Derived.LoopIn
namespace Go.Proofs.YtclbkfpbdidaiaaGreatDoor
open Go.Lib (hid)
set_option maxHeartbeats 2000000
open Go.RowKit Go.ChangeShapes Go.WideShapes
set_option linter.unusedVariables false
section
attribute [local go_sem] Oper.semAt_some
structure KpS (S:Nat→Prop) (W W':World):Prop where
 size:W.heap.size≤W'.heap.size
 same:∀ k o,S k→W.heap[k]?=some o→o.isCells=true→W'.heap[k]?=some o
theorem kpS_t {S:Nat→Prop} {A B C:World} (h:KpS S A B) (k:KpS S B C):KpS S A C:=⟨Nat.le_trans h.size k.size,fun i o hi ho hc=>k.same i o hi (h.same i o hi ho hc) hc⟩
theorem kpS_b {S:Nat→Prop} {w:World} (W:World) (l:Nat) (o o':Obj) (hl:w.heap.size≤l) (h:W.heap[l]?=some o) (hc:o.isCells=false) (_:o.isWalk=false):KpS S W (W.putObj l o') :=
 ⟨by simp,fun k ob hk hob hcb=>(World.putObj_heap_other (fun e=>by subst e;rw [h] at hob;cases hob;rw [hc] at hcb;cases hcb)).trans hob⟩
theorem cells_block {w:World} {b i:Nat} {v:Value} (h:w.cell? ⟨b,i,none⟩=some v):∃ c t fr,w.heap[b]?=some (.cells c t fr):=by
 cases ho:w.heap[b]? with
 | none=>simp [World.cell?,ho] at h
 | some o=>cases o <;> simp [World.cell?,ho] at h ⊢
abbrev encO (o:O):Value:=.agg #[.int .u8 o.1.1,.int .u8 o.1.2.1,.int .u8 o.1.2.2,.int .i64 o.2]
def dn (n t:Nat):List Nat:=(List.range' t (n-t)).reverse
theorem dn_start (n:Nat):dn n n=[]:=by simp [dn]
theorem dn_step (n j:Nat) (h:j<n):dn n j=dn n (j+1) ++ [j]:=by
 unfold dn
 rw [show n-j=(n-(j+1))+1 by omega,List.range'_succ,List.reverse_cons]
theorem dn_len (n t:Nat):(dn n t).length=n-t:=by simp [dn]
theorem dn_mem (n t j:Nat):j∈dn n t ↔ t≤j∧j<n:=by
 unfold dn
 rw [List.mem_reverse,List.mem_range'_1]
 omega
theorem backward_any (p:Option Addr) (n c:Nat) (w:World) :
 Calls Tryz.prog 144 #[.slice p n c] w fun e w'=>e=.returned (.func (.func 153) #[] #[.pointer (some ⟨w.heap.size,0,none⟩)])∧w'=w.alloc (.cells #[.slice p n c] 44):=by
 go_enter Tryz.func144,Tryz.ntmps144
 go_wp2_with fail
 go_ret
 exact⟨rfl,rfl⟩
set_option maxRecDepth 100000 in
theorem back_stops (Bx:Nat) (p:Option Addr) (n c:Nat) (L:List O) (w:World) (hx:Boxed w Bx 44 (.slice p n c)) (hL:OL w p n c L) (hn:n≤100000) :
 SeqStopsK Fence.wide 5 Tryz.prog 153 #[.pointer (some ⟨Bx,0,none⟩)] (fun j:Nat=>#[.int .i64 (j:Nat),encO (L.getD j o0)]) (KpS (fun k=>k=Bx∨∃ a,p=some a∧a.block=k)) (fun xs=>xs=dn n 0) (fun pre=>∃ t,pre=dn n t) n w:=fun l J Jx W hW hJ _ hY h0=>by
 have hxW:Boxed W Bx 44 (.slice p n c):=z0b hx hW
 have HLW:=hid (hL.later hW)
 have hcap:=hL.cap
 have HY:=hid hY
 have HJ0:=hid h0
 clear hx hL hY h0 hW hJ
 refine callsIn_of_wp Tryz.func153 rfl trivial ?_ rfl
 simp only [Tryz.ntmps153,List.size_toArray,List.length_cons,List.length_nil,Nat.reduceAdd,Nat.reduceSub,Array.replicate_succ,Array.replicate_zero,List.push_toArray,List.append_toArray,List.nil_append,List.cons_append]
 have x0:=hxW.cell
 gi_wp2
 gi_loopw [3] (fun i wr=>∃ t:Nat,t≤n∧i=.int .i64 ((t:Int)-1)∧Boxed wr Bx 44 (.slice p n c)∧Hid (OL wr p n c L)∧Hid (J (dn n t) wr)) (fun i _=>(intOf i+1).toNat)
 case atStart=>exact⟨n,Nat.le_refl _,rfl,hxW,HLW,by rw [dn_start];exact HJ0⟩
 case round =>
  obtain⟨t,ht,rfl,hb,HL2,HJ2⟩:=hrel
  by_cases h0:t=0
  · subst h0
    have hd:decide (0≤((0:Nat):Int)-1)=false:=by decide
    gi_wp2
    go_end0
    exact⟨⟨_,rfl⟩,.inl HJ2.out⟩
  · obtain⟨j,rfl⟩:∃ j,t=j+1:=⟨t-1,by omega⟩
    have hlt:j<n:=by omega
    have hlt':(j:Int)<n:=by omega
    obtain⟨b,off,rfl,hbl,c0,c1,c2,c3⟩:=z9z HL2.out hlt
    have y0:=hb.cell
    obtain⟨fn,tmps,assign,body,hy,hR⟩:=HY.out (dn n (j+1)) j wr HJ2.out (by rw [dn_len];omega)
    dsimp only [encO] at hy
    have HDN:=hid (dn_step n j hlt)
    obtain⟨cs,ty,fr,ho⟩:=cells_block c0
    have HO:=hid ho
    have HB:=hid hb
    have HR:=hid hR
    clear ho hb x0 hxW hR
    generalize L.getD j o0=x at *
    gi_wp2
    refine HR.out.mono ?_
    rintro e W3 (⟨rfl,hJ3,hk3⟩ | ⟨rfl,hJx⟩)
    · have HJ3:=hid hJ3
      have HK3:=hid hk3
      clear hJ3 hk3
      gi_wp2
      go_roundw
      case rel=>exact⟨j,by omega,by go_num,HK3.out.same Bx _ (.inl rfl) HB.out rfl,hid (HL2.out.turn HK3.out.size fun _ a ha _=>by cases ha;exact (HK3.out.same b _ (.inr ⟨_,rfl,rfl⟩) HO.out rfl).trans HO.out.symm),by rw [HDN.out];exact HJ3⟩
      case measure=>simp [intOf]
    · have HJX:=hid hJx
      clear hJx
      gi_wp2
      refine bodyPost_ret (results_none rfl _ _ _) rfl ?_
      exact⟨⟨_,rfl⟩,.inr ⟨_,⟨j,HDN.out.symm⟩,HJX.out⟩⟩
end
end Go.Proofs.YtclbkfpbdidaiaaGreatDoor
