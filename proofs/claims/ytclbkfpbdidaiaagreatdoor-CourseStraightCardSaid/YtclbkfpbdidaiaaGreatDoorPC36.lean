import Derived.Test.YtclbkfpbdidaiaaGreatDoorPC00
import Derived.Maps.OwnSet
namespace Go.Proofs.YtclbkfpbdidaiaaGreatDoor
open Go.RowKit Go.ChangeShapes Go.WideShapes Go.Maps
set_option linter.unusedVariables false
structure Turn (S:Nat→Prop) (W W':World):Prop where
 os:W'.os=W.os
 tape:W'.tape=W.tape
 output:W'.output=W.output
 size:W.heap.size≤W'.heap.size
 block:∀ k,k<W.heap.size→¬ S k→W'.heap[k]?=W.heap[k]?
theorem Turn.trans {S S':Nat→Prop} {A B C:World} (h:Turn S A B) (g:Turn S' B C) (hs:∀ k,k<A.heap.size→S' k→S k):Turn S A C :=
 ⟨g.os.trans h.os,g.tape.trans h.tape,g.output.trans h.output,Nat.le_trans h.size g.size,fun k hk hn=>(g.block k (Nat.lt_of_lt_of_le hk h.size) (fun e=>hn (hs k hk e))).trans (h.block k hk hn)⟩
theorem Turn.of_below {S:Nat→Prop} {W W':World} (h:Below W.heap.size W W'):Turn S W W':=⟨h.os,h.tape,h.output,h.size,fun k hk _=>h.block k hk⟩
theorem Turn.of_grown {S:Nat→Prop} {W W':World} {row:Option Nat} (h:W.grownBy W' row) (hr:∀ k,row=some k→S k):Turn S W W':=⟨h.os,h.tape,h.output,h.size,fun k hk hn=>h.block k hk (fun e=>hn (hr k e.symm))⟩
theorem Turn.below {S:Nat→Prop} {n:Nat} {W W':World} (h:Turn S W W') (hn:n≤W.heap.size) (hs:∀ k,S k→n≤k):Below n W W':=⟨h.os,h.tape,h.output,h.size,fun k hk=>h.block k (by omega) (fun e=>by have:=hs k e;omega)⟩
theorem Turn.drew {S:Nat→Prop} {W W':World} (h:Turn S W W'):Turn S W W'.drew:=⟨h.os,h.tape,h.output,h.size,h.block⟩
theorem ownsMap_tight {H:Type} {P:Program} {k:TypeId} {R:Value→Option (DataW H × List MemPlace)} {w:World} {b n:Nat} {D:DataW H} (h:w.ownsMap P k R b n D):w.ownsMap P k R b (Maps.size D) D:=by
 obtain⟨es,clock,hb,F,hs,rfl⟩:=h
 exact⟨es,clock,hb,F,by simp [Maps.size,length_sorted],rfl⟩
theorem ownsMap_turn {H:Type} {P:Program} {k:TypeId} {R:Value→Option (DataW H × List MemPlace)} {w W:World} {b nn:Nat} {D:DataW H} {S:Nat→Prop} (hown:w.ownsMap P k R b nn D) (hW:Turn S w W) (hn:¬ S b):W.ownsMap P k R b nn D:=by
 have hbl:=hown.lt
 obtain⟨es,clock,hb,Ft,hs,hD⟩:=hown
 exact⟨es,clock,(hW.block b hbl hn).trans hb,Ft,hs,hD⟩
end Go.Proofs.YtclbkfpbdidaiaaGreatDoor
