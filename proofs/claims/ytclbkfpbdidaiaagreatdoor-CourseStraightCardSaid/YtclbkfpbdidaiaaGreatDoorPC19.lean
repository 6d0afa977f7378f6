import Derived.Test.YtclbkfpbdidaiaaGreatDoorRows
import Derived.WalkKit
import Derived.Deep.OwnRows
import Derived.Lib.Hide
namespace Go.Proofs.YtclbkfpbdidaiaaGreatDoor
open Go.RowKit Go.ChangeShapes Go.WideShapes Go.Deep
set_option linter.unusedVariables false
set_option maxRecDepth 10000
section
variable {α:Type} {enc:α→List Value} {k:Nat} {d:α}
def z0n (enc:α→List Value) (L:List α):List Value:=L.flatMap enc
theorem z1m (hk:∀ x,(enc x).length=k):∀ L:List α,(z0n enc L).length=L.length*k
 | []=>by simp [z0n]
 | x::L=>by
  have:=z1m hk L
  unfold z0n at *
  rw [List.flatMap_cons,List.length_append,this,List.length_cons,hk,Nat.add_mul]
  omega
theorem z1d (L M:List α):z0n enc (L++M)=z0n enc L++z0n enc M:=List.flatMap_append ..
theorem z3p (x:α):z0n enc [x]=enc x:=by simp [z0n]
theorem z6g (hk:∀ x,(enc x).length=k):∀ (L:List α) (j i:Nat),j<L.length→i<k→(z0n enc L)[j*k+i]?=(enc (L.getD j d))[i]?
 | x::L,0,i,_,hi=>by
  unfold z0n
  rw [List.flatMap_cons,List.getElem?_append_left (by rw [hk];omega)]
  simp
 | x::L,j+1,i,hj,hi=>by
  have ih:=z6g hk L j i (by simpa using hj) hi
  unfold z0n at *
  rw [List.flatMap_cons,List.getElem?_append_right (by rw [hk,Nat.add_mul];omega),hk]
  rw [show (j+1)*k+i-k=j*k+i by rw [Nat.add_mul];omega]
  simpa using ih
theorem z1n {p:Value→Prop} (h:∀ x,∀ u∈enc x,p u) (L:List α):∀ u∈z0n enc L,p u:=by
 intro u hu
 obtain⟨x,_,hx⟩:=List.mem_flatMap.1 hu
 exact h x u hx
structure SlG (enc:α→List Value) (k:Nat) (d:α) (w:World) (p:Option Addr) (n c:Nat) (L:List α):Prop where
 len:L.length=n
 cap:n≤c
 max:c≤maxLen
 nil:p=none→c=0
 cell:0<n→∃ b off,p=some ⟨b,off,none⟩∧b<w.heap.size∧∀ j,j<n→∀ i v,(enc (L.getD j d))[i]?=some v→w.cell? ⟨b,off+j*k+i,none⟩=some v
theorem SlG.turn {w w':World} {p:Option Addr} {n c:Nat} {L:List α} (h:SlG enc k d w p n c L) (hs:w.heap.size≤w'.heap.size) (hb:0<n→∀ a,p=some a→a.block<w.heap.size→w'.heap[a.block]?=w.heap[a.block]?):SlG enc k d w' p n c L:=by
 refine⟨h.len,h.cap,h.max,h.nil,fun h0=>?_⟩
 obtain⟨b,off,rfl,hlt,hc⟩:=h.cell h0
 have he:=hb h0 _ rfl hlt
 exact⟨b,off,rfl,Nat.lt_of_lt_of_le hlt hs,fun j hj i v hv=>(World.cell?_of_block (a:=⟨b,off+j*k+i,none⟩) he).trans (hc j hj i v hv)⟩
theorem SlG.later {w w':World} {p:Option Addr} {n c:Nat} {L:List α} (h:SlG enc k d w p n c L) (hb:Below w.heap.size w w'):SlG enc k d w' p n c L :=
 h.turn hb.size fun _ a _ hlt=>hb.block a.block hlt
theorem SlG.empty (w:World):SlG enc k d w none 0 0 []:=⟨rfl,Nat.le_refl _,by unfold maxLen;omega,fun _=>rfl,fun h=>by omega⟩
theorem SlG.take {w:World} {p:Option Addr} {n c:Nat} {L:List α} (h:SlG enc k d w p n c L) (m:Nat) (hm:m≤n):SlG enc k d w p m c (L.take m):=by
 refine⟨by rw [List.length_take,h.len];omega,Nat.le_trans hm h.cap,h.max,h.nil,fun h0=>?_⟩
 obtain⟨b,off,hp,hlt,hc⟩:=h.cell (by omega)
 refine⟨b,off,hp,hlt,fun j hj i v hv=>hc j (by omega) i v ?_⟩
 have e:(L.take m).getD j d=L.getD j d:=by rw [List.getD,List.getD,List.getElem?_take,if_pos hj]
 rwa [e] at hv
theorem SlG.of_own {w:World} {B:Nat} {T:TypeId} {v:Value} {n:Nat} {L:List α} (hk:∀ x,(enc x).length=k) (hk0:0<k) (h:w.ownsRow B T k v n (z0n enc L)):∃ p c,v=.slice p n c∧SlG enc k d w p n c L∧∀ a,p=some a→B≤a.block:=by
 have hl:L.length=n:=by
  have h1:=h.1
  rw [z1m hk] at h1
  exact Nat.eq_of_mul_eq_mul_right hk0 h1
 rcases h.2 with ⟨rfl,rfl⟩ | ⟨g,cap,cur,rfl,h1,h2,h3,h4,h5,h6⟩
 · obtain rfl:L=[]:=List.eq_nil_of_length_eq_zero hl
   exact⟨_,_,rfl,SlG.empty w,fun a ha=>by cases ha⟩
 · refine⟨_,_,rfl,⟨hl,h3,h4,(fun hn=>by cases hn),fun h0=>⟨g,0,rfl,(Array.getElem?_eq_some_iff.1 h2).1,fun j hj i v hv=>?_⟩⟩,fun a ha=>by cases ha;exact h1⟩
   have hi:i<k:=by
    rw [← hk (L.getD j d)]
    exact (List.getElem?_eq_some_iff.1 hv).1
   have hlt:j*k+i<n*k:=by
    have:=Nat.mul_le_mul_right k (show j+1≤n from hj)
    rw [Nat.add_mul] at this
    omega
   rw [Nat.zero_add,h.cellAt (j*k+i) hlt,z6g hk L j i (by omega) hi,hv]
structure FillG (enc:α→List Value) (k:Nat) (T:TypeId) (W wr:World) (v:Value) (L:List α) (N:Nat):Prop where
 own:wr.ownsRow W.heap.size T k v L.length (z0n enc L)
 below:Below W.heap.size W wr
 most:L.length≤N
variable {T:TypeId}
theorem FillG.nil (W:World):FillG enc k T W W (.slice none 0 0) [] 0:=⟨World.ownsRow_nil _ _ _ _,Below.refl _ _,Nat.le_refl _⟩
theorem FillG.step {W wr w':World} {v v':Value} {L:List α} {N:Nat} {x:α} (h:FillG enc k T W wr v L N) (o:Obj) (h1:w'.ownsRow W.heap.size T k v' (L.length+1) (z0n enc (L ++ [x]))) (h2:(wr.alloc o).grownBy w' v.ownBlock):FillG enc k T W w' v' (L ++ [x]) (N+1):=by
 refine⟨by simpa using h1,(h.below.alloc h.below.size o).grown h2 ?_ fun j hj=>(h.own.lt j hj).1,?_⟩
 · have:=h.below.size
   simp
   omega
 · have:=h.most
   simp
   omega
theorem FillG.later {W wr w':World} {v:Value} {L:List α} {N:Nat} (h:FillG enc k T W wr v L N) (hb:Below wr.heap.size wr w'):FillG enc k T W w' v L N:=by
 refine⟨⟨h.own.1,?_⟩,h.below.trans (hb.mono h.below.size),h.most⟩
 rcases h.own.2 with hn | ⟨g,cap,cur,rfl,h1,h2,h3⟩
 · exact .inl hn
 · exact .inr ⟨g,cap,cur,rfl,h1,(hb.block g (Array.getElem?_eq_some_iff.1 h2).1).trans h2,h3⟩
theorem FillG.mono {W wr:World} {v:Value} {L:List α} {N M:Nat} (h:FillG enc k T W wr v L N) (hn:N≤M):FillG enc k T W wr v L M:=⟨h.own,h.below,Nat.le_trans h.most hn⟩
def GivesG (enc:α→List Value) (k:Nat) (d:α) (W:World) (L:List α) (e:Ending) (w':World):Prop:=∃ p c,e=.returned (.slice p L.length c)∧SlG enc k d w' p L.length c L∧Below W.heap.size W w'∧∀ a,p=some a→W.heap.size≤a.block
theorem FillG.gives {W wr:World} {v:Value} {L:List α} {N:Nat} (hk:∀ x,(enc x).length=k) (hk0:0<k) (h:FillG enc k T W wr v L N):GivesG enc k d W L (.returned v) wr:=by
 obtain⟨p,c,rfl,hs,hp⟩:=SlG.of_own (d:=d) hk hk0 h.own
 exact⟨p,c,rfl,hs,h.below,hp⟩
end
theorem wpList_append_g {α:Type} {enc:α→List Value} {k:Nat} (hk:∀ x,(enc x).length=k) (h1:∀ x,∀ u∈enc x,u.oneCell'=true) (hk0:0<k) {P:Program} {w:World} {ops:Array Oper} {rest:List Oper} {o:Oper} {a:Act} {Q:Exit→Act→World→Prop} (hgd:o.guard=none) (s x:Operand) (S T:TypeId)
 (ho:o.op=.call { callee:=.builtin .append,args:=#[s,x],argTypes:=#[S,S] }) (hu:P.underlying S=some (.slice T)) (z:Value) (bytes:Nat) (hinfo:(P.info? T).map (fun i=>(i.zero,i.size,i.bytes))=some (some z,k,bytes)) (hz:z.cells.size=k) (hb:bytes≤1000)
 (base:Nat) (v:Value) (n:Nat) (L:List α) (hs:a.eval s=v) (hr:w.ownsRow base T k v n (z0n enc L)) (hn:n≤1000000) (e:α) (B:Nat)
 (hx:a.eval x=.slice (some ⟨B,0,none⟩) 1 1) (hc:∀ i u,(enc e)[i]?=some u→w.cell? ⟨B,i,none⟩=some u) (hbase:base≤w.heap.size)
 (h:∀ v' w',w'.ownsRow base T k v' (n+1) (z0n enc (L ++ [e]))→w.grownBy w' v.ownBlock→wpList P ops Q rest (a.put o.dst v') w'):wpList P ops Q (o::rest) a w:=by
 obtain⟨i,hi,hz0,hz1,hz2⟩:=info_parts hinfo
 refine wpList_append_own w hgd s x S ho base T i z k bytes hu hi hz0 hz1 hz2 hz hk0 v n (z0n enc L) hs hr ⟨B,0,none⟩ 1 1 (enc e) hx (by rw [hk];omega)
  (fun j u hu=>?_) (h1 e) (by unfold maxLen;omega) ?_ hbase ?_
 · rw [Go.WideShapes.add_plain,Nat.zero_add]
   exact hc j u hu
 · have:=Nat.mul_le_mul (show n+1≤1000001 by omega) hb
   omega
 · intro v' w' g1 g2 _
   refine h v' w' ?_ g2
   rw [z1d,z3p]
   exact g1
end Go.Proofs.YtclbkfpbdidaiaaGreatDoor
