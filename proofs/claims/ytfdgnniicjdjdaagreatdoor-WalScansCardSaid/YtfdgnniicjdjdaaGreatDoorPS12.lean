import Derived.Test.YtfdgnniicjdjdaaGreatDoorPS03
import Derived.Maps.AppendAt
import Derived.Laws.AppendOwnNone
namespace Go.Proofs.YtfdgnniicjdjdaaGreatDoor
open Go.RowKit Go.ChangeShapes Go.WideShapes
set_option linter.unusedVariables false
set_option maxRecDepth 10000
set_option linter.unusedSimpArgs false
structure RowB (w:World) (v:Value) (n:Nat) (L:List Int):Prop where
 len:L.length=n
 own:w.ownsRow 0 5 1 v n (vB L)
theorem RowB.bound {w:World} {v:Value} {n:Nat} {L:List Int} (h:RowB w v n L):∀ k,v.ownBlock=some k→k<w.heap.size:=fun k hk=>(h.own.lt k hk).2
theorem RowB.keep {w w':World} {v:Value} {n:Nat} {L:List Int} {S:Nat→Prop} (h:RowB w v n L) (hc:Chg S w w') (hs:∀ k,v.ownBlock=some k→¬ S k):RowB w' v n L:=by
 have hb:∀ k,v.ownBlock=some k→w'.heap[k]?=w.heap[k]?:=fun k hk=>hc.block k (h.bound k hk) (hs k hk)
 refine⟨h.len,h.own.1,?_⟩
 rcases h.own.2 with hn | ⟨g,cap,cur,rfl,h1,h2,h3⟩
 · exact .inl hn
 · exact .inr ⟨g,cap,cur,rfl,h1,by rw [hb g rfl];exact h2,h3⟩
theorem RowB.later {w w':World} {v:Value} {n:Nat} {L:List Int} (h:RowB w v n L) (hb:Below w.heap.size w w'):RowB w' v n L:=h.keep (Chg.of_below (S:=fun _=>False) hb) fun _ _ h=>h
theorem RowB.nil (w:World):RowB w (.slice none 0 0) 0 []:=⟨rfl,World.ownsRow_nil _ _ _ _⟩
theorem RowB.fresh {w:World} {g c:Nat} {cur:Array Value} (h:w.heap[g]?=some (.cells cur 5 (0,0))) (hc:cur.size=c) (hm:c≤maxLen):RowB w (.slice (some ⟨g,0,none⟩) 0 c) 0 [] :=
 ⟨rfl,rfl,.inr ⟨g,c,cur,rfl,Nat.zero_le _,h,Nat.zero_le _,hm,by omega,by simp [vB]⟩⟩
theorem RowB.take {w:World} {p:Option Addr} {n c:Nat} {L:List Int} (h:RowB w (.slice p n c) n L) {m:Nat} (hm:m≤n):RowB w (.slice p m c) m (L.take m):=by
 have hl:=h.len
 refine⟨by rw [List.length_take];omega,by rw [z7g,List.length_take];omega,?_⟩
 rcases h.own.2 with ⟨h1,h2⟩ | ⟨g,cap,cur,h1,h2,h3,h4,h5,h6,h7⟩
 · cases h1
   obtain rfl:m=0:=by omega
   exact .inl ⟨rfl,rfl⟩
 · cases h1
   refine .inr ⟨g,c,cur,rfl,h2,h3,by omega,h5,h6,?_⟩
   rw [← vB_take,← h7,List.take_take]
   congr 1
   omega
theorem RowB.sl {w:World} {v:Value} {n:Nat} {L:List Int} (h:RowB w v n L):∃ p c,v=.slice p n c∧BL w p n c L∧(∀ a,p=some a→v.ownBlock=some a.block)∧(0<n→∃ g,p=some ⟨g,0,none⟩):=by
 rcases h.own.2 with ⟨rfl,rfl⟩ | ⟨g,cap,cur,rfl,_,h2,h3,h4,h5,h6⟩
 · obtain rfl:L=[]:=List.eq_nil_of_length_eq_zero h.len
   exact⟨_,_,rfl,SlG.empty w,(fun a ha=>by cases ha),fun h=>by omega⟩
 · refine⟨_,_,rfl,BL.mk h.len h3 h4 (fun hn=>by cases hn) fun h0=>⟨g,0,rfl,z0g h2,fun j hj=>?_⟩,(fun a ha=>by cases ha;rfl),fun _=>⟨g,rfl⟩⟩
   rw [Nat.zero_add,h.own.cellAt j (by omega),q2v _ _ (by rw [h.len];exact hj)]
theorem RowB.bl {w:World} {p:Option Addr} {n c:Nat} {L:List Int} (h:RowB w (.slice p n c) n L):BL w p n c L:=by
 obtain⟨p',c',he,hb,_⟩:=h.sl
 cases he
 exact hb
theorem BL.drop {w:World} {p:Option Addr} {n c:Nat} {L:List Int} (h:BL w p n c L) (k:Nat) (hk:k≤n) (q:Option Addr) (hq:k<n→∀ b off,p=some ⟨b,off,none⟩→q=some ⟨b,off+k,none⟩) (hn:q=none→c=k):BL w q (n-k) (c-k) (L.drop k):=by
 have hl:=h.len
 refine BL.mk (by rw [List.length_drop];omega) (by have:=h.cap;omega) (by have:=h.max;omega) (fun e=>by have:=hn e;omega) fun h0=>?_
 obtain⟨b,off,rfl,hlt,hc⟩:=h.at (by omega)
 refine⟨b,off+k,hq (by omega) b off rfl,hlt,fun j hj=>?_⟩
 rw [Nat.add_assoc,hc (k+j) (by omega),List.getD,List.getD,List.getElem?_drop]
theorem run_append_rb {w:World} {v:Value} {n:Nat} {L:List Int} (hr:RowB w v n L) {p:Option Addr} {m c:Nat} {M:List Int} (hM:BL w p m c M) (hbig:n+m≤1000000) (ty:TypeId) :
 ∃ p' c' w',(Builtin.append_ #[33,33] ty #[v,.slice p m c]).run Tryz.prog w=.ok (.slice p' (n+m) c') w'∧RowB w' (.slice p' (n+m) c') (n+m) (L++M)∧Chg (fun k=>v.ownBlock=some k) w w' ∧
  (∀ k,(Value.slice p' (n+m) c').ownBlock=some k→v.ownBlock=some k∨w.heap.size≤k)∧(p'=none→m=0∧v=.slice none 0 0):=by
 obtain⟨i,hi,hz0,hz1,hz2⟩:=info_parts q0q
 cases p with
 | none =>
  obtain rfl:=hM.nil rfl
  obtain rfl:m=0:=Nat.le_zero.1 hM.cap
  obtain rfl:M=[]:=List.eq_nil_of_length_eq_zero hM.len
  obtain⟨p',c',rfl,hb,_,_⟩:=hr.sl
  have hrun:=run_append_owned_none (P:=Tryz.prog) (w:=w) 0 33 ty 5 i 1 Tryz.underlying33 hi (.slice p' n c') n (vB L) hr.own
  refine⟨p',c',w,hrun,?_,Chg.refl _ _,fun k hk=>.inl hk,fun e=>?_⟩
  · rw [List.append_nil,Nat.add_zero];exact hr
  · have:=hb.nil e
    have:=hb.cap
    subst e
    refine⟨rfl,?_⟩
    congr 1 <;> omega
 | some ad =>
  have hnews:∀ j u,(vB M)[j]?=some u→w.cell? (ad.add j)=some u:=by
   intro j u hu
   have hj:j<m:=by
    rcases Nat.lt_or_ge j m with h | h
    · exact h
    · rw [List.getElem?_eq_none (by rw [z7g,hM.len];exact h)] at hu;cases hu
   obtain⟨b,off,hp,_,hc⟩:=hM.at (by omega)
   cases hp
   rw [Go.WideShapes.add_plain,hc j hj,← hu,q2v M j (by rw [hM.len];exact hj)]
  obtain⟨v',w',hrun,h1,h2,h3,h4⟩:=run_append_own_at (P:=Tryz.prog) w 0 33 ty 5 i (.int .u8 0) 1 1 Tryz.underlying33 hi hz0 hz1 hz2 rfl (by decide) v n (vB L) hr.own ad m c (vB M) (by rw [z7g,hM.len,Nat.mul_one]) hnews (vB_one M) (by unfold maxLen;omega) (by omega) (Nat.zero_le _)
  rw [← vB_append] at h1
  have hr':RowB w' v' (n+m) (L++M):=⟨by rw [List.length_append,hr.len,hM.len],h1⟩
  obtain⟨p',c',rfl,hb',_,_⟩:=hr'.sl
  refine⟨p',c',w',hrun,hr',Chg.mono (Chg.of_grown h2) (fun k _ h=>h),fun k hk=>?_,fun e=>?_⟩
  · rcases h4 with h4 | h4
    · exact .inl (h4 ▸ hk)
    · rw [h4] at hk
      cases hk
      exact .inr (Nat.le_refl _)
  · have e1:=hb'.nil e
    have e2:=hb'.cap
    subst e
    have hz:Value.slice none (n+m) c'=.slice none 0 0:=by congr 1;omega
    have:=h3.1 hz
    exact⟨this.2,this.1⟩
theorem z4g {w:World} {ops:Array Oper} {rest:List Oper} {o:Oper} {a:Act} {Q:Exit→Act→World→Prop} (hgd:o.guard=none) (s x:Operand)
 (ho:o.op=.call { callee:=.builtin .append,args:=#[s,x],argTypes:=#[33,33] })
 (v:Value) (n:Nat) (L:List Int) (hs:a.eval s=v) (hr:RowB w v n L) (p:Option Addr) (m c:Nat) (M:List Int) (hx:a.eval x=.slice p m c) (hM:BL w p m c M) (hbig:n+m≤1000000)
 (h:∀ p' c' w',RowB w' (.slice p' (n+m) c') (n+m) (L++M)→Chg (fun k=>v.ownBlock=some k) w w'→(∀ k,(Value.slice p' (n+m) c').ownBlock=some k→v.ownBlock=some k∨w.heap.size≤k)→(p'=none→m=0∧v=.slice none 0 0)→wpList Tryz.prog ops Q rest (a.put o.dst (.slice p' (n+m) c')) w') :
 wpList Tryz.prog ops Q (o::rest) a w:=by
 refine wpList_plain hgd fun K hK=>?_
 obtain⟨p',c',w',hrun,h1,h2,h3,h4⟩:=run_append_rb hr hM hbig o.type
 unfold Oper.wp execOp
 simp only [ho,resolve,invoke,builtin,Sem.run_bind,Sem.run_pure,Result.andThen_ok,List.map_toArray,List.map_cons,List.map_nil,hs,hx,hrun]
 exact hK _ _ (h p' c' w' h1 h2 h3 h4)
theorem step_append_rb {w:World} {ops:Array Oper} {o:Oper} {a:Act} {K:Act→World→Prop} {Q:Exit→Act→World→Prop} {E:Prop} (hgd:o.guard=none) (s x:Operand)
 (ho:o.op=.call { callee:=.builtin .append,args:=#[s,x],argTypes:=#[33,33] })
 (v:Value) (n:Nat) (L:List Int) (hs:a.eval s=v) (hr:RowB w v n L) (p:Option Addr) (m c:Nat) (M:List Int) (hx:a.eval x=.slice p m c) (hM:BL w p m c M) (hbig:n+m≤1000000)
 (h:∀ p' c' w',RowB w' (.slice p' (n+m) c') (n+m) (L++M)→Chg (fun k=>v.ownBlock=some k) w w'→(∀ k,(Value.slice p' (n+m) c').ownBlock=some k→v.ownBlock=some k∨w.heap.size≤k)→(p'=none→m=0∧v=.slice none 0 0)→K (a.put o.dst (.slice p' (n+m) c')) w') :
 if Region.wanted o (yielded ops a.tmps)=true then Oper.wp Tryz.prog o a w K Q else E:=by
 have hw:Region.wanted o (yielded ops a.tmps)=true:=by simp [Region.wanted,hgd]
 rw [if_pos hw]
 obtain⟨p',c',w',hrun,h1,h2,h3,h4⟩:=run_append_rb hr hM hbig o.type
 unfold Oper.wp execOp
 simp only [ho,resolve,invoke,builtin,Sem.run_bind,Sem.run_pure,Result.andThen_ok,List.map_toArray,List.map_cons,List.map_nil,hs,hx,hrun]
 exact h p' c' w' h1 h2 h3 h4
end Go.Proofs.YtfdgnniicjdjdaaGreatDoor
