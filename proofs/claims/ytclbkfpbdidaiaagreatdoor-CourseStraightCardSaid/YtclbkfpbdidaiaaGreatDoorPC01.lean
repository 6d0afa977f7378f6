import Derived.Test.YtclbkfpbdidaiaaGreatDoorPC00
import Derived.Maps.AppendAt
import Derived.Laws.AppendOwnNone
namespace Go.Proofs.YtclbkfpbdidaiaaGreatDoor
open Go.RowKit Go.ChangeShapes Go.WideShapes
set_option linter.unusedVariables false
set_option maxRecDepth 10000
set_option linter.unusedSimpArgs false
theorem z0x {w w':World} {T:TypeId} {k:Nat} {v:Value} {n:Nat} {xs:List Value} {S:Nat→Prop} (h:w.ownsRow 0 T k v n xs) (hc:Chg S w w') (hs:∀ b,v.ownBlock=some b→¬ S b):w'.ownsRow 0 T k v n xs:=by
 have hb:∀ b,v.ownBlock=some b→w'.heap[b]?=w.heap[b]?:=fun b hk=>hc.block b (h.lt b hk).2 (hs b hk)
 refine⟨h.1,?_⟩
 rcases h.2 with hn | ⟨g,cap,cur,rfl,h1,h2,h3⟩
 · exact .inl hn
 · exact .inr ⟨g,cap,cur,rfl,h1,by rw [hb g rfl];exact h2,h3⟩
theorem run_append_vals {w:World} {T S ty:TypeId} {k bytes:Nat} {z:Value} (hk0:0<k) (hu:Tryz.prog.underlying S=some (.slice T)) (hinfo:(Tryz.prog.info? T).map (fun i=>(i.zero,i.size,i.bytes))=some (some z,k,bytes)) (hz:z.cells.size=k) (hby:bytes≤1000)
 {v:Value} {n:Nat} {xs:List Value} (hr:w.ownsRow 0 T k v n xs) {p:Option Addr} {m c:Nat} {news:List Value} (hl:news.length=m*k) (hnone:p=none→m=0∧c=0) (hnews:∀ ad,p=some ad→∀ j u,news[j]?=some u→w.cell? (ad.add j)=some u) (h1:∀ u∈news,u.oneCell'=true) (hbig:n+m≤1000000) :
 ∃ p' c' w',(Builtin.append_ #[S,S] ty #[v,.slice p m c]).run Tryz.prog w=.ok (.slice p' (n+m) c') w'∧w'.ownsRow 0 T k (.slice p' (n+m) c') (n+m) (xs++news)∧Chg (fun b=>v.ownBlock=some b) w w' ∧
  (∀ b,(Value.slice p' (n+m) c').ownBlock=some b→v.ownBlock=some b∨w.heap.size≤b):=by
 obtain⟨i,hi,hz0,hz1,hz2⟩:=info_parts hinfo
 cases p with
 | none =>
  obtain⟨rfl,rfl⟩:=hnone rfl
  obtain rfl:news=[]:=List.eq_nil_of_length_eq_zero (by omega)
  obtain⟨p',c',rfl⟩:∃ p' c',v=.slice p' n c':=by
   rcases hr.2 with ⟨rfl,rfl⟩ | ⟨g,cap,cur,rfl,_⟩
   · exact⟨_,_,rfl⟩
   · exact⟨_,_,rfl⟩
  have hrun:=run_append_owned_none (P:=Tryz.prog) (w:=w) 0 S ty T i k hu hi (.slice p' n c') n xs hr
  refine⟨p',c',w,hrun,?_,Chg.refl _ _,fun k hk=>.inl hk⟩
  rw [List.append_nil,Nat.add_zero];exact hr
 | some ad =>
  have hbb:(n+m)*bytes≤1000000*1000:=Nat.mul_le_mul hbig hby
  obtain⟨v',w',hrun,h1,h2,h3,h4⟩:=run_append_own_at (P:=Tryz.prog) w 0 S ty T i z k bytes hu hi hz0 hz1 hz2 hz hk0 v n xs hr ad m c news hl (hnews ad rfl) h1 (by unfold maxLen;omega) (by omega) (Nat.zero_le _)
  obtain⟨p',c',rfl⟩:∃ p' c',v'=.slice p' (n+m) c':=by
   rcases h1.2 with ⟨rfl,h0⟩ | ⟨g,cap,cur,rfl,_⟩
   · rw [h0];exact⟨_,_,rfl⟩
   · exact⟨_,_,rfl⟩
  refine⟨p',c',w',hrun,h1,Chg.mono (Chg.of_grown h2) (fun k _ h=>h),fun k hk=>?_⟩
  rcases h4 with h4 | h4
  · exact .inl (h4 ▸ hk)
  · rw [h4] at hk
    cases hk
    exact .inr (Nat.le_refl _)
theorem z1b {w:World} {ops:Array Oper} {o:Oper} {a:Act} {K:Act→World→Prop} {Q:Exit→Act→World→Prop} {E:Prop} {T S:TypeId} {k bytes:Nat} {z:Value} (hk0:0<k) (hu:Tryz.prog.underlying S=some (.slice T)) (hinfo:(Tryz.prog.info? T).map (fun i=>(i.zero,i.size,i.bytes))=some (some z,k,bytes)) (hz:z.cells.size=k) (hby:bytes≤1000)
 (hgd:o.guard=none) (s x:Operand) (ho:o.op=.call { callee:=.builtin .append,args:=#[s,x],argTypes:=#[S,S] })
 (v:Value) (n:Nat) (xs:List Value) (hs:a.eval s=v) (hr:w.ownsRow 0 T k v n xs) (p:Option Addr) (m c:Nat) (news:List Value) (hx:a.eval x=.slice p m c) (hl:news.length=m*k) (hnone:p=none→m=0∧c=0) (hnews:∀ ad,p=some ad→∀ j u,news[j]?=some u→w.cell? (ad.add j)=some u) (h1:∀ u∈news,u.oneCell'=true) (hbig:n+m≤1000000)
 (h:∀ p' c' w',w'.ownsRow 0 T k (.slice p' (n+m) c') (n+m) (xs++news)→Chg (fun b=>v.ownBlock=some b) w w'→(∀ b,(Value.slice p' (n+m) c').ownBlock=some b→v.ownBlock=some b∨w.heap.size≤b)→K (a.put o.dst (.slice p' (n+m) c')) w') :
 if Region.wanted o (yielded ops a.tmps)=true then Oper.wp Tryz.prog o a w K Q else E:=by
 have hw:Region.wanted o (yielded ops a.tmps)=true:=by simp [Region.wanted,hgd]
 rw [if_pos hw]
 obtain⟨p',c',w',hrun,h1,h2,h3⟩:=run_append_vals (ty:=o.type) hk0 hu hinfo hz hby hr hl hnone hnews h1 hbig
 unfold Oper.wp execOp
 simp only [ho,resolve,invoke,builtin,Sem.run_bind,Sem.run_pure,Result.andThen_ok,List.map_toArray,List.map_cons,List.map_nil,hs,hx,hrun]
 exact h p' c' w' h1 h2 h3
theorem z1i {w:World} {ops:Array Oper} {rest:List Oper} {o:Oper} {a:Act} {Q:Exit→Act→World→Prop} {T S:TypeId} {k bytes:Nat} {z:Value} (hk0:0<k) (hu:Tryz.prog.underlying S=some (.slice T)) (hinfo:(Tryz.prog.info? T).map (fun i=>(i.zero,i.size,i.bytes))=some (some z,k,bytes)) (hz:z.cells.size=k) (hby:bytes≤1000)
 (hgd:o.guard=none) (s x:Operand) (ho:o.op=.call { callee:=.builtin .append,args:=#[s,x],argTypes:=#[S,S] })
 (v:Value) (n:Nat) (xs:List Value) (hs:a.eval s=v) (hr:w.ownsRow 0 T k v n xs) (p:Option Addr) (m c:Nat) (news:List Value) (hx:a.eval x=.slice p m c) (hl:news.length=m*k) (hnone:p=none→m=0∧c=0) (hnews:∀ ad,p=some ad→∀ j u,news[j]?=some u→w.cell? (ad.add j)=some u) (h1:∀ u∈news,u.oneCell'=true) (hbig:n+m≤1000000)
 (h:∀ p' c' w',w'.ownsRow 0 T k (.slice p' (n+m) c') (n+m) (xs++news)→Chg (fun b=>v.ownBlock=some b) w w'→(∀ b,(Value.slice p' (n+m) c').ownBlock=some b→v.ownBlock=some b∨w.heap.size≤b)→wpList Tryz.prog ops Q rest (a.put o.dst (.slice p' (n+m) c')) w') :
 wpList Tryz.prog ops Q (o::rest) a w:=by
 refine wpList_plain hgd fun K hK=>?_
 obtain⟨p',c',w',hrun,h1,h2,h3⟩:=run_append_vals (ty:=o.type) hk0 hu hinfo hz hby hr hl hnone hnews h1 hbig
 unfold Oper.wp execOp
 simp only [ho,resolve,invoke,builtin,Sem.run_bind,Sem.run_pure,Result.andThen_ok,List.map_toArray,List.map_cons,List.map_nil,hs,hx,hrun]
 exact hK _ _ (h p' c' w' h1 h2 h3)
end Go.Proofs.YtclbkfpbdidaiaaGreatDoor
