import Derived.Test.YtfdgnniicjdjdaaGreatDoorPS40
import Derived.Test.YtfdgnniicjdjdaaGreatDoorPS38
namespace Go.Proofs.YtfdgnniicjdjdaaGreatDoor
open Go.Lib (hid)
set_option maxHeartbeats 4000000
open Go.RowKit Go.ChangeShapes Go.WideShapes
set_option linter.unusedVariables false
set_option maxRecDepth 10000
abbrev Eh:Type:=Int × Rv
abbrev En:Type:=Int × Rx
abbrev eh0:Eh:=(0,rz)
def ecs (h:Eh):Array Value:=#[.int .i64 h.1,.int .u8 h.2.k,.int .u32 h.2.sg,.int .u32 h.2.tx,.int .u8 h.2.st,.bool h.2.cp,.int .u8 h.2.ka,.int .u8 h.2.kb,.int .u8 h.2.kc,.int .i64 h.2.d,.int .u8 h.2.o,.int .u8 h.2.pk,.int .u32 h.2.od,.int .u8 h.2.po,.slice h.2.lp h.2.ln h.2.lcp,.slice h.2.tp h.2.tn h.2.tcp,.slice h.2.wp h.2.wn h.2.wcp,.int .u8 h.2.sk,.int .u8 h.2.fr,.int .u8 h.2.to,.int .i64 h.2.q]
def en (h:Eh):List Value:=(ecs h).toList
theorem en_len (h:Eh):(en h).length=21:=rfl
theorem en_one (h:Eh):∀ u∈en h,u.oneCell'=true:=by
 intro u hu
 have:(en h).all (·.oneCell')=true:=by simp [en,ecs,Value.oneCell']
 exact List.all_eq_true.1 this u hu
theorem en_cons (h:Eh):∀ i,i<20→(en h)[1+i]?=(rcs h.2).toList[i]?:=by
 intro i hi
 rcases (by omega:i=0∨i=1∨i=2∨i=3∨i=4∨i=5∨i=6∨i=7∨i=8∨i=9∨i=10∨i=11∨i=12∨i=13∨i=14∨i=15∨i=16∨i=17∨i=18∨i=19) with rfl | rfl | rfl | rfl | rfl | rfl | rfl | rfl | rfl | rfl | rfl | rfl | rfl | rfl | rfl | rfl | rfl | rfl | rfl | rfl <;> rfl
def Lb (r:Rv) (b:Nat):Prop:=(0<r.ln∧∃ a,r.lp=some a∧a.block=b)∨(0<r.tn∧∃ a,r.tp=some a∧a.block=b)∨(0<r.wn∧∃ a,r.wp=some a∧a.block=b)
theorem Lb.lt {w:World} {r:Rv} {L:List Ln} {T:List Tk} {M:List Ln} {b:Nat} (h:Lb r b) (hm:RvM w r L T M):b<w.heap.size:=by
 rcases h with ⟨h0,a,ha,rfl⟩ | ⟨h0,a,ha,rfl⟩ | ⟨h0,a,ha,rfl⟩
 · obtain⟨b,off,hp,hlt,_⟩:=hm.l.cell h0
   rw [ha] at hp
   cases hp
   exact hlt
 · obtain⟨b,off,hp,hlt,_⟩:=hm.t.cell h0
   rw [ha] at hp
   cases hp
   exact hlt
 · obtain⟨b,off,hp,hlt,_⟩:=hm.o.cell h0
   rw [ha] at hp
   cases hp
   exact hlt
theorem z8z {w:World} {b i:Nat} {v:Value} (h:w.cell? ⟨b,i,none⟩=some v):∃ o:Obj,w.heap[b]?=some o∧o.isCells=true:=by
 cases ho:w.heap[b]? with
 | none=>simp [World.cell?,ho] at h
 | some o=>cases o <;> simp [World.cell?,ho,Obj.isCells] at h ⊢
theorem Lb.cells {w:World} {r:Rv} {L:List Ln} {T:List Tk} {M:List Ln} {b:Nat} (h:Lb r b) (hm:RvM w r L T M):∃ o:Obj,w.heap[b]?=some o∧o.isCells=true:=by
 rcases h with ⟨h0,a,ha,rfl⟩ | ⟨h0,a,ha,rfl⟩ | ⟨h0,a,ha,rfl⟩
 · obtain⟨b,off,hp,hlt,hc⟩:=hm.l.cell h0
   rw [ha] at hp
   cases hp
   exact z8z (hc 0 h0 0 _ rfl)
 · obtain⟨b,off,hp,hlt,hc⟩:=hm.t.cell h0
   rw [ha] at hp
   cases hp
   exact z8z (hc 0 h0 0 _ rfl)
 · obtain⟨b,off,hp,hlt,hc⟩:=hm.o.cell h0
   rw [ha] at hp
   cases hp
   exact z8z (hc 0 h0 0 _ rfl)
theorem rvm_keep {w w':World} {r:Rv} {L:List Ln} {T:List Tk} {M:List Ln} (h:RvM w r L T M) (hs:w.heap.size≤w'.heap.size) (hb:∀ b,Lb r b→b<w.heap.size→w'.heap[b]?=w.heap[b]?):RvM w' r L T M :=
 ⟨h.l.turn hs fun h0 a ha hlt=>hb _ (.inl ⟨h0,a,ha,rfl⟩) hlt,h.t.turn hs fun h0 a ha hlt=>hb _ (.inr (.inl ⟨h0,a,ha,rfl⟩)) hlt,h.o.turn hs fun h0 a ha hlt=>hb _ (.inr (.inr ⟨h0,a,ha,rfl⟩)) hlt⟩
theorem Nw.lb {W:World} {r:Rv} (h:Nw W r) {b:Nat} (hb:Lb r b):W.heap.size≤b:=by
 rcases hb with ⟨_,a,ha,rfl⟩ | ⟨_,a,ha,rfl⟩ | ⟨_,a,ha,rfl⟩
 · exact h.1 a ha
 · exact h.2.1 a ha
 · exact h.2.2 a ha
def TellsE (w:World) (h:Eh) (E:En):Prop:=h.1=E.1∧∃ L T M,h.2.x L T M=E.2∧RvM w h.2 L T M
theorem TellsE.keep {w w':World} {h:Eh} {E:En} (ht:TellsE w h E) (hs:w.heap.size≤w'.heap.size) (hb:∀ b,Lb h.2 b→b<w.heap.size→w'.heap[b]?=w.heap[b]?):TellsE w' h E:=by
 obtain⟨h1,L,T,M,h2,h3⟩:=ht
 exact⟨h1,L,T,M,h2,rvm_keep h3 hs hb⟩
theorem TellsE.lt {w:World} {h:Eh} {E:En} (ht:TellsE w h E) {b:Nat} (hb:Lb h.2 b):b<w.heap.size:=by
 obtain⟨h1,L,T,M,h2,h3⟩:=ht
 exact hb.lt h3
def TellsEs (w:World):List Eh→List En→Prop
 | [],[]=>True
 | h::H,s::S=>TellsE w h s∧TellsEs w H S
 | _,_=>False
theorem TellsEs.keep {w w':World} (hs:w.heap.size≤w'.heap.size):∀ {H:List Eh} {S:List En},(∀ h∈H,∀ b,Lb h.2 b→b<w.heap.size→w'.heap[b]?=w.heap[b]?)→TellsEs w H S→TellsEs w' H S
 | [],[],_,_=>trivial
 | x::_,_::_,hb,h=>⟨h.1.keep hs (hb x (List.mem_cons_self ..)),TellsEs.keep hs (fun y hy=>hb y (List.mem_cons_of_mem _ hy)) h.2⟩
 | [],_::_,_,h=>h.elim
 | _::_,[],_,h=>h.elim
theorem TellsEs.len {w:World}:∀ {H:List Eh} {S:List En},TellsEs w H S→H.length=S.length
 | [],[],_=>rfl
 | _::_,_::_,h=>by rw [List.length_cons,List.length_cons,TellsEs.len h.2]
 | [],_::_,h=>h.elim
 | _::_,[],h=>h.elim
theorem TellsEs.snoc {w:World}:∀ {H:List Eh} {S:List En} {x:Eh} {s:En},TellsEs w H S→TellsE w x s→TellsEs w (H ++ [x]) (S ++ [s])
 | [],[],_,_,_,h=>⟨h,trivial⟩
 | _::_,_::_,_,_,h,g=>⟨h.1,TellsEs.snoc h.2 g⟩
 | [],_::_,_,_,h,_=>h.elim
 | _::_,[],_,_,h,_=>h.elim
theorem TellsEs.lt {w:World}:∀ {H:List Eh} {S:List En},TellsEs w H S→∀ h∈H,∀ b,Lb h.2 b→b<w.heap.size
 | [],_,_,h,hh,_,_=>by cases hh
 | x::H,s::S,ht,h,hh,b,hb=>by
  rcases List.mem_cons.1 hh with rfl | hh
  · exact ht.1.lt hb
  · exact TellsEs.lt ht.2 h hh b hb
 | _::_,[],h,_,_,_,_=>h.elim
theorem TellsEs.cells {w:World}:∀ {H:List Eh} {S:List En},TellsEs w H S→∀ h∈H,∀ b,Lb h.2 b→∃ o:Obj,w.heap[b]?=some o∧o.isCells=true
 | [],_,_,h,hh,_,_=>by cases hh
 | x::H,s::S,ht,h,hh,b,hb=>by
  rcases List.mem_cons.1 hh with rfl | hh
  · obtain⟨h1,L,T,M,h2,h3⟩:=ht.1
    exact hb.cells h3
  · exact TellsEs.cells ht.2 h hh b hb
 | _::_,[],h,_,_,_,_=>h.elim
theorem TellsEs.at {w:World}:∀ {H:List Eh} {S:List En} (j:Nat),TellsEs w H S→j<H.length→TellsE w (H.getD j eh0) (S.getD j (0,noX))
 | _::_,_::_,0,h,_=>h.1
 | _::_,_::_,j+1,h,hj=>by simpa using TellsEs.at j h.2 (by simpa using hj)
 | [],[],j,_,hj=>by simp at hj
 | [],_::_,_,h,_=>h.elim
 | _::_,[],_,h,_=>h.elim
structure EL (w:World) (p:Option Addr) (n c:Nat) (H:List Eh) (S:List En):Prop where
 row:SlG en 21 eh0 w p n c H
 tells:TellsEs w H S
theorem EL.later {w w':World} {p:Option Addr} {n c:Nat} {H:List Eh} {S:List En} (h:EL w p n c H S) (hb:Below w.heap.size w w'):EL w' p n c H S:=⟨h.row.later hb,h.tells.keep hb.size fun _ _ b _ hlt=>hb.block b hlt⟩
theorem info_entry:(Tryz.prog.info? 85).map (fun i=>(i.zero,i.size,i.bytes))=some (some (.agg (ecs eh0)),21,152):=by kernel_rfl
structure FE (lo:Nat) (wr:World) (v:Value) (H:List Eh) (S:List En):Prop where
 own:wr.ownsRow lo 85 21 v H.length (z1e en H)
 tells:TellsEs wr H S
 apart:∀ h∈H,∀ b,Lb h.2 b→v.ownBlock≠some b
 low:∀ h∈H,∀ b,Lb h.2 b→lo≤b
theorem FE.nil (lo:Nat) (w:World):FE lo w (.slice none 0 0) [] []:=⟨World.ownsRow_nil _ _ _ _,trivial,(fun h hh=>by cases hh),fun h hh=>by cases hh⟩
theorem FE.keep {lo:Nat} {w w':World} {v:Value} {H:List Eh} {S:List En} (h:FE lo w v H S) (hs:w.heap.size≤w'.heap.size) (hb:∀ b,lo≤b→b<w.heap.size→w'.heap[b]?=w.heap[b]?):FE lo w' v H S:=by
 refine⟨⟨h.own.1,?_⟩,h.tells.keep hs fun x hx b hl hlt=>hb b (h.low x hx b hl) hlt,h.apart,h.low⟩
 rcases h.own.2 with hn | ⟨g,cap,cur,rfl,h1,h2,h3⟩
 · exact .inl hn
 · exact .inr ⟨g,cap,cur,rfl,h1,by rw [hb g h1 (Array.getElem?_eq_some_iff.1 h2).1];exact h2,h3⟩
theorem FE.later {lo:Nat} {w w':World} {v:Value} {H:List Eh} {S:List En} (h:FE lo w v H S) (hb:Below w.heap.size w w'):FE lo w' v H S:=h.keep hb.size fun b _ hlt=>hb.block b hlt
theorem FE.kept {lo:Nat} {w w':World} {row:Option Nat} {v:Value} {H:List Eh} {S:List En} (h:FE lo w v H S) (hg:w.grownBy w' row) (hr:∀ r,row=some r→∃ o:Obj,w.heap[r]?=some o∧o.isCells=false):FE lo w' v H S:=by
 have hne:∀ (b:Nat) (o:Obj),w.heap[b]?=some o→o.isCells=true→w'.heap[b]?=w.heap[b]?:=fun b o ho hc=>hg.block b (Array.getElem?_eq_some_iff.1 ho).1 fun e=>by
  obtain⟨o',ho',hc'⟩:=hr b e.symm
  rw [ho] at ho'
  cases ho'
  rw [hc] at hc'
  cases hc'
 refine⟨⟨h.own.1,?_⟩,h.tells.keep hg.size fun x hx b hl hlt=>?_,h.apart,h.low⟩
 · rcases h.own.2 with hn | ⟨g,cap,cur,rfl,h1,h2,h3⟩
   · exact .inl hn
   · exact .inr ⟨g,cap,cur,rfl,h1,by rw [hne g _ h2 rfl];exact h2,h3⟩
 · obtain⟨o,ho,hc⟩:=h.tells.cells x hx b hl
   exact hne b o ho hc
theorem FE.el {lo:Nat} {w:World} {v:Value} {H:List Eh} {S:List En} (h:FE lo w v H S):∃ p c,v=.slice p S.length c∧EL w p S.length c H S:=by
 obtain⟨p,c,rfl,hs,hp⟩:=SlG.of_own (d:=eh0) en_len (by decide) h.own
 rw [h.tells.len] at hs ⊢
 exact⟨p,c,rfl,hs,h.tells⟩
theorem run_append_en {lo:Nat} {w:World} {v:Value} {H:List Eh} {S:List En} (hF:FE lo w v H S) (B:Nat) (h':Eh) (E':En)
 (hB:w.heap[B]?=some (.cells (ecs h') 85 (0,0))) (hT:TellsE w h' E') (hapart':∀ b,Lb h'.2 b→v.ownBlock≠some b) (hlow:∀ b,Lb h'.2 b→lo≤b) (hlo:lo≤w.heap.size) (hbig:H.length+1≤1000000) (ty:TypeId) :
 ∃ p' c' w',(Builtin.append_ #[74,74] ty #[v,.slice (some ⟨B,0,none⟩) 1 1]).run Tryz.prog w=.ok (.slice p' (H.length+1) c') w'∧FE lo w' (.slice p' (H.length+1) c') (H ++ [h']) (S ++ [E'])∧Chg (fun b=>v.ownBlock=some b) w w'∧(∀ b,v.ownBlock=some b→lo≤b)∧(∀ b,(Value.slice p' (H.length+1) c').ownBlock=some b→v.ownBlock=some b∨w.heap.size≤b):=by
 have hall:=hF.tells.snoc hT
 have hap:∀ y∈H ++ [h'],∀ b,Lb y.2 b→v.ownBlock≠some b:=fun y hy=>by
  rcases List.mem_append.1 hy with hy | hy
  · exact hF.apart y hy
  · rw [List.mem_singleton] at hy
    subst hy
    exact hapart'
 have hlw:∀ y∈H ++ [h'],∀ b,Lb y.2 b→lo≤b:=fun y hy=>by
  rcases List.mem_append.1 hy with hy | hy
  · exact hF.low y hy
  · rw [List.mem_singleton] at hy
    subst hy
    exact hlow
 have hnews:∀ ad,(some (⟨B,0,none⟩:Addr))=some ad→∀ j u,(en h')[j]?=some u→w.cell? (ad.add j)=some u:=fun ad he j u hu=>by
  cases he
  rw [Go.WideShapes.add_plain,Nat.zero_add]
  refine z0a hB ?_
  unfold en at hu
  simpa using hu
 obtain⟨p',c',w',hrun,h1,h2,h3⟩:=z4y (ty:=ty) (k:=21) (by decide) Tryz.underlying74 info_entry rfl (by omega) (z3g hF.own) (p:=some ⟨B,0,none⟩) (m:=1) (c:=1) (news:=en h') (by rw [en_len]) (fun h=>by cases h) hnews (en_one h') (by omega)
 rw [← z5r (enc:=en) h',← z1q] at h1
 refine⟨p',c',w',hrun,⟨?_,hall.keep h2.size fun y hy b hl hlt=>h2.block b hlt (hap y hy b hl),fun y hy b hl hv=>?_,hlw⟩,h2,fun b hb=>(hF.own.lt b hb).1,h3⟩
 · have hlen:(H ++ [h']).length=H.length+1:=by rw [List.length_append];rfl
   rw [hlen]
   refine⟨h1.1,?_⟩
   rcases h1.2 with hn | ⟨g,cap,cur,he,g1,g2,g3⟩
   · exact .inl hn
   · refine .inr ⟨g,cap,cur,he,?_,g2,g3⟩
     rcases h3 g (by rw [he];rfl) with hk | hk
     · exact (hF.own.lt g hk).1
     · exact Nat.le_trans hlo hk
 · rcases h3 b hv with hk | hk
   · exact hap y hy b hl hk
   · exact absurd (hall.lt y hy b hl) (by omega)
theorem run_append_e {lo:Nat} {w:World} {v:Value} {H:List Eh} {S:List En} (hF:FE lo w v H S) (B:Nat) (h':Eh) (E':En)
 (hB:w.heap[B]?=some (.cells (ecs h') 85 (0,0))) (hT:TellsE w h' E') (hapart':∀ b,Lb h'.2 b→v.ownBlock≠some b) (hlow:∀ b,Lb h'.2 b→lo≤b) (hlo:lo≤w.heap.size) (hbig:H.length+1≤1000000) (ty:TypeId) :
 ∃ p' c' w',(Builtin.append_ #[74,74] ty #[v,.slice (some ⟨B,0,none⟩) 1 1]).run Tryz.prog w=.ok (.slice p' (H.length+1) c') w'∧FE lo w' (.slice p' (H.length+1) c') (H ++ [h']) (S ++ [E'])∧Chg (fun b=>v.ownBlock=some b) w w'∧(∀ b,v.ownBlock=some b→lo≤b):=by
 obtain⟨p',c',w',h1,h2,h3,h4,_⟩:=run_append_en hF B h' E' hB hT hapart' hlow hlo hbig ty
 exact⟨p',c',w',h1,h2,h3,h4⟩
theorem wpList_append_e {lo:Nat} {w:World} {ops:Array Oper} {rest:List Oper} {o:Oper} {a:Act} {Q:Exit→Act→World→Prop} (hgd:o.guard=none) (s x:Operand)
 (ho:o.op=.call { callee:=.builtin .append,args:=#[s,x],argTypes:=#[74,74] })
 (v:Value) (H:List Eh) (S:List En) (hs:a.eval s=v) (hF:FE lo w v H S) (B:Nat) (h':Eh) (E':En) (hx:a.eval x=.slice (some ⟨B,0,none⟩) 1 1)
 (hB:w.heap[B]?=some (.cells (ecs h') 85 (0,0))) (hT:TellsE w h' E') (hapart':∀ b,Lb h'.2 b→v.ownBlock≠some b) (hlow:∀ b,Lb h'.2 b→lo≤b) (hlo:lo≤w.heap.size) (hbig:H.length+1≤1000000)
 (h:∀ p' c' w',FE lo w' (.slice p' (H.length+1) c') (H ++ [h']) (S ++ [E'])→Chg (fun b=>v.ownBlock=some b) w w'→(∀ b,v.ownBlock=some b→lo≤b)→(∀ b,(Value.slice p' (H.length+1) c').ownBlock=some b→v.ownBlock=some b∨w.heap.size≤b)→wpList Tryz.prog ops Q rest (a.put o.dst (.slice p' (H.length+1) c')) w'):wpList Tryz.prog ops Q (o::rest) a w:=by
 refine wpList_plain hgd fun K hK=>?_
 obtain⟨p',c',w',hrun,h1,h2,h3,h4⟩:=run_append_en hF B h' E' hB hT hapart' hlow hlo hbig o.type
 unfold Oper.wp execOp
 simp only [ho,resolve,invoke,builtin,Sem.run_bind,Sem.run_pure,Result.andThen_ok,List.map_toArray,List.map_cons,List.map_nil,hs,hx,hrun]
 exact hK _ _ (h p' c' w' h1 h2 h3 h4)
end Go.Proofs.YtfdgnniicjdjdaaGreatDoor
namespace Go.Proofs.YtfdgnniicjdjdaaGreatDoor
open Go.Lib (hid)
set_option maxHeartbeats 4000000
open Go.RowKit Go.ChangeShapes Go.WideShapes Go.Deep
set_option linter.unusedVariables false
set_option maxRecDepth 10000
structure Wa where
 k:Int
 r:Rv
 x:Int
section
variable {H:Type} {enc:TypeId × Value→H} {w:World} {base:Nat} {held:Bool}
end
end Go.Proofs.YtfdgnniicjdjdaaGreatDoor
namespace Go.Proofs.YtfdgnniicjdjdaaGreatDoor
open Go.Lib (hid)
set_option maxHeartbeats 4000000
open Go.RowKit Go.ChangeShapes Go.WideShapes
set_option linter.unusedVariables false
set_option maxRecDepth 10000
set_option linter.unusedSimpArgs false
theorem run_loadVar_at {P:Program} (w:World) (g i:Nat) (ty:TypeId) (part:Array Value) (d:TypeDesc) (hp:∀ j u,part.toList[j]?=some u→w.cell? ⟨g,i+j,none⟩=some u)
 (hu:P.underlying ty=some d) (hd:(match d with | .struct _ | .array _ _=>true | _=>false)=true) (hi:(P.info? ty).map (·.size)=some part.size) :
 (loadVar ty ⟨g,i,none⟩).run P w=.ok (.agg part) w:=by
 have hl:(loadCells ⟨g,i,none⟩ part.toList.length).run P w=.ok part.toList.toArray w :=
  run_loadCells_list (P:=P) w ⟨g,i,none⟩ part.toList (fun j v hv=>by
   rw [q0w]
   exact hp j v hv)
 cases hq:P.info? ty with
 | none=>simp [hq] at hi
 | some inf =>
  have hs:inf.size=part.size:=by simpa [hq] using hi
  have hagg:(isAgg ty).run P w=.ok true w:=by
   unfold isAgg
   rw [Sem.run_bind,run_underlying hu w]
   cases d <;> simp_all
  simp only [Array.length_toList,Array.toArray_toList] at hl
  simp [loadVar,Sem.run_bind,hagg,sizeOf,typeInfo,hq,hs,hl]
section
variable {ops:Array Oper} {rest:List Oper} {a:Act} {w:World} {Q:Exit→Act→World→Prop} {dst:Option Tmp} {ty:TypeId} {pos:String} {after:Array Edge}
end
theorem quiet_load_rat {W:World} {K:Act→Prop} {a:Act} {dst:Option Tmp} {x:Operand} {ty:TypeId} {pos:String} {after:Array Edge} {gd:Option (Nat × Bool)} {g i:Nat} {r:Rv} (hx:a.eval x=.pointer (some ⟨g,i,none⟩)) (hC:∀ j u,(rcs r).toList[j]?=some u→W.cell? ⟨g,i+j,none⟩=some u)
 (hk:K (a.put dst (.agg (rcs r)))):(Oper.mk dst (.load 51 x) ty pos after gd).quiet Tryz.prog a (fun w'=>∃ p:After W,w'=p.w) K:=by
 refine⟨.agg (rcs r),fun w hw=>?_,hk⟩
 obtain⟨p,rfl⟩:=hw
 unfold Oper.quietAt execOp
 simp only [hx,Instr.loadAt,Instr.sureAddr,Sem.run_bind,Sem.run_pure,Result.andThen_ok,run_loadVar_at (P:=Tryz.prog) p.w g i 51 (rcs r) _ (fun j u hu=>z3l p (hC j u hu)) Tryz.underlying51 rfl (by kernel_rfl)]
 exact⟨rfl,rfl⟩
theorem EL.at {w:World} {p:Option Addr} {n c:Nat} {H:List Eh} {S:List En} (h:EL w p n c H S) {j:Nat} (hj:j<n):∃ b off,p=some ⟨b,off,none⟩∧b<w.heap.size∧w.cell? ⟨b,off+j*21,none⟩=some (.int .i64 (S.getD j (0,noX)).1) ∧
 ∃ r L T M,(∀ i u,(rcs r).toList[i]?=some u→w.cell? ⟨b,off+j*21+1+i,none⟩=some u)∧r.x L T M=(S.getD j (0,noX)).2∧RvM w r L T M:=by
 obtain⟨b,off,hp,hlt,hc⟩:=h.row.cell (by omega)
 obtain⟨h1,L,T,M,h2,h3⟩:=h.tells.at j (by rw [h.row.len];exact hj)
 refine⟨b,off,hp,hlt,?_,(H.getD j eh0).2,L,T,M,fun i u hu=>?_,h2,h3⟩
 · rw [← h1]
   exact hc j hj 0 _ rfl
 · have hi:i<20:=(List.getElem?_eq_some_iff.1 hu).1
   have:=hc j hj (1+i) u ((en_cons _ i hi).trans hu)
   rwa [← Nat.add_assoc] at this
def SmX (X:Rx):Prop:=X.pg.lines.length≤400∧X.pg.takes.length≤400∧X.pg.owes.length≤400
theorem smX_rv {w:World} {r:Rv} {L:List Ln} {T:List Tk} {M:List Ln} {X:Rx} (h:SmX X) (hx:r.x L T M=X) (hm:RvM w r L T M):r.ln≤400∧r.tn≤400∧r.wn≤400:=by
 subst hx
 exact⟨by rw [← hm.l.len];exact h.1,by rw [← hm.t.len];exact h.2.1,by rw [← hm.o.len];exact h.2.2⟩
theorem ents_same {W:World} {p p':Option Addr} {n c c':Nat} {H H':List Eh} {S:List En} (h:EL W p n c H S) (h':EL W p' n c' H' S) (hn:n≤100000) (hsm:∀ E∈S,SmX E.2) :
 Calls Tryz.prog 32 #[.slice p n c,.slice p' n c'] W fun e w'=>e=.returned (.bool true)∧Below W.heap.size W w':=by
 have HA:=hid h
 have HB:=hid h'
 have HSM:=hid hsm
 have hc1:=h.row.cap
 have hc2:=h'.row.cap
 have HLN:Hid (S.length=n):=hid (by rw [← h.tells.len];exact h.row.len)
 clear h h' hsm
 go_enter Tryz.func32,Tryz.ntmps32
 go_wp2_with fail
 go_loopw [5] (fun i wr=>∃ j:Nat,j≤n∧i=.int .i64 j∧Hid (Below W.heap.size W wr)) (fun i _=>n-(intOf i).toNat)
 case atStart=>exact⟨0,Nat.zero_le _,rfl,hid (Below.refl _ _)⟩
 case round =>
  obtain⟨j,hj,rfl,HR⟩:=hrel
  by_cases hlt:j<n
  · have hlt':(j:Int)<n:=by omega
    have hd1:decide ((n:Int)≤(j:Int))=false:=decide_eq_false (by omega)
    obtain⟨b,off,rfl,_,x1,r,L,T,M,hrc,hx,hm⟩:=(HA.out.later HR.out).at hlt
    obtain⟨b',off',rfl,_,x1',r',L',T',M',hrc',hx',hm'⟩:=(HB.out.later HR.out).at hlt
    have hs:SmX (S.getD j (0,noX)).2:=by
     rw [List.getD,List.getElem?_eq_getElem (by rw [HLN.out];exact hlt)]
     exact HSM.out _ (List.getElem_mem _)
    have hq1:=smX_rv hs hx hm
    have hq2:=smX_rv hs hx' hm'
    have hcs:∀ q:After wr,Calls Tryz.prog 51 #[.agg (rcs r),.agg (rcs r')] q.w fun e w'=>e=.returned (.bool true)∧Below q.w.heap.size q.w w':=fun q=>by
     have:=z3b r r' L T M L' T' M' q.w (hm.later q.h) (hm'.later q.h) (by omega) (by omega)
     rw [hx,hx'] at this
     simpa using this
    have HC:=hid hcs
    have HRC:=hid hrc
    have HRC':=hid hrc'
    clear hrc hrc' hx hx' hm hm' hs hq1 hq2 hcs
    generalize (S.getD j (0,noX)).1=v at *
    go_wp2_with fail
    have y1:=fun (p:After wr)=>z3l p x1
    have y1':=fun (p:After wr)=>z3l p x1'
    refine z1t (by kernel_rfl) (by kernel_rfl) ?_
    repeat (first | (go_big_quiet_want;(with_reducible refine quiet_load_rat ?_ HRC.out ?_);rfl;go_simp;go_big_quiet_on) | (go_big_quiet_want;(with_reducible refine quiet_load_rat ?_ HRC'.out ?_);rfl;go_simp;go_big_quiet_on) | go_big_quiet_step (first | (go_at_call 51;exact z2j _ (HC.out _))))
    refine wpQuiet_nil ?_
    intro w4 hw'
    obtain⟨⟨wq,h6⟩,hw''⟩:=hw'
    subst hw''
    have HR4:=hid (HR.out.trans (h6.mono HR.out.size))
    clear h6
    go_wp2_with fail
    go_roundw
    case rel=>exact⟨j+1,by omega,by go_num,HR4⟩
    case measure=>simp [intOf];omega
  · obtain rfl:n=j:=by omega
    go_wp2_with fail
    go_ret
    exact⟨rfl,HR.out⟩
end Go.Proofs.YtfdgnniicjdjdaaGreatDoor
