import Derived.Test.YtfdgnniicjdjdaaGreatDoorPB37
import Derived.Test.YtfdgnniicjdjdaaGreatDoorPB40
namespace Go.Proofs.YtfdgnniicjdjdaaGreatDoor
open Go.Lib (hid)
set_option maxHeartbeats 4000000
open Go.RowKit Go.ChangeShapes Go.WideShapes
set_option linter.unusedVariables false
set_option maxRecDepth 10000
abbrev Eh:Type:=Int × Rv
abbrev En:Type:=Int × Rx
abbrev eh0:Eh:=(0,rz)
def ecs (h:Eh):Array Value:=#[.int .i64 h.1,.int .u8 h.2.k,.int .u32 h.2.sg,.int .u32 h.2.tx,.int .u8 h.2.st,.bool h.2.cp,.int .u8 h.2.ka,.int .u8 h.2.kb,.int .u8 h.2.kc,.int .i64 h.2.d,.int .u8 h.2.o,.int .u8 h.2.pk,.int .u32 h.2.od,.int .u8 h.2.po,.slice h.2.lp h.2.ln h.2.lcp,.slice h.2.tp h.2.tn h.2.tcp,.slice h.2.wp h.2.wn h.2.wcp,.int .u8 h.2.sk,.int .u8 h.2.fr,.int .u8 h.2.to,.int .i64 h.2.q]
def en (h:Eh):List Value:=(ecs h).toList
theorem en_len (h:Eh):(en h).length=21:=rfl
theorem en_one (h:Eh):∀ u∈en h,u.oneCell'=true:=by
 intro u hu
 have:(en h).all (·.oneCell')=true:=by simp [en,ecs,Value.oneCell']
 exact List.all_eq_true.1 this u hu
theorem en_cons (h:Eh):∀ i,i<20→(en h)[1+i]?=(rcs h.2).toList[i]?:=by
 intro i hi
 rcases (by omega:i=0∨i=1∨i=2∨i=3∨i=4∨i=5∨i=6∨i=7∨i=8∨i=9∨i=10∨i=11∨i=12∨i=13∨i=14∨i=15∨i=16∨i=17∨i=18∨i=19) with rfl | rfl | rfl | rfl | rfl | rfl | rfl | rfl | rfl | rfl | rfl | rfl | rfl | rfl | rfl | rfl | rfl | rfl | rfl | rfl <;> rfl
def Lb (r:Rv) (b:Nat):Prop:=(0<r.ln∧∃ a,r.lp=some a∧a.block=b)∨(0<r.tn∧∃ a,r.tp=some a∧a.block=b)∨(0<r.wn∧∃ a,r.wp=some a∧a.block=b)
theorem Lb.lt {w:World} {r:Rv} {L:List Ln} {T:List Tk} {M:List Ln} {b:Nat} (h:Lb r b) (hm:RvM w r L T M):b<w.heap.size:=by
 rcases h with ⟨h0,a,ha,rfl⟩ | ⟨h0,a,ha,rfl⟩ | ⟨h0,a,ha,rfl⟩
 · obtain⟨b,off,hp,hlt,_⟩:=hm.l.cell h0
   rw [ha] at hp
   cases hp
   exact hlt
 · obtain⟨b,off,hp,hlt,_⟩:=hm.t.cell h0
   rw [ha] at hp
   cases hp
   exact hlt
 · obtain⟨b,off,hp,hlt,_⟩:=hm.o.cell h0
   rw [ha] at hp
   cases hp
   exact hlt
theorem z9f {w:World} {b i:Nat} {v:Value} (h:w.cell? ⟨b,i,none⟩=some v):∃ o:Obj,w.heap[b]?=some o∧o.isCells=true:=by
 cases ho:w.heap[b]? with
 | none=>simp [World.cell?,ho] at h
 | some o=>cases o <;> simp [World.cell?,ho,Obj.isCells] at h ⊢
theorem Lb.cells {w:World} {r:Rv} {L:List Ln} {T:List Tk} {M:List Ln} {b:Nat} (h:Lb r b) (hm:RvM w r L T M):∃ o:Obj,w.heap[b]?=some o∧o.isCells=true:=by
 rcases h with ⟨h0,a,ha,rfl⟩ | ⟨h0,a,ha,rfl⟩ | ⟨h0,a,ha,rfl⟩
 · obtain⟨b,off,hp,hlt,hc⟩:=hm.l.cell h0
   rw [ha] at hp
   cases hp
   exact z9f (hc 0 h0 0 _ rfl)
 · obtain⟨b,off,hp,hlt,hc⟩:=hm.t.cell h0
   rw [ha] at hp
   cases hp
   exact z9f (hc 0 h0 0 _ rfl)
 · obtain⟨b,off,hp,hlt,hc⟩:=hm.o.cell h0
   rw [ha] at hp
   cases hp
   exact z9f (hc 0 h0 0 _ rfl)
theorem rvm_keep {w w':World} {r:Rv} {L:List Ln} {T:List Tk} {M:List Ln} (h:RvM w r L T M) (hs:w.heap.size≤w'.heap.size) (hb:∀ b,Lb r b→b<w.heap.size→w'.heap[b]?=w.heap[b]?):RvM w' r L T M :=
 ⟨h.l.turn hs fun h0 a ha hlt=>hb _ (.inl ⟨h0,a,ha,rfl⟩) hlt,h.t.turn hs fun h0 a ha hlt=>hb _ (.inr (.inl ⟨h0,a,ha,rfl⟩)) hlt,h.o.turn hs fun h0 a ha hlt=>hb _ (.inr (.inr ⟨h0,a,ha,rfl⟩)) hlt⟩
theorem Nw.lb {W:World} {r:Rv} (h:Nw W r) {b:Nat} (hb:Lb r b):W.heap.size≤b:=by
 rcases hb with ⟨_,a,ha,rfl⟩ | ⟨_,a,ha,rfl⟩ | ⟨_,a,ha,rfl⟩
 · exact h.1 a ha
 · exact h.2.1 a ha
 · exact h.2.2 a ha
def TellsE (w:World) (h:Eh) (E:En):Prop:=h.1=E.1∧∃ L T M,h.2.x L T M=E.2∧RvM w h.2 L T M
theorem TellsE.keep {w w':World} {h:Eh} {E:En} (ht:TellsE w h E) (hs:w.heap.size≤w'.heap.size) (hb:∀ b,Lb h.2 b→b<w.heap.size→w'.heap[b]?=w.heap[b]?):TellsE w' h E:=by
 obtain⟨h1,L,T,M,h2,h3⟩:=ht
 exact⟨h1,L,T,M,h2,rvm_keep h3 hs hb⟩
theorem TellsE.lt {w:World} {h:Eh} {E:En} (ht:TellsE w h E) {b:Nat} (hb:Lb h.2 b):b<w.heap.size:=by
 obtain⟨h1,L,T,M,h2,h3⟩:=ht
 exact hb.lt h3
def TellsEs (w:World):List Eh→List En→Prop
 | [],[]=>True
 | h::H,s::S=>TellsE w h s∧TellsEs w H S
 | _,_=>False
theorem TellsEs.keep {w w':World} (hs:w.heap.size≤w'.heap.size):∀ {H:List Eh} {S:List En},(∀ h∈H,∀ b,Lb h.2 b→b<w.heap.size→w'.heap[b]?=w.heap[b]?)→TellsEs w H S→TellsEs w' H S
 | [],[],_,_=>trivial
 | x::_,_::_,hb,h=>⟨h.1.keep hs (hb x (List.mem_cons_self ..)),TellsEs.keep hs (fun y hy=>hb y (List.mem_cons_of_mem _ hy)) h.2⟩
 | [],_::_,_,h=>h.elim
 | _::_,[],_,h=>h.elim
theorem TellsEs.len {w:World}:∀ {H:List Eh} {S:List En},TellsEs w H S→H.length=S.length
 | [],[],_=>rfl
 | _::_,_::_,h=>by rw [List.length_cons,List.length_cons,TellsEs.len h.2]
 | [],_::_,h=>h.elim
 | _::_,[],h=>h.elim
theorem TellsEs.snoc {w:World}:∀ {H:List Eh} {S:List En} {x:Eh} {s:En},TellsEs w H S→TellsE w x s→TellsEs w (H ++ [x]) (S ++ [s])
 | [],[],_,_,_,h=>⟨h,trivial⟩
 | _::_,_::_,_,_,h,g=>⟨h.1,TellsEs.snoc h.2 g⟩
 | [],_::_,_,_,h,_=>h.elim
 | _::_,[],_,_,h,_=>h.elim
theorem TellsEs.lt {w:World}:∀ {H:List Eh} {S:List En},TellsEs w H S→∀ h∈H,∀ b,Lb h.2 b→b<w.heap.size
 | [],_,_,h,hh,_,_=>by cases hh
 | x::H,s::S,ht,h,hh,b,hb=>by
  rcases List.mem_cons.1 hh with rfl | hh
  · exact ht.1.lt hb
  · exact TellsEs.lt ht.2 h hh b hb
 | _::_,[],h,_,_,_,_=>h.elim
theorem TellsEs.cells {w:World}:∀ {H:List Eh} {S:List En},TellsEs w H S→∀ h∈H,∀ b,Lb h.2 b→∃ o:Obj,w.heap[b]?=some o∧o.isCells=true
 | [],_,_,h,hh,_,_=>by cases hh
 | x::H,s::S,ht,h,hh,b,hb=>by
  rcases List.mem_cons.1 hh with rfl | hh
  · obtain⟨h1,L,T,M,h2,h3⟩:=ht.1
    exact hb.cells h3
  · exact TellsEs.cells ht.2 h hh b hb
 | _::_,[],h,_,_,_,_=>h.elim
theorem TellsEs.at {w:World}:∀ {H:List Eh} {S:List En} (j:Nat),TellsEs w H S→j<H.length→TellsE w (H.getD j eh0) (S.getD j (0,noX))
 | _::_,_::_,0,h,_=>h.1
 | _::_,_::_,j+1,h,hj=>by simpa using TellsEs.at j h.2 (by simpa using hj)
 | [],[],j,_,hj=>by simp at hj
 | [],_::_,_,h,_=>h.elim
 | _::_,[],_,h,_=>h.elim
structure EL (w:World) (p:Option Addr) (n c:Nat) (H:List Eh) (S:List En):Prop where
 row:SlG en 21 eh0 w p n c H
 tells:TellsEs w H S
theorem EL.later {w w':World} {p:Option Addr} {n c:Nat} {H:List Eh} {S:List En} (h:EL w p n c H S) (hb:Below w.heap.size w w'):EL w' p n c H S:=⟨h.row.later hb,h.tells.keep hb.size fun _ _ b _ hlt=>hb.block b hlt⟩
theorem info_entry:(Tryz.prog.info? 85).map (fun i=>(i.zero,i.size,i.bytes))=some (some (.agg (ecs eh0)),21,152):=by kernel_rfl
structure FE (lo:Nat) (wr:World) (v:Value) (H:List Eh) (S:List En):Prop where
 own:wr.ownsRow lo 85 21 v H.length (z0w en H)
 tells:TellsEs wr H S
 apart:∀ h∈H,∀ b,Lb h.2 b→v.ownBlock≠some b
 low:∀ h∈H,∀ b,Lb h.2 b→lo≤b
theorem FE.nil (lo:Nat) (w:World):FE lo w (.slice none 0 0) [] []:=⟨World.ownsRow_nil _ _ _ _,trivial,(fun h hh=>by cases hh),fun h hh=>by cases hh⟩
theorem FE.keep {lo:Nat} {w w':World} {v:Value} {H:List Eh} {S:List En} (h:FE lo w v H S) (hs:w.heap.size≤w'.heap.size) (hb:∀ b,lo≤b→b<w.heap.size→w'.heap[b]?=w.heap[b]?):FE lo w' v H S:=by
 refine⟨⟨h.own.1,?_⟩,h.tells.keep hs fun x hx b hl hlt=>hb b (h.low x hx b hl) hlt,h.apart,h.low⟩
 rcases h.own.2 with hn | ⟨g,cap,cur,rfl,h1,h2,h3⟩
 · exact .inl hn
 · exact .inr ⟨g,cap,cur,rfl,h1,by rw [hb g h1 (Array.getElem?_eq_some_iff.1 h2).1];exact h2,h3⟩
theorem FE.later {lo:Nat} {w w':World} {v:Value} {H:List Eh} {S:List En} (h:FE lo w v H S) (hb:Below w.heap.size w w'):FE lo w' v H S:=h.keep hb.size fun b _ hlt=>hb.block b hlt
theorem FE.kept {lo:Nat} {w w':World} {row:Option Nat} {v:Value} {H:List Eh} {S:List En} (h:FE lo w v H S) (hg:w.grownBy w' row) (hr:∀ r,row=some r→∃ o:Obj,w.heap[r]?=some o∧o.isCells=false):FE lo w' v H S:=by
 have hne:∀ (b:Nat) (o:Obj),w.heap[b]?=some o→o.isCells=true→w'.heap[b]?=w.heap[b]?:=fun b o ho hc=>hg.block b (Array.getElem?_eq_some_iff.1 ho).1 fun e=>by
  obtain⟨o',ho',hc'⟩:=hr b e.symm
  rw [ho] at ho'
  cases ho'
  rw [hc] at hc'
  cases hc'
 refine⟨⟨h.own.1,?_⟩,h.tells.keep hg.size fun x hx b hl hlt=>?_,h.apart,h.low⟩
 · rcases h.own.2 with hn | ⟨g,cap,cur,rfl,h1,h2,h3⟩
   · exact .inl hn
   · exact .inr ⟨g,cap,cur,rfl,h1,by rw [hne g _ h2 rfl];exact h2,h3⟩
 · obtain⟨o,ho,hc⟩:=h.tells.cells x hx b hl
   exact hne b o ho hc
theorem FE.el {lo:Nat} {w:World} {v:Value} {H:List Eh} {S:List En} (h:FE lo w v H S):∃ p c,v=.slice p S.length c∧EL w p S.length c H S:=by
 obtain⟨p,c,rfl,hs,hp⟩:=SlG.of_own (d:=eh0) en_len (by decide) h.own
 rw [h.tells.len] at hs ⊢
 exact⟨p,c,rfl,hs,h.tells⟩
theorem run_append_en {lo:Nat} {w:World} {v:Value} {H:List Eh} {S:List En} (hF:FE lo w v H S) (B:Nat) (h':Eh) (E':En)
 (hB:w.heap[B]?=some (.cells (ecs h') 85 (0,0))) (hT:TellsE w h' E') (hapart':∀ b,Lb h'.2 b→v.ownBlock≠some b) (hlow:∀ b,Lb h'.2 b→lo≤b) (hlo:lo≤w.heap.size) (hbig:H.length+1≤1000000) (ty:TypeId) :
 ∃ p' c' w',(Builtin.append_ #[74,74] ty #[v,.slice (some ⟨B,0,none⟩) 1 1]).run Tryz.prog w=.ok (.slice p' (H.length+1) c') w'∧FE lo w' (.slice p' (H.length+1) c') (H ++ [h']) (S ++ [E'])∧Chg (fun b=>v.ownBlock=some b) w w'∧(∀ b,v.ownBlock=some b→lo≤b)∧(∀ b,(Value.slice p' (H.length+1) c').ownBlock=some b→v.ownBlock=some b∨w.heap.size≤b):=by
 have hall:=hF.tells.snoc hT
 have hap:∀ y∈H ++ [h'],∀ b,Lb y.2 b→v.ownBlock≠some b:=fun y hy=>by
  rcases List.mem_append.1 hy with hy | hy
  · exact hF.apart y hy
  · rw [List.mem_singleton] at hy
    subst hy
    exact hapart'
 have hlw:∀ y∈H ++ [h'],∀ b,Lb y.2 b→lo≤b:=fun y hy=>by
  rcases List.mem_append.1 hy with hy | hy
  · exact hF.low y hy
  · rw [List.mem_singleton] at hy
    subst hy
    exact hlow
 have hnews:∀ ad,(some (⟨B,0,none⟩:Addr))=some ad→∀ j u,(en h')[j]?=some u→w.cell? (ad.add j)=some u:=fun ad he j u hu=>by
  cases he
  rw [Go.WideShapes.add_plain,Nat.zero_add]
  refine z0a hB ?_
  unfold en at hu
  simpa using hu
 obtain⟨p',c',w',hrun,h1,h2,h3⟩:=z4n (ty:=ty) (k:=21) (by decide) Tryz.underlying74 info_entry rfl (by omega) (z3k hF.own) (p:=some ⟨B,0,none⟩) (m:=1) (c:=1) (news:=en h') (by rw [en_len]) (fun h=>by cases h) hnews (en_one h') (by omega)
 rw [← z5n (enc:=en) h',← z1y] at h1
 refine⟨p',c',w',hrun,⟨?_,hall.keep h2.size fun y hy b hl hlt=>h2.block b hlt (hap y hy b hl),fun y hy b hl hv=>?_,hlw⟩,h2,fun b hb=>(hF.own.lt b hb).1,h3⟩
 · have hlen:(H ++ [h']).length=H.length+1:=by rw [List.length_append];rfl
   rw [hlen]
   refine⟨h1.1,?_⟩
   rcases h1.2 with hn | ⟨g,cap,cur,he,g1,g2,g3⟩
   · exact .inl hn
   · refine .inr ⟨g,cap,cur,he,?_,g2,g3⟩
     rcases h3 g (by rw [he];rfl) with hk | hk
     · exact (hF.own.lt g hk).1
     · exact Nat.le_trans hlo hk
 · rcases h3 b hv with hk | hk
   · exact hap y hy b hl hk
   · exact absurd (hall.lt y hy b hl) (by omega)
theorem run_append_e {lo:Nat} {w:World} {v:Value} {H:List Eh} {S:List En} (hF:FE lo w v H S) (B:Nat) (h':Eh) (E':En)
 (hB:w.heap[B]?=some (.cells (ecs h') 85 (0,0))) (hT:TellsE w h' E') (hapart':∀ b,Lb h'.2 b→v.ownBlock≠some b) (hlow:∀ b,Lb h'.2 b→lo≤b) (hlo:lo≤w.heap.size) (hbig:H.length+1≤1000000) (ty:TypeId) :
 ∃ p' c' w',(Builtin.append_ #[74,74] ty #[v,.slice (some ⟨B,0,none⟩) 1 1]).run Tryz.prog w=.ok (.slice p' (H.length+1) c') w'∧FE lo w' (.slice p' (H.length+1) c') (H ++ [h']) (S ++ [E'])∧Chg (fun b=>v.ownBlock=some b) w w'∧(∀ b,v.ownBlock=some b→lo≤b):=by
 obtain⟨p',c',w',h1,h2,h3,h4,_⟩:=run_append_en hF B h' E' hB hT hapart' hlow hlo hbig ty
 exact⟨p',c',w',h1,h2,h3,h4⟩
theorem z3j {lo:Nat} {w:World} {ops:Array Oper} {rest:List Oper} {o:Oper} {a:Act} {Q:Exit→Act→World→Prop} (hgd:o.guard=none) (s x:Operand)
 (ho:o.op=.call { callee:=.builtin .append,args:=#[s,x],argTypes:=#[74,74] })
 (v:Value) (H:List Eh) (S:List En) (hs:a.eval s=v) (hF:FE lo w v H S) (B:Nat) (h':Eh) (E':En) (hx:a.eval x=.slice (some ⟨B,0,none⟩) 1 1)
 (hB:w.heap[B]?=some (.cells (ecs h') 85 (0,0))) (hT:TellsE w h' E') (hapart':∀ b,Lb h'.2 b→v.ownBlock≠some b) (hlow:∀ b,Lb h'.2 b→lo≤b) (hlo:lo≤w.heap.size) (hbig:H.length+1≤1000000)
 (h:∀ p' c' w',FE lo w' (.slice p' (H.length+1) c') (H ++ [h']) (S ++ [E'])→Chg (fun b=>v.ownBlock=some b) w w'→(∀ b,v.ownBlock=some b→lo≤b)→(∀ b,(Value.slice p' (H.length+1) c').ownBlock=some b→v.ownBlock=some b∨w.heap.size≤b)→wpList Tryz.prog ops Q rest (a.put o.dst (.slice p' (H.length+1) c')) w'):wpList Tryz.prog ops Q (o::rest) a w:=by
 refine wpList_plain hgd fun K hK=>?_
 obtain⟨p',c',w',hrun,h1,h2,h3,h4⟩:=run_append_en hF B h' E' hB hT hapart' hlow hlo hbig o.type
 unfold Oper.wp execOp
 simp only [ho,resolve,invoke,builtin,Sem.run_bind,Sem.run_pure,Result.andThen_ok,List.map_toArray,List.map_cons,List.map_nil,hs,hx,hrun]
 exact hK _ _ (h p' c' w' h1 h2 h3 h4)
end Go.Proofs.YtfdgnniicjdjdaaGreatDoor
namespace Go.Proofs.YtfdgnniicjdjdaaGreatDoor
open Go.Lib (hid)
set_option maxHeartbeats 4000000
open Go.RowKit Go.ChangeShapes Go.WideShapes Go.Deep
set_option linter.unusedVariables false
set_option maxRecDepth 10000
structure Wa where
 k:Int
 r:Rv
 x:Int
def wa0:Wa:=⟨0,rz,0⟩
def wcs (y:Wa):Array Value:=#[.int .u8 y.k,.int .u8 y.r.k,.int .u32 y.r.sg,.int .u32 y.r.tx,.int .u8 y.r.st,.bool y.r.cp,.int .u8 y.r.ka,.int .u8 y.r.kb,.int .u8 y.r.kc,.int .i64 y.r.d,.int .u8 y.r.o,.int .u8 y.r.pk,.int .u32 y.r.od,.int .u8 y.r.po,.slice y.r.lp y.r.ln y.r.lcp,.slice y.r.tp y.r.tn y.r.tcp,.slice y.r.wp y.r.wn y.r.wcp,.int .u8 y.r.sk,.int .u8 y.r.fr,.int .u8 y.r.to,.int .i64 y.r.q,.int .i64 y.x]
def wae (y:Wa):List Value:=(wcs y).toList
theorem wae_rec (y:Wa):∀ i u,(rcs y.r).toList[i]?=some u→(wae y)[1+i]?=some u:=by
 intro i u hu
 have hi:i<20:=(List.getElem?_eq_some_iff.1 hu).1
 rcases (by omega:i=0∨i=1∨i=2∨i=3∨i=4∨i=5∨i=6∨i=7∨i=8∨i=9∨i=10∨i=11∨i=12∨i=13∨i=14∨i=15∨i=16∨i=17∨i=18∨i=19) with rfl | rfl | rfl | rfl | rfl | rfl | rfl | rfl | rfl | rfl | rfl | rfl | rfl | rfl | rfl | rfl | rfl | rfl | rfl | rfl <;> exact hu
structure WaIn (w:World) (y:Wa):Prop where
 k:0≤y.k∧y.k≤255
 x:In64 y.x
 all:∃ L T M,Rxok (y.r.x L T M)∧RvM w y.r L T M
theorem WaIn.later {w w':World} {y:Wa} (h:WaIn w y) (hb:Below w.heap.size w w'):WaIn w' y:=by
 obtain⟨L,T,M,h1,h2⟩:=h.all
 exact⟨h.k,h.x,L,T,M,h1,h2.later hb⟩
structure AcL (w:World) (p:Option Addr) (n c:Nat) (H:List Wa):Prop where
 row:SlG wae 22 wa0 w p n c H
 each:∀ y∈H,WaIn w y
theorem AcL.later {w w':World} {p:Option Addr} {n c:Nat} {H:List Wa} (h:AcL w p n c H) (hb:Below w.heap.size w w'):AcL w' p n c H:=⟨h.row.later hb,fun y hy=>(h.each y hy).later hb⟩
theorem AcL.in {w:World} {p:Option Addr} {n c:Nat} {H:List Wa} (h:AcL w p n c H) {j:Nat} (hj:j<n):WaIn w (H.getD j wa0):=by
 have hl:j<H.length:=by rw [h.row.len];exact hj
 rw [List.getD,List.getElem?_eq_getElem hl]
 exact h.each _ (List.getElem_mem hl)
def AnyW (_:Wa):Prop:=True
theorem actCells22:Tryz.prog.cellsOf 53=22:=by kernel_rfl
theorem u8Cells1:Tryz.prog.cellsOf 5=1:=by kernel_rfl
theorem i64Cells1:Tryz.prog.cellsOf 2=1:=by kernel_rfl
section
variable {H:Type} {enc:TypeId × Value→H} {w:World} {base:Nat} {held:Bool}
theorem wact_trod {fuel:Nat} {cs:List Value} {d:DataW H × List MemPlace} (h:DataW.trod enc Tryz.prog w base (fun _=>true) held fuel 53 cs=some d):∃ y:Wa,WaIn w y∧cs=wae y:=by
 obtain⟨_,_,_,_,hlen,_,_⟩:=DataW.trod_struct Tryz.underlying53 h
 rw [actCells22] at hlen
 obtain⟨y0,y1,y2,n,_,_,t0,t1,t2⟩:=trod_struct3 Tryz.underlying53 h
 obtain⟨v0,v1,v2,v3,v4,v5,v6,v7,v8,v9,v10,v11,v12,v13,v14,v15,v16,v17,v18,v19,v20,v21,rfl⟩:∃ v0 v1 v2 v3 v4 v5 v6 v7 v8 v9 v10 v11 v12 v13 v14 v15 v16 v17 v18 v19 v20 v21,cs=[v0,v1,v2,v3,v4,v5,v6,v7,v8,v9,v10,v11,v12,v13,v14,v15,v16,v17,v18,v19,v20,v21]:=by
  match cs,hlen with
  | [a0,a1,a2,a3,a4,a5,a6,a7,a8,a9,a10,a11,a12,a13,a14,a15,a16,a17,a18,a19,a20,a21],_=>exact⟨a0,a1,a2,a3,a4,a5,a6,a7,a8,a9,a10,a11,a12,a13,a14,a15,a16,a17,a18,a19,a20,a21,rfl⟩
 simp only [recCells20,u8Cells1,i64Cells1,List.drop_zero,List.drop_succ_cons,List.take_succ_cons,List.take_zero] at t0 t1 t2
 obtain⟨z0,hv0,_,wf0⟩:=DataW.trod_int Tryz.underlying5 t0
 obtain⟨r,L,T,M,hr,hok,hm⟩:=rec_trod t1
 obtain⟨z2,hv2,_,wf2⟩:=DataW.trod_int Tryz.underlying2 t2
 simp at hv0 hv2
 subst hv0 hv2
 refine⟨⟨z0,r,z2⟩,⟨bounds_u8 wf0,bounds_i64 wf2,L,T,M,hok,hm⟩,?_⟩
 simp only [rcs,List.cons.injEq,and_true] at hr
 obtain⟨g0,g1,g2,g3,g4,g5,g6,g7,g8,g9,g10,g11,g12,g13,g14,g15,g16,g17,g18,g19⟩:=hr
 subst g0 g1 g2 g3 g4 g5 g6 g7 g8 g9 g10 g11 g12 g13 g14 g15 g16 g17 g18 g19
 rfl
theorem open_wacts {fuel:Nat} {a:Option Addr} {len cap:Nat} {x:DataW H × List MemPlace}
 (h:DataW.trod enc Tryz.prog w base (fun _=>true) held fuel 23 [.slice a len cap]=some x):∃ L,AcL w a len cap L∧∀ y∈L,AnyW y:=by
 rcases open_slice Tryz.underlying23 h with ⟨hcs,_⟩ | ⟨a',l,c,m,n,D,Pl,hcs,hb,hl,hm,hmm,hx,hi⟩
 · simp at hcs
   obtain⟨rfl,rfl,rfl⟩:=hcs
   exact⟨[],⟨SlG.empty w,fun y hy=>by cases hy⟩,fun y hy=>by cases hy⟩
 · simp at hcs
   obtain⟨rfl,rfl,rfl⟩:=hcs
   rw [if_pos rfl] at hmm
   subst hmm
   have hall:∀ i,i<len→∃ y:Wa,WaIn w y∧∀ j u,(wae y)[j]?=some u→w.cell? (a'.add (i*22+j))=some u:=by
    intro i hil
    obtain⟨cs',hc,ht⟩:=hi i (by omega)
    rw [actCells22] at hc
    obtain⟨y,hy,rfl⟩:=wact_trod ht
    obtain⟨_,hcl,hat⟩:=World.cells?_some hc
    refine⟨y,hy,fun j u hu=>?_⟩
    have hj:j<22:=(List.getElem?_eq_some_iff.1 hu).1
    have:=hat j hj
    rw [← Go.Deep.add_add,this]
    exact hu
   obtain⟨f,hf⟩:∃ f:Nat→Wa,∀ i,i<len→WaIn w (f i)∧∀ j u,(wae (f i))[j]?=some u→w.cell? (a'.add (i*22+j))=some u :=
    ⟨fun i=>if h:i<len then Classical.choose (hall i h) else wa0,fun i h=>by dsimp only;rw [dif_pos h];exact Classical.choose_spec (hall i h)⟩
   refine⟨(List.range len).map f,⟨⟨by simp,hl,hm,(fun h=>by cases h),fun h0=>?_⟩,fun y hy=>?_⟩,fun y hy=>trivial⟩
   · have h00:=(hf 0 h0).2 0 _ rfl
     have hsp:a'.spot=none:=World.cell?_spot (a:=a') (by simpa [Addr.add] using h00)
     obtain⟨b,off,sp⟩:=a'
     replace hsp:sp=none:=hsp
     subst hsp
     rw [Go.WideShapes.add_plain] at h00
     refine⟨b,off,rfl,World.block_lt_of_cell? _ _ h00,fun j hj i v hv=>?_⟩
     have e:((List.range len).map f).getD j wa0=f j:=by
      rw [List.getD,List.getElem?_map,List.getElem?_range hj];rfl
     rw [e] at hv
     have:=(hf j hj).2 i v hv
     rwa [Go.WideShapes.add_plain,← Nat.add_assoc] at this
   · obtain⟨i,hi',rfl⟩:=List.mem_map.1 hy
     exact (hf i (List.mem_range.1 hi')).1
end
end Go.Proofs.YtfdgnniicjdjdaaGreatDoor
namespace Go.Proofs.YtfdgnniicjdjdaaGreatDoor
open Go.Lib (hid)
set_option maxHeartbeats 4000000
open Go.RowKit Go.ChangeShapes Go.WideShapes
set_option linter.unusedVariables false
set_option maxRecDepth 10000
set_option linter.unusedSimpArgs false
theorem z5d {P:Program} (w:World) (g i:Nat) (ty:TypeId) (part:Array Value) (d:TypeDesc) (hp:∀ j u,part.toList[j]?=some u→w.cell? ⟨g,i+j,none⟩=some u)
 (hu:P.underlying ty=some d) (hd:(match d with | .struct _ | .array _ _=>true | _=>false)=true) (hi:(P.info? ty).map (·.size)=some part.size) :
 (loadVar ty ⟨g,i,none⟩).run P w=.ok (.agg part) w:=by
 have hl:(loadCells ⟨g,i,none⟩ part.toList.length).run P w=.ok part.toList.toArray w :=
  run_loadCells_list (P:=P) w ⟨g,i,none⟩ part.toList (fun j v hv=>by
   rw [q1b]
   exact hp j v hv)
 cases hq:P.info? ty with
 | none=>simp [hq] at hi
 | some inf =>
  have hs:inf.size=part.size:=by simpa [hq] using hi
  have hagg:(isAgg ty).run P w=.ok true w:=by
   unfold isAgg
   rw [Sem.run_bind,run_underlying hu w]
   cases d <;> simp_all
  simp only [Array.length_toList,Array.toArray_toList] at hl
  simp [loadVar,Sem.run_bind,hagg,sizeOf,typeInfo,hq,hs,hl]
section
variable {ops:Array Oper} {rest:List Oper} {a:Act} {w:World} {Q:Exit→Act→World→Prop} {dst:Option Tmp} {ty:TypeId} {pos:String} {after:Array Edge}
theorem z2l {x:Operand} {g i:Nat} {r:Rv} (hx:a.eval x=.pointer (some ⟨g,i,none⟩)) (hC:∀ j u,(rcs r).toList[j]?=some u→w.cell? ⟨g,i+j,none⟩=some u)
 (h:wpList Tryz.prog ops Q rest (a.put dst (.agg (rcs r))) w):wpList Tryz.prog ops Q (Oper.mk dst (.load 51 x) ty pos after none::rest) a w:=by
 refine wpList_plain rfl fun K hK=>?_
 unfold Oper.wp execOp
 simp only [hx,Instr.loadAt,Instr.sureAddr,Sem.run_bind,Sem.run_pure,Result.andThen_ok,z5d (P:=Tryz.prog) w g i 51 (rcs r) _ hC Tryz.underlying51 rfl (by kernel_rfl)]
 exact hK _ _ h
theorem wpList_load_pat {x:Operand} {g i:Nat} {r:Rv} (hx:a.eval x=.pointer (some ⟨g,i,none⟩)) (hC:∀ j u,(pcs r).toList[j]?=some u→w.cell? ⟨g,i+j,none⟩=some u)
 (h:wpList Tryz.prog ops Q rest (a.put dst (.agg (pcs r))) w):wpList Tryz.prog ops Q (Oper.mk dst (.load 49 x) ty pos after none::rest) a w:=by
 refine wpList_plain rfl fun K hK=>?_
 unfold Oper.wp execOp
 simp only [hx,Instr.loadAt,Instr.sureAddr,Sem.run_bind,Sem.run_pure,Result.andThen_ok,z5d (P:=Tryz.prog) w g i 49 (pcs r) _ hC Tryz.underlying49 rfl (by kernel_rfl)]
 exact hK _ _ h
end
theorem AcL.at {w:World} {p:Option Addr} {n c:Nat} {H:List Wa} (h:AcL w p n c H) {j:Nat} (hj:j<n):∃ b off,p=some ⟨b,off,none⟩∧b<w.heap.size∧w.cell? ⟨b,off+j*22,none⟩=some (.int .u8 (H.getD j wa0).k)∧w.cell? ⟨b,off+j*22+21,none⟩=some (.int .i64 (H.getD j wa0).x) ∧
 (∀ i u,(rcs (H.getD j wa0).r).toList[i]?=some u→w.cell? ⟨b,off+j*22+1+i,none⟩=some u)∧(∀ i u,(pcs (H.getD j wa0).r).toList[i]?=some u→w.cell? ⟨b,off+j*22+11+i,none⟩=some u):=by
 obtain⟨b,off,hp,hlt,hc⟩:=h.row.cell (by omega)
 refine⟨b,off,hp,hlt,?_,?_,fun i u hu=>?_,fun i u hu=>?_⟩
 · exact hc j hj 0 _ rfl
 · exact hc j hj 21 _ rfl
 · have:=hc j hj (1+i) u (wae_rec _ i u hu)
   rwa [← Nat.add_assoc] at this
 · have hi:i<10:=(List.getElem?_eq_some_iff.1 hu).1
   have h1:(rcs (H.getD j wa0).r).toList[10+i]?=some u:=by
    rcases (by omega:i=0∨i=1∨i=2∨i=3∨i=4∨i=5∨i=6∨i=7∨i=8∨i=9) with rfl | rfl | rfl | rfl | rfl | rfl | rfl | rfl | rfl | rfl <;> exact hu
   have:=hc j hj (1+(10+i)) u (wae_rec _ (10+i) u h1)
   rw [show off+j*22+(1+(10+i))=off+j*22+11+i by omega] at this
   exact this
def SmW (r:Rv):Prop:=r.ln≤20∧r.tn≤30∧r.wn≤20
def FewW (W:World) (n k:Nat) (H:List Wa) (e:Ending) (w':World):Prop:=∃ t:Bool,e=.returned (.bool t)∧(t=true→n≤k∧∀ j,j<n→SmW (H.getD j wa0).r)∧Below W.heap.size W w'
theorem wal_few (p:Option Addr) (n c k:Nat) (H:List Wa) (w:World) (hk:k≤1000) (h:AcL w p n c H):Calls Tryz.prog 10 #[.slice p n c,.int .i64 (k:Nat)] w (FewW w n k H):=by
 have HA:=hid h
 have hcap:=h.row.cap
 clear h
 go_enter Tryz.func10,Tryz.ntmps10
 by_cases hn:k<n
 · have hn':(k:Int)<n:=by omega
   have HX:Hid (FewW w n k H (.returned (.bool false)) w):=hid ⟨false,rfl,(fun h=>by cases h),Below.refl _ _⟩
   go_wp2_with fail
   go_ret
   exact HX.out
 · have hn':¬ (k:Int)<n:=by omega
   have HNK:Hid (n≤k):=hid (by omega)
   go_wp2_with fail
   go_loopw [5] (fun i wr=>∃ j:Nat,j≤n∧i=.int .i64 j∧Hid ((∀ i,i<j→SmW (H.getD i wa0).r)∧Below w.heap.size w wr)) (fun i _=>n-(intOf i).toNat)
   case atStart=>exact⟨0,Nat.zero_le _,rfl,hid ⟨(fun j hj=>by omega),Below.refl _ _⟩⟩
   case round =>
    obtain⟨j,hj,rfl,HR⟩:=hrel
    by_cases hlt:j<n
    · have hlt':(j:Int)<n:=by omega
      obtain⟨b,off,rfl,_,_,_,_,hpc⟩:=(HA.out.later HR.out.2).at hlt
      have hfw:=few_p (H.getD j wa0).r.pk (H.getD j wa0).r.od (H.getD j wa0).r.po (H.getD j wa0).r.lp (H.getD j wa0).r.ln (H.getD j wa0).r.lcp (H.getD j wa0).r.tp (H.getD j wa0).r.tn (H.getD j wa0).r.tcp (H.getD j wa0).r.wp (H.getD j wa0).r.wn (H.getD j wa0).r.wcp (H.getD j wa0).r.sk (H.getD j wa0).r.fr (H.getD j wa0).r.to (H.getD j wa0).r.q wr
      have HST:Hid (fewI (H.getD j wa0).r.ln (H.getD j wa0).r.tn (H.getD j wa0).r.wn=1→∀ i,i<j+1→SmW (H.getD i wa0).r):=hid fun h i hi=>by
       rcases Nat.lt_or_ge i j with h' | h'
       · exact HR.out.1 i h'
       · obtain rfl:i=j:=by omega
         unfold fewI at h
         by_cases hs:(H.getD i wa0).r.ln≤20∧(H.getD i wa0).r.tn≤30∧(H.getD i wa0).r.wn≤20
         · exact hs
         · rw [if_neg hs] at h
           cases h
      have HFI:Hid (fewI (H.getD j wa0).r.ln (H.getD j wa0).r.tn (H.getD j wa0).r.wn=0∨fewI (H.getD j wa0).r.ln (H.getD j wa0).r.tn (H.getD j wa0).r.wn=1):=hid (by
       unfold fewI
       split
       · exact .inr rfl
       · exact .inl rfl)
      have HPC:=hid hpc
      have HFW:=hid hfw
      clear hpc hfw
      generalize H.getD j wa0=y at *
      generalize fewI y.r.ln y.r.tn y.r.wn=fi at *
      rcases HFI.out with rfl | rfl
      · go_wp2_with ((with_reducible refine wpList_load_pat (r:=y.r) ?_ HPC.out ?_);rfl)
        refine HFW.out.mono ?_
        rintro e w2 ⟨rfl,hb2⟩
        have HX:Hid (FewW w n k H (.returned (.bool false)) w2):=hid ⟨false,rfl,(fun h=>by cases h),HR.out.2.trans (hb2.mono HR.out.2.size)⟩
        clear hb2
        go_wp2_with fail
        go_ret
        exact HX.out
      · go_wp2_with ((with_reducible refine wpList_load_pat (r:=y.r) ?_ HPC.out ?_);rfl)
        refine HFW.out.mono ?_
        rintro e w2 ⟨rfl,hb2⟩
        have HB2:=hid (HR.out.2.trans (hb2.mono HR.out.2.size))
        clear hb2
        go_wp2_with fail
        go_roundw
        case rel=>exact⟨j+1,by omega,by go_num,hid ⟨HST.out (by trivial),HB2.out⟩⟩
        case measure=>simp [intOf];omega
    · obtain rfl:n=j:=by omega
      have HX:Hid (FewW w n k H (.returned (.bool true)) wr):=hid ⟨true,rfl,fun _=>⟨HNK.out,HR.out.1⟩,HR.out.2⟩
      go_wp2_with fail
      go_ret
      exact HX.out
theorem quiet_load_rat {W:World} {K:Act→Prop} {a:Act} {dst:Option Tmp} {x:Operand} {ty:TypeId} {pos:String} {after:Array Edge} {gd:Option (Nat × Bool)} {g i:Nat} {r:Rv} (hx:a.eval x=.pointer (some ⟨g,i,none⟩)) (hC:∀ j u,(rcs r).toList[j]?=some u→W.cell? ⟨g,i+j,none⟩=some u)
 (hk:K (a.put dst (.agg (rcs r)))):(Oper.mk dst (.load 51 x) ty pos after gd).quiet Tryz.prog a (fun w'=>∃ p:After W,w'=p.w) K:=by
 refine⟨.agg (rcs r),fun w hw=>?_,hk⟩
 obtain⟨p,rfl⟩:=hw
 unfold Oper.quietAt execOp
 simp only [hx,Instr.loadAt,Instr.sureAddr,Sem.run_bind,Sem.run_pure,Result.andThen_ok,z5d (P:=Tryz.prog) p.w g i 51 (rcs r) _ (fun j u hu=>z3f p (hC j u hu)) Tryz.underlying51 rfl (by kernel_rfl)]
 exact⟨rfl,rfl⟩
theorem EL.at {w:World} {p:Option Addr} {n c:Nat} {H:List Eh} {S:List En} (h:EL w p n c H S) {j:Nat} (hj:j<n):∃ b off,p=some ⟨b,off,none⟩∧b<w.heap.size∧w.cell? ⟨b,off+j*21,none⟩=some (.int .i64 (S.getD j (0,noX)).1) ∧
 ∃ r L T M,(∀ i u,(rcs r).toList[i]?=some u→w.cell? ⟨b,off+j*21+1+i,none⟩=some u)∧r.x L T M=(S.getD j (0,noX)).2∧RvM w r L T M:=by
 obtain⟨b,off,hp,hlt,hc⟩:=h.row.cell (by omega)
 obtain⟨h1,L,T,M,h2,h3⟩:=h.tells.at j (by rw [h.row.len];exact hj)
 refine⟨b,off,hp,hlt,?_,(H.getD j eh0).2,L,T,M,fun i u hu=>?_,h2,h3⟩
 · rw [← h1]
   exact hc j hj 0 _ rfl
 · have hi:i<20:=(List.getElem?_eq_some_iff.1 hu).1
   have:=hc j hj (1+i) u ((en_cons _ i hi).trans hu)
   rwa [← Nat.add_assoc] at this
def SmX (X:Rx):Prop:=X.pg.lines.length≤400∧X.pg.takes.length≤400∧X.pg.owes.length≤400
theorem smX_rv {w:World} {r:Rv} {L:List Ln} {T:List Tk} {M:List Ln} {X:Rx} (h:SmX X) (hx:r.x L T M=X) (hm:RvM w r L T M):r.ln≤400∧r.tn≤400∧r.wn≤400:=by
 subst hx
 exact⟨by rw [← hm.l.len];exact h.1,by rw [← hm.t.len];exact h.2.1,by rw [← hm.o.len];exact h.2.2⟩
theorem ents_same {W:World} {p p':Option Addr} {n c c':Nat} {H H':List Eh} {S:List En} (h:EL W p n c H S) (h':EL W p' n c' H' S) (hn:n≤100000) (hsm:∀ E∈S,SmX E.2) :
 Calls Tryz.prog 32 #[.slice p n c,.slice p' n c'] W fun e w'=>e=.returned (.bool true)∧Below W.heap.size W w':=by
 have HA:=hid h
 have HB:=hid h'
 have HSM:=hid hsm
 have hc1:=h.row.cap
 have hc2:=h'.row.cap
 have HLN:Hid (S.length=n):=hid (by rw [← h.tells.len];exact h.row.len)
 clear h h' hsm
 go_enter Tryz.func32,Tryz.ntmps32
 go_wp2_with fail
 go_loopw [5] (fun i wr=>∃ j:Nat,j≤n∧i=.int .i64 j∧Hid (Below W.heap.size W wr)) (fun i _=>n-(intOf i).toNat)
 case atStart=>exact⟨0,Nat.zero_le _,rfl,hid (Below.refl _ _)⟩
 case round =>
  obtain⟨j,hj,rfl,HR⟩:=hrel
  by_cases hlt:j<n
  · have hlt':(j:Int)<n:=by omega
    have hd1:decide ((n:Int)≤(j:Int))=false:=decide_eq_false (by omega)
    obtain⟨b,off,rfl,_,x1,r,L,T,M,hrc,hx,hm⟩:=(HA.out.later HR.out).at hlt
    obtain⟨b',off',rfl,_,x1',r',L',T',M',hrc',hx',hm'⟩:=(HB.out.later HR.out).at hlt
    have hs:SmX (S.getD j (0,noX)).2:=by
     rw [List.getD,List.getElem?_eq_getElem (by rw [HLN.out];exact hlt)]
     exact HSM.out _ (List.getElem_mem _)
    have hq1:=smX_rv hs hx hm
    have hq2:=smX_rv hs hx' hm'
    have hcs:∀ q:After wr,Calls Tryz.prog 51 #[.agg (rcs r),.agg (rcs r')] q.w fun e w'=>e=.returned (.bool true)∧Below q.w.heap.size q.w w':=fun q=>by
     have:=z2z r r' L T M L' T' M' q.w (hm.later q.h) (hm'.later q.h) (by omega) (by omega)
     rw [hx,hx'] at this
     simpa using this
    have HC:=hid hcs
    have HRC:=hid hrc
    have HRC':=hid hrc'
    clear hrc hrc' hx hx' hm hm' hs hq1 hq2 hcs
    generalize (S.getD j (0,noX)).1=v at *
    go_wp2_with fail
    have y1:=fun (p:After wr)=>z3f p x1
    have y1':=fun (p:After wr)=>z3f p x1'
    refine z1m (by kernel_rfl) (by kernel_rfl) ?_
    repeat (first | (go_big_quiet_want;(with_reducible refine quiet_load_rat ?_ HRC.out ?_);rfl;go_simp;go_big_quiet_on) | (go_big_quiet_want;(with_reducible refine quiet_load_rat ?_ HRC'.out ?_);rfl;go_simp;go_big_quiet_on) | go_big_quiet_step (first | (go_at_call 51;exact z2j _ (HC.out _))))
    refine wpQuiet_nil ?_
    intro w4 hw'
    obtain⟨⟨wq,h6⟩,hw''⟩:=hw'
    subst hw''
    have HR4:=hid (HR.out.trans (h6.mono HR.out.size))
    clear h6
    go_wp2_with fail
    go_roundw
    case rel=>exact⟨j+1,by omega,by go_num,HR4⟩
    case measure=>simp [intOf];omega
  · obtain rfl:n=j:=by omega
    go_wp2_with fail
    go_ret
    exact⟨rfl,HR.out⟩
end Go.Proofs.YtfdgnniicjdjdaaGreatDoor
