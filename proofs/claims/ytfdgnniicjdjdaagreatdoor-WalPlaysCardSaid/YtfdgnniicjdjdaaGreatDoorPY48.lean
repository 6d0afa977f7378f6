import Derived.Test.YtfdgnniicjdjdaaGreatDoorPY42
import Derived.RangeFuncNested
namespace Go.Proofs.YtfdgnniicjdjdaaGreatDoor
open Go.Lib (hid)
set_option maxHeartbeats 2000000
open Go.RowKit Go.ChangeShapes Go.WideShapes
set_option linter.unusedVariables false
set_option maxRecDepth 10000
def Lb (r:Rv) (b:Nat):Prop:=(0<r.ln∧∃ a,r.lp=some a∧a.block=b)∨(0<r.tn∧∃ a,r.tp=some a∧a.block=b)∨(0<r.wn∧∃ a,r.wp=some a∧a.block=b)
end Go.Proofs.YtfdgnniicjdjdaaGreatDoor
namespace Go.Proofs.YtfdgnniicjdjdaaGreatDoor
open Go.Lib (hid)
set_option maxHeartbeats 2000000
open Go.RowKit Go.ChangeShapes Go.WideShapes Go.Deep
set_option linter.unusedVariables false
set_option maxRecDepth 10000
structure Wa where
 k:Int
 r:Rv
 x:Int
def wa0:Wa:=⟨0,rz,0⟩
def wcs (y:Wa):Array Value:=#[.int .u8 y.k,.int .u8 y.r.k,.int .u32 y.r.sg,.int .u32 y.r.tx,.int .u8 y.r.st,.bool y.r.cp,.int .u8 y.r.ka,.int .u8 y.r.kb,.int .u8 y.r.kc,.int .i64 y.r.d,.int .u8 y.r.o,.int .u8 y.r.pk,.int .u32 y.r.od,.int .u8 y.r.po,.slice y.r.lp y.r.ln y.r.lcp,.slice y.r.tp y.r.tn y.r.tcp,.slice y.r.wp y.r.wn y.r.wcp,.int .u8 y.r.sk,.int .u8 y.r.fr,.int .u8 y.r.to,.int .i64 y.r.q,.int .i64 y.x]
def wae (y:Wa):List Value:=(wcs y).toList
theorem wae_rec (y:Wa):∀ i u,(rcs y.r).toList[i]?=some u→(wae y)[1+i]?=some u:=by
 intro i u hu
 have hi:i<20:=(List.getElem?_eq_some_iff.1 hu).1
 rcases (by omega:i=0∨i=1∨i=2∨i=3∨i=4∨i=5∨i=6∨i=7∨i=8∨i=9∨i=10∨i=11∨i=12∨i=13∨i=14∨i=15∨i=16∨i=17∨i=18∨i=19) with rfl | rfl | rfl | rfl | rfl | rfl | rfl | rfl | rfl | rfl | rfl | rfl | rfl | rfl | rfl | rfl | rfl | rfl | rfl | rfl <;> exact hu
structure WaIn (w:World) (y:Wa):Prop where
 k:0≤y.k∧y.k≤255
 x:In64 y.x
 all:∃ L T M,Rxok (y.r.x L T M)∧RvM w y.r L T M
theorem WaIn.later {w w':World} {y:Wa} (h:WaIn w y) (hb:Below w.heap.size w w'):WaIn w' y:=by
 obtain⟨L,T,M,h1,h2⟩:=h.all
 exact⟨h.k,h.x,L,T,M,h1,h2.later hb⟩
structure AcL (w:World) (p:Option Addr) (n c:Nat) (H:List Wa):Prop where
 row:SlG wae 22 wa0 w p n c H
 each:∀ y∈H,WaIn w y
theorem AcL.later {w w':World} {p:Option Addr} {n c:Nat} {H:List Wa} (h:AcL w p n c H) (hb:Below w.heap.size w w'):AcL w' p n c H:=⟨h.row.later hb,fun y hy=>(h.each y hy).later hb⟩
theorem AcL.in {w:World} {p:Option Addr} {n c:Nat} {H:List Wa} (h:AcL w p n c H) {j:Nat} (hj:j<n):WaIn w (H.getD j wa0):=by
 have hl:j<H.length:=by rw [h.row.len];exact hj
 rw [List.getD,List.getElem?_eq_getElem hl]
 exact h.each _ (List.getElem_mem hl)
def AnyW (_:Wa):Prop:=True
theorem actCells22:Tryz.prog.cellsOf 53=22:=by kernel_rfl
theorem u8Cells1:Tryz.prog.cellsOf 5=1:=by kernel_rfl
theorem i64Cells1:Tryz.prog.cellsOf 2=1:=by kernel_rfl
section
variable {H:Type} {enc:TypeId × Value→H} {w:World} {base:Nat} {held:Bool}
theorem wact_trod {fuel:Nat} {cs:List Value} {d:DataW H × List MemPlace} (h:DataW.trod enc Tryz.prog w base (fun _=>true) held fuel 53 cs=some d):∃ y:Wa,WaIn w y∧cs=wae y:=by
 obtain⟨_,_,_,_,hlen,_,_⟩:=DataW.trod_struct Tryz.underlying53 h
 rw [actCells22] at hlen
 obtain⟨y0,y1,y2,n,_,_,t0,t1,t2⟩:=trod_struct3 Tryz.underlying53 h
 obtain⟨v0,v1,v2,v3,v4,v5,v6,v7,v8,v9,v10,v11,v12,v13,v14,v15,v16,v17,v18,v19,v20,v21,rfl⟩:∃ v0 v1 v2 v3 v4 v5 v6 v7 v8 v9 v10 v11 v12 v13 v14 v15 v16 v17 v18 v19 v20 v21,cs=[v0,v1,v2,v3,v4,v5,v6,v7,v8,v9,v10,v11,v12,v13,v14,v15,v16,v17,v18,v19,v20,v21]:=by
  match cs,hlen with
  | [a0,a1,a2,a3,a4,a5,a6,a7,a8,a9,a10,a11,a12,a13,a14,a15,a16,a17,a18,a19,a20,a21],_=>exact⟨a0,a1,a2,a3,a4,a5,a6,a7,a8,a9,a10,a11,a12,a13,a14,a15,a16,a17,a18,a19,a20,a21,rfl⟩
 simp only [recCells20,u8Cells1,i64Cells1,List.drop_zero,List.drop_succ_cons,List.take_succ_cons,List.take_zero] at t0 t1 t2
 obtain⟨z0,hv0,_,wf0⟩:=DataW.trod_int Tryz.underlying5 t0
 obtain⟨r,L,T,M,hr,hok,hm⟩:=rec_trod t1
 obtain⟨z2,hv2,_,wf2⟩:=DataW.trod_int Tryz.underlying2 t2
 simp at hv0 hv2
 subst hv0 hv2
 refine⟨⟨z0,r,z2⟩,⟨bounds_u8 wf0,bounds_i64 wf2,L,T,M,hok,hm⟩,?_⟩
 simp only [rcs,List.cons.injEq,and_true] at hr
 obtain⟨g0,g1,g2,g3,g4,g5,g6,g7,g8,g9,g10,g11,g12,g13,g14,g15,g16,g17,g18,g19⟩:=hr
 subst g0 g1 g2 g3 g4 g5 g6 g7 g8 g9 g10 g11 g12 g13 g14 g15 g16 g17 g18 g19
 rfl
theorem open_wacts {fuel:Nat} {a:Option Addr} {len cap:Nat} {x:DataW H × List MemPlace}
 (h:DataW.trod enc Tryz.prog w base (fun _=>true) held fuel 23 [.slice a len cap]=some x):∃ L,AcL w a len cap L∧∀ y∈L,AnyW y:=by
 rcases open_slice Tryz.underlying23 h with ⟨hcs,_⟩ | ⟨a',l,c,m,n,D,Pl,hcs,hb,hl,hm,hmm,hx,hi⟩
 · simp at hcs
   obtain⟨rfl,rfl,rfl⟩:=hcs
   exact⟨[],⟨SlG.empty w,fun y hy=>by cases hy⟩,fun y hy=>by cases hy⟩
 · simp at hcs
   obtain⟨rfl,rfl,rfl⟩:=hcs
   rw [if_pos rfl] at hmm
   subst hmm
   have hall:∀ i,i<len→∃ y:Wa,WaIn w y∧∀ j u,(wae y)[j]?=some u→w.cell? (a'.add (i*22+j))=some u:=by
    intro i hil
    obtain⟨cs',hc,ht⟩:=hi i (by omega)
    rw [actCells22] at hc
    obtain⟨y,hy,rfl⟩:=wact_trod ht
    obtain⟨_,hcl,hat⟩:=World.cells?_some hc
    refine⟨y,hy,fun j u hu=>?_⟩
    have hj:j<22:=(List.getElem?_eq_some_iff.1 hu).1
    have:=hat j hj
    rw [← Go.Deep.add_add,this]
    exact hu
   obtain⟨f,hf⟩:∃ f:Nat→Wa,∀ i,i<len→WaIn w (f i)∧∀ j u,(wae (f i))[j]?=some u→w.cell? (a'.add (i*22+j))=some u :=
    ⟨fun i=>if h:i<len then Classical.choose (hall i h) else wa0,fun i h=>by dsimp only;rw [dif_pos h];exact Classical.choose_spec (hall i h)⟩
   refine⟨(List.range len).map f,⟨⟨by simp,hl,hm,(fun h=>by cases h),fun h0=>?_⟩,fun y hy=>?_⟩,fun y hy=>trivial⟩
   · have h00:=(hf 0 h0).2 0 _ rfl
     have hsp:a'.spot=none:=World.cell?_spot (a:=a') (by simpa [Addr.add] using h00)
     obtain⟨b,off,sp⟩:=a'
     replace hsp:sp=none:=hsp
     subst hsp
     rw [Go.WideShapes.add_plain] at h00
     refine⟨b,off,rfl,World.block_lt_of_cell? _ _ h00,fun j hj i v hv=>?_⟩
     have e:((List.range len).map f).getD j wa0=f j:=by
      rw [List.getD,List.getElem?_map,List.getElem?_range hj];rfl
     rw [e] at hv
     have:=(hf j hj).2 i v hv
     rwa [Go.WideShapes.add_plain,← Nat.add_assoc] at this
   · obtain⟨i,hi',rfl⟩:=List.mem_map.1 hy
     exact (hf i (List.mem_range.1 hi')).1
end
end Go.Proofs.YtfdgnniicjdjdaaGreatDoor
namespace Go.Proofs.YtfdgnniicjdjdaaGreatDoor
open Go.Lib (hid)
set_option maxHeartbeats 2000000
open Go.RowKit Go.ChangeShapes Go.WideShapes
set_option linter.unusedVariables false
set_option maxRecDepth 10000
theorem z4u {P:Program} (w:World) (g i:Nat) (ty:TypeId) (part:Array Value) (d:TypeDesc) (hp:∀ j u,part.toList[j]?=some u→w.cell? ⟨g,i+j,none⟩=some u)
 (hu:P.underlying ty=some d) (hd:(match d with | .struct _ | .array _ _=>true | _=>false)=true) (hi:(P.info? ty).map (·.size)=some part.size) :
 (loadVar ty ⟨g,i,none⟩).run P w=.ok (.agg part) w:=by
 have hl:(loadCells ⟨g,i,none⟩ part.toList.length).run P w=.ok part.toList.toArray w :=
  run_loadCells_list (P:=P) w ⟨g,i,none⟩ part.toList (fun j v hv=>by
   rw [q0o]
   exact hp j v hv)
 cases hq:P.info? ty with
 | none=>simp [hq] at hi
 | some inf =>
  have hs:inf.size=part.size:=by simpa [hq] using hi
  have hagg:(isAgg ty).run P w=.ok true w:=by
   unfold isAgg
   rw [Sem.run_bind,run_underlying hu w]
   cases d <;> simp_all
  simp only [Array.length_toList,Array.toArray_toList] at hl
  simp [loadVar,Sem.run_bind,hagg,sizeOf,typeInfo,hq,hs,hl]
section
variable {ops:Array Oper} {rest:List Oper} {a:Act} {w:World} {Q:Exit→Act→World→Prop} {dst:Option Tmp} {ty:TypeId} {pos:String} {after:Array Edge}
theorem wpList_load_rat {x:Operand} {g i:Nat} {r:Rv} (hx:a.eval x=.pointer (some ⟨g,i,none⟩)) (hC:∀ j u,(rcs r).toList[j]?=some u→w.cell? ⟨g,i+j,none⟩=some u)
 (h:wpList Tryz.prog ops Q rest (a.put dst (.agg (rcs r))) w):wpList Tryz.prog ops Q (Oper.mk dst (.load 51 x) ty pos after none::rest) a w:=by
 refine wpList_plain rfl fun K hK=>?_
 unfold Oper.wp execOp
 simp only [hx,Instr.loadAt,Instr.sureAddr,Sem.run_bind,Sem.run_pure,Result.andThen_ok,z4u (P:=Tryz.prog) w g i 51 (rcs r) _ hC Tryz.underlying51 rfl (by kernel_rfl)]
 exact hK _ _ h
theorem wpList_load_pat {x:Operand} {g i:Nat} {r:Rv} (hx:a.eval x=.pointer (some ⟨g,i,none⟩)) (hC:∀ j u,(pcs r).toList[j]?=some u→w.cell? ⟨g,i+j,none⟩=some u)
 (h:wpList Tryz.prog ops Q rest (a.put dst (.agg (pcs r))) w):wpList Tryz.prog ops Q (Oper.mk dst (.load 49 x) ty pos after none::rest) a w:=by
 refine wpList_plain rfl fun K hK=>?_
 unfold Oper.wp execOp
 simp only [hx,Instr.loadAt,Instr.sureAddr,Sem.run_bind,Sem.run_pure,Result.andThen_ok,z4u (P:=Tryz.prog) w g i 49 (pcs r) _ hC Tryz.underlying49 rfl (by kernel_rfl)]
 exact hK _ _ h
end
theorem AcL.at {w:World} {p:Option Addr} {n c:Nat} {H:List Wa} (h:AcL w p n c H) {j:Nat} (hj:j<n):∃ b off,p=some ⟨b,off,none⟩∧b<w.heap.size∧w.cell? ⟨b,off+j*22,none⟩=some (.int .u8 (H.getD j wa0).k)∧w.cell? ⟨b,off+j*22+21,none⟩=some (.int .i64 (H.getD j wa0).x) ∧
 (∀ i u,(rcs (H.getD j wa0).r).toList[i]?=some u→w.cell? ⟨b,off+j*22+1+i,none⟩=some u)∧(∀ i u,(pcs (H.getD j wa0).r).toList[i]?=some u→w.cell? ⟨b,off+j*22+11+i,none⟩=some u):=by
 obtain⟨b,off,hp,hlt,hc⟩:=h.row.cell (by omega)
 refine⟨b,off,hp,hlt,?_,?_,fun i u hu=>?_,fun i u hu=>?_⟩
 · exact hc j hj 0 _ rfl
 · exact hc j hj 21 _ rfl
 · have:=hc j hj (1+i) u (wae_rec _ i u hu)
   rwa [← Nat.add_assoc] at this
 · have hi:i<10:=(List.getElem?_eq_some_iff.1 hu).1
   have h1:(rcs (H.getD j wa0).r).toList[10+i]?=some u:=by
    rcases (by omega:i=0∨i=1∨i=2∨i=3∨i=4∨i=5∨i=6∨i=7∨i=8∨i=9) with rfl | rfl | rfl | rfl | rfl | rfl | rfl | rfl | rfl | rfl <;> exact hu
   have:=hc j hj (1+(10+i)) u (wae_rec _ (10+i) u h1)
   rw [show off+j*22+(1+(10+i))=off+j*22+11+i by omega] at this
   exact this
def SmW (r:Rv):Prop:=r.ln≤20∧r.tn≤30∧r.wn≤20
def FewW (W:World) (n k:Nat) (H:List Wa) (e:Ending) (w':World):Prop:=∃ t:Bool,e=.returned (.bool t)∧(t=true→n≤k∧∀ j,j<n→SmW (H.getD j wa0).r)∧Below W.heap.size W w'
theorem wal_few (p:Option Addr) (n c k:Nat) (H:List Wa) (w:World) (hk:k≤1000) (h:AcL w p n c H):Calls Tryz.prog 10 #[.slice p n c,.int .i64 (k:Nat)] w (FewW w n k H):=by
 have HA:=hid h
 have hcap:=h.row.cap
 clear h
 go_enter Tryz.func10,Tryz.ntmps10
 by_cases hn:k<n
 · have hn':(k:Int)<n:=by omega
   have HX:Hid (FewW w n k H (.returned (.bool false)) w):=hid ⟨false,rfl,(fun h=>by cases h),Below.refl _ _⟩
   go_wp2_with fail
   go_ret
   exact HX.out
 · have hn':¬ (k:Int)<n:=by omega
   have HNK:Hid (n≤k):=hid (by omega)
   go_wp2_with fail
   go_loopw [5] (fun i wr=>∃ j:Nat,j≤n∧i=.int .i64 j∧Hid ((∀ i,i<j→SmW (H.getD i wa0).r)∧Below w.heap.size w wr)) (fun i _=>n-(intOf i).toNat)
   case atStart=>exact⟨0,Nat.zero_le _,rfl,hid ⟨(fun j hj=>by omega),Below.refl _ _⟩⟩
   case round =>
    obtain⟨j,hj,rfl,HR⟩:=hrel
    by_cases hlt:j<n
    · have hlt':(j:Int)<n:=by omega
      obtain⟨b,off,rfl,_,_,_,_,hpc⟩:=(HA.out.later HR.out.2).at hlt
      have hfw:=few_p (H.getD j wa0).r.pk (H.getD j wa0).r.od (H.getD j wa0).r.po (H.getD j wa0).r.lp (H.getD j wa0).r.ln (H.getD j wa0).r.lcp (H.getD j wa0).r.tp (H.getD j wa0).r.tn (H.getD j wa0).r.tcp (H.getD j wa0).r.wp (H.getD j wa0).r.wn (H.getD j wa0).r.wcp (H.getD j wa0).r.sk (H.getD j wa0).r.fr (H.getD j wa0).r.to (H.getD j wa0).r.q wr
      have HST:Hid (fewI (H.getD j wa0).r.ln (H.getD j wa0).r.tn (H.getD j wa0).r.wn=1→∀ i,i<j+1→SmW (H.getD i wa0).r):=hid fun h i hi=>by
       rcases Nat.lt_or_ge i j with h' | h'
       · exact HR.out.1 i h'
       · obtain rfl:i=j:=by omega
         unfold fewI at h
         by_cases hs:(H.getD i wa0).r.ln≤20∧(H.getD i wa0).r.tn≤30∧(H.getD i wa0).r.wn≤20
         · exact hs
         · rw [if_neg hs] at h
           cases h
      have HFI:Hid (fewI (H.getD j wa0).r.ln (H.getD j wa0).r.tn (H.getD j wa0).r.wn=0∨fewI (H.getD j wa0).r.ln (H.getD j wa0).r.tn (H.getD j wa0).r.wn=1):=hid (by
       unfold fewI
       split
       · exact .inr rfl
       · exact .inl rfl)
      have HPC:=hid hpc
      have HFW:=hid hfw
      clear hpc hfw
      generalize H.getD j wa0=y at *
      generalize fewI y.r.ln y.r.tn y.r.wn=fi at *
      rcases HFI.out with rfl | rfl
      · go_wp2_with ((with_reducible refine wpList_load_pat (r:=y.r) ?_ HPC.out ?_);rfl)
        refine HFW.out.mono ?_
        rintro e w2 ⟨rfl,hb2⟩
        have HX:Hid (FewW w n k H (.returned (.bool false)) w2):=hid ⟨false,rfl,(fun h=>by cases h),HR.out.2.trans (hb2.mono HR.out.2.size)⟩
        clear hb2
        go_wp2_with fail
        go_ret
        exact HX.out
      · go_wp2_with ((with_reducible refine wpList_load_pat (r:=y.r) ?_ HPC.out ?_);rfl)
        refine HFW.out.mono ?_
        rintro e w2 ⟨rfl,hb2⟩
        have HB2:=hid (HR.out.2.trans (hb2.mono HR.out.2.size))
        clear hb2
        go_wp2_with fail
        go_roundw
        case rel=>exact⟨j+1,by omega,by go_num,hid ⟨HST.out (by trivial),HB2.out⟩⟩
        case measure=>simp [intOf];omega
    · obtain rfl:n=j:=by omega
      have HX:Hid (FewW w n k H (.returned (.bool true)) wr):=hid ⟨true,rfl,fun _=>⟨HNK.out,HR.out.1⟩,HR.out.2⟩
      go_wp2_with fail
      go_ret
      exact HX.out
end Go.Proofs.YtfdgnniicjdjdaaGreatDoor
