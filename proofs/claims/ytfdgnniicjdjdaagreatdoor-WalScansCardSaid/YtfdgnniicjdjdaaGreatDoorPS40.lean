import Derived.Test.YtfdgnniicjdjdaaGreatDoorPS00
import Derived.RangeFuncNested
namespace Go.Proofs.YtfdgnniicjdjdaaGreatDoor
open Go.RowKit Go.ChangeShapes Go.WideShapes
set_option linter.unusedVariables false
def SeqTells {α:Type} (F:Fence) (n:Nat) (P:Program) (g:Nat) (lb:Array Value) (encs:α→Array Value) (R:List α→α→World→Prop) (Kp:World→World→Prop) (S Sp:List α→Prop) (N:Nat) (w:World):Prop :=
 ∀ (l:Nat) (J Jx:List α→World→Prop) (W:World),Below w.heap.size w W→AbidesFrom W.heap.size J→AbidesFrom W.heap.size Jx →
  (∀ pre x W1,J pre W1→R pre x W1→pre.length<N→YieldAt F (n-1) P l (encs x) W1 fun e W'=>(e=.returned (.bool true)∧J (pre ++ [x]) W'∧Kp W1 W')∨(e=.returned (.bool false)∧Jx (pre ++ [x]) W')) →
  J [] W→CallsIn F n P g (#[.func (.yield l) #[] #[]]++lb) W fun e W'=>(∃ v,e=.returned v)∧((∃ xs,S xs∧J xs W')∨(∃ pre,Sp pre∧Jx pre W'))
def toldPost {α:Type} (B:Nat) (Kp:World→World→Prop) (I Ix:List α→World→Prop) (xs:List α) (W:World):Exit→Act→World→Prop
 | .normal,_,W'=>KeepsFrom B W W'∧Kp W W'∧I xs W'
 | .ret,_,W'=>KeepsFrom B W W'∧Ix xs W'
 | _,_,_=>False
section
variable {F:Fence} {n:Nat} {P:Program} {w:World}
theorem range_told {α:Type} {g:Operand} {ps:Array Tmp} {assign body:Code} {Q:Exit→Act→World→Prop} {a:Act}
 (hro:F.round=none) (h1:1≤n) {gf:Nat} {lb:Array Value} (hg:a.eval g=.func (.func gf) #[] lb) (hFg:F.fn gf) (eg:∀ args w,(callFunc gf args).run P w=.ok (.enter gf args) w)
 {encs:α→Array Value} {R:List α→α→World→Prop} {Kp:World→World→Prop} {S Sp:List α→Prop} {N:Nat} (hseq:SeqTells F (n-1) P gf lb encs R Kp S Sp N w)
 (hKt:∀ {A B C:World},Kp A B→Kp B C→Kp A C) (hKb:∀ (W:World) (l:Nat) (o o':Obj),w.heap.size≤l→W.heap[l]?=some o→o.isCells=false→o.isWalk=false→Kp W (W.putObj l o')) (hps:∀ x,(encs x).size=ps.size)
 (I Ix:List α→World→Prop) (hI:OwnFrom w.heap.size I) (hIx:OwnFrom w.heap.size Ix) (h0:I [] w) (Ax:List α→α→Act→World→Prop) (hAx:∀ pre x a',OwnFrom w.heap.size (fun (_:Unit) W=>Ax pre x a' W))
 (hassign:∀ (l:Nat) (pre:List α) (x:α) (W:World) (K:Act→World→Prop),I pre W→R pre x W→pre.length<N→(∀ a' W',KeepsFrom w.heap.size W W'→Kp W W'→I pre W'→Ax pre x a' W'→K a' W') →
  assign.wpIn (F.inRound l) (n-1-1) P (Exit.then K (fun _ _ _=>False)) { tmps:=(ps.zip (encs x)).foldl (fun t (p,v)=>t.setIfInBounds p v) a.tmps,defers:=[] } W)
 (hbody:∀ (l:Nat) (pre:List α) (x:α) (a':Act) (W:World),w.heap.size≤l→I pre W→Ax pre x a' W→pre.length<N→body.wpIn (F.inRound l) (n-1-1) P (toldPost w.heap.size Kp I Ix (pre ++ [x]) W) a' W)
 (hdone:∀ (D:Nat) (xs:List α) (W:World),w.heap.size≤D→S xs→I xs W→W.heap[D]?=some (.deferred (some []))→Q .normal { a with defers:={ target:=.collected D,args:=#[] } :: a.defers } W)
 (hstop:∀ (D:Nat) (pre:List α) (W:World),w.heap.size≤D→Sp pre→Ix pre W→W.heap[D]?=some (.deferred (some []))→Code.ret.wpIn F n P Q { a with defers:={ target:=.collected D,args:=#[] } :: a.defers } W) :
 (Code.rangeFunc g ps assign body).wpIn F n P Q a w:=by
 refine wpIn_rangeFunc fun fn hfn=>?_
 rw [hro]
 -- the loop's record,in each of its states
 obtain⟨lp,hlp⟩:∃ lp:LoopState→Option Code→Loop,∀ s j,lp s j={ state:=s,pending:=j,fn,tmps:=a.tmps,params:=ps,assign,body,defers:=w.heap.size }:=⟨_,fun _ _=>rfl⟩
 have hz:∀ s j,(lp s j).params=ps:=fun s j=>by rw [hlp]
 have hbusy:∀ j,({ lp .ready j with state:=.busy }:Loop)=lp .busy j:=fun j=>by rw [hlp,hlp]
 have hturn:∀ j s j',({ lp .busy j with state:=s,pending:=j' }:Loop)=lp s j':=fun j s j'=>by rw [hlp,hlp]
 obtain⟨W1,hW1⟩:∃ W1,(w.alloc (.deferred (some []))).alloc (.loop (lp .ready none))=W1:=⟨_,rfl⟩
 have hD1:W1.heap[w.heap.size]?=some (.deferred (some [])):=by rw [← hW1];exact (Below.heap_alloc _ _ _ (by simp)).trans (World.alloc_heap_new w _)
 have hL1:W1.heap[w.heap.size+1]?=some (.loop (lp .ready none)):=by
  have:=World.alloc_heap_new (w.alloc (.deferred (some []))) (.loop (lp .ready none))
  rw [World.size_alloc,hW1] at this
  exact this
 have hs1:W1.heap.size=w.heap.size+2:=by rw [← hW1];simp
 have hb1:Below w.heap.size w W1:=by rw [← hW1];exact ((Below.refl _ w).alloc (Nat.le_refl _) _).alloc (by simp) _
 have hi1:I [] W1:=by rw [← hW1];exact hI.alloc _ (hI.alloc _ h0)
 have hen:(Instr.enterLoop fn a.tmps ps assign body none).run P w=.ok (w.heap.size+1,[{ target:=.collected w.heap.size,args:=#[] }]) W1:=by
  rw [← hW1,hlp]
  exact run_enterLoop_outer _ _ _ _ _
 refine⟨w.heap.size+1,[{ target:=.collected w.heap.size,args:=#[] }],W1,{ target:=.fn (.func gf) lb,args:=#[.func (.yield (w.heap.size+1)) #[] #[]] },W1,gf,#[.func (.yield (w.heap.size+1)) #[] #[]]++lb,W1,hen,?_,?_,?_,fun _=>h1,?_⟩
 · simp only [resolve,hg]
   simp [go_sem]
 · intro f' hf'
   simp [Target.leads] at hf'
   subst hf'
   exact hFg
 · simp [invoke,go_sem,eg]
 -- what a walk's object turns is no cell,and none of the two blocks
 have hrow:∀ {A:World} {row:Option Nat},(∀ r,row=some r→W1.heap.size≤r∧∃ o:Obj,A.heap[r]?=some o∧o.isWalk=true)→∀ r,row=some r→w.heap.size≤r∧∃ o:Obj,A.heap[r]?=some o∧o.isCells=false:=fun hr r e=>by
  obtain⟨hB,o,ho,hw⟩:=hr r e
  exact⟨by omega,o,ho,Obj.not_cells_of_walk hw⟩
 have hstay:∀ {A B:World} {row:Option Nat} {k:Nat} {o:Obj},A.grownBy B row→(∀ r,row=some r→W1.heap.size≤r∧∃ o:Obj,A.heap[r]?=some o∧o.isWalk=true)→k<W1.heap.size→A.heap[k]?=some o→B.heap[k]?=some o:=fun hg' hr hk ho =>
  (hg'.block _ (Array.getElem?_eq_some_iff.1 ho).1 fun e=>by have:=(hr _ e.symm).1;omega).trans ho
 refine (hseq (w.heap.size+1) (fun pre W=>I pre W∧W.heap[w.heap.size+1]?=some (.loop (lp .ready none))∧W.heap[w.heap.size]?=some (.deferred (some [])))
  (fun pre W=>Ix pre W∧W.heap[w.heap.size+1]?=some (.loop (lp .done (some .ret)))∧W.heap[w.heap.size]?=some (.deferred (some []))) W1 hb1
  (fun s A B row hs hg' hr=>⟨hI s A B row hs.1 hg' (hrow hr),hstay hg' hr (by omega) hs.2.1,hstay hg' hr (by omega) hs.2.2⟩)
  (fun s A B row hs hg' hr=>⟨hIx s A B row hs.1 hg' (hrow hr),hstay hg' hr (by omega) hs.2.1,hstay hg' hr (by omega) hs.2.2⟩) ?_ ⟨hi1,hL1,hD1⟩).mono ?_
 · -- one round
   rintro pre x W ⟨hi,hl,hd⟩ hrx hlen
   have hy:=run_yield (P:=P) (args:=encs x) hl (by rw [hz];exact hps x)
   rw [hlp] at hy
   refine⟨fn,_,assign,body,hy,roundIn_of_wpIn hfn (hassign _ pre x W _ hi hrx hlen fun a' V hkf hkp hia hax=>?_)⟩
   have hl2:=hkf.same _ _ (by omega) hl rfl
   have hd2:=hkf.same _ _ (Nat.le_refl _) hd rfl
   have hsz:=(Array.getElem?_eq_some_iff.1 hl2).1
   have hbr:=run_beginRound (P:=P) hl2 (by rw [hlp])
   rw [hbusy] at hbr
   refine⟨_,hbr,?_⟩
   obtain⟨V2,hV2⟩:∃ V2,V.putObj (w.heap.size+1) (.loop (lp .busy none))=V2:=⟨_,rfl⟩
   have hl3:V2.heap[w.heap.size+1]?=some (.loop (lp .busy none)):=by rw [← hV2];exact World.putObj_heap_same hsz
   have hd3:V2.heap[w.heap.size]?=some (.deferred (some [])):=by rw [← hV2];exact (World.putObj_heap_other (by omega)).trans hd2
   have hk3:Kp V V2:=by rw [← hV2];exact hKb _ _ _ _ (by omega) hl2 rfl rfl
   have hi3:I pre V2:=by rw [← hV2];exact hI.putObj _ hia (by omega) hl2 rfl
   have hx3:Ax pre x a' V2:=by rw [← hV2];exact (hAx pre x a').putObj (s:=()) _ hax (by omega) hl2 rfl
   rw [hV2]
   refine wpIn_mono (hbody _ pre x a' V2 (by omega) hi3 hx3 hlen) ?_
   -- the round's end
   have fin:∀ (j:Option Code) (V3:World),KeepsFrom w.heap.size V2 V3→V3.heap[w.heap.size+1]?=some (.loop (lp .busy none))∧(Instr.endRound (w.heap.size+1) j).run P V3=.ok (.bool j.isNone) (V3.putObj (w.heap.size+1) (.loop (lp (if j.isNone then .ready else .done) j))) ∧
    (V3.putObj (w.heap.size+1) (.loop (lp (if j.isNone then .ready else .done) j))).heap[w.heap.size+1]?=some (.loop (lp (if j.isNone then .ready else .done) j))∧(V3.putObj (w.heap.size+1) (.loop (lp (if j.isNone then .ready else .done) j))).heap[w.heap.size]?=some (.deferred (some [])):=fun j V3 hk=>by
    have e1:=hk.same _ _ (by omega) hl3 rfl
    have e2:=run_endRound (P:=P) j e1
    rw [hturn] at e2
    exact⟨e1,e2,World.putObj_heap_same (Array.getElem?_eq_some_iff.1 e1).1,(World.putObj_heap_other (by omega)).trans (hk.same _ _ (Nat.le_refl _) hd3 rfl)⟩
   rintro e a3 V3 hp
   cases e with
   | normal =>
    obtain⟨hk,hkp3,hi4⟩:=hp
    obtain⟨e1,e2,e3,e4⟩:=fin none V3 hk
    exact⟨_,_,e2,.inl ⟨rfl,⟨hI.putObj _ hi4 (by omega) e1 rfl,e3,e4⟩,hKt hkp (hKt (hKt hk3 hkp3) (hKb _ _ _ _ (by omega) e1 rfl rfl))⟩⟩
   | ret =>
    obtain⟨hk,hi4⟩:=hp
    obtain⟨e1,e2,e3,e4⟩:=fin (some .ret) V3 hk
    exact⟨_,_,e2,.inr ⟨rfl,hIx.putObj _ hi4 (by omega) e1 rfl,e3,e4⟩⟩
   | exit id=>exact hp.elim
   | goto t=>exact hp.elim
   | panic ch=>exact hp.elim
   | outgrown=>exact hp.elim
 · -- behind all rounds
   rintro e W2 ⟨⟨v,rfl⟩,(⟨xs,hS,hi,hl,hd⟩ | ⟨pre,hSp,hi,hl,hd⟩)⟩
   · have e1:=run_endLoop (P:=P) hl (by rw [hlp];simp)
     rw [hlp] at e1
     exact⟨none,_,e1,hdone _ xs _ (Nat.le_refl _) hS (hI.putObj _ hi (by omega) hl rfl) ((World.putObj_heap_other (by omega)).trans hd)⟩
   · have e1:=run_endLoop (P:=P) hl (by rw [hlp];simp)
     rw [hlp] at e1
     exact⟨some .ret,_,e1,hstop _ pre _ (Nat.le_refl _) hSp (hIx.putObj _ hi (by omega) hl rfl) ((World.putObj_heap_other (by omega)).trans hd)⟩
end
end Go.Proofs.YtfdgnniicjdjdaaGreatDoor
