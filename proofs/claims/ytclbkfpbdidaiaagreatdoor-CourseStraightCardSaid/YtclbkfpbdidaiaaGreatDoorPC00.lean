import Derived.Test.YtclbkfpbdidaiaaGreatDoorRows
import Derived.WalkKit
import Derived.ProofKit
import Derived.Lib.Hide
import Derived.BigQuiet
namespace Go.Proofs.YtclbkfpbdidaiaaGreatDoor
open Go.RowKit Go.ChangeShapes Go.WideShapes
set_option linter.unusedVariables false
set_option maxRecDepth 10000
theorem z0a {w:World} {B:Nat} {c:Array Value} {t:TypeId} {j:Nat} {v:Value} (h:w.heap[B]?=some (.cells c t (0,0))) (hj:c[j]?=some v):w.cell? ⟨B,j,none⟩=some v:=by simp [World.cell?,h,hj]
theorem z0o {w:World} {B:Nat} {c:Array Value} {t:TypeId} (j:Nat) (h:w.heap[B]?=some (.cells c t (0,0))):w.frozen? ⟨B,j,none⟩=false:=by simp [World.frozen?,h]
theorem z0c (w:World) (o:Obj):(w.alloc o).heap[w.heap.size]?=some o:=by
 show (w.heap.push o)[w.heap.size]?=some o
 simp
theorem z0g {w:World} {B:Nat} {o:Obj} (h:w.heap[B]?=some o):B<w.heap.size:=(Array.getElem?_eq_some_iff.1 h).1
theorem z0u {w:World} {B:Nat} {c:Array Value} {t:TypeId} (j:Nat) (v:Value) (h:w.heap[B]?=some (.cells c t (0,0))):(w.setCell ⟨B,j,none⟩ v).heap[B]?=some (.cells (c.setIfInBounds j v) t (0,0)):=by simp [World.setCell,Array.getElem?_modify,h]
theorem z0b {w w':World} {B:Nat} {o:Obj} (h:w.heap[B]?=some o) (hb:Below w.heap.size w w'):w'.heap[B]?=some o:=(hb.block B (z0g h)).trans h
structure Chg (S:Nat→Prop) (w w':World):Prop where
 os:w'.os=w.os
 tape:w'.tape=w.tape
 output:w'.output=w.output
 size:w.heap.size≤w'.heap.size
 block:∀ k,k<w.heap.size→¬ S k→w'.heap[k]?=w.heap[k]?
theorem Chg.refl (S:Nat→Prop) (w:World):Chg S w w:=⟨rfl,rfl,rfl,Nat.le_refl _,fun _ _ _=>rfl⟩
theorem Chg.mono {S T:Nat→Prop} {a b:World} (h:Chg S a b) (hs:∀ k,k<a.heap.size→S k→T k):Chg T a b:=⟨h.os,h.tape,h.output,h.size,fun k hk ht=>h.block k hk fun hs'=>ht (hs k hk hs')⟩
theorem Chg.trans {S T:Nat→Prop} {a b c:World} (h:Chg S a b) (g:Chg T b c) (hs:∀ k,k<a.heap.size→T k→S k):Chg S a c :=
 ⟨g.os.trans h.os,g.tape.trans h.tape,g.output.trans h.output,Nat.le_trans h.size g.size,fun k hk hn=>(g.block k (Nat.lt_of_lt_of_le hk h.size) fun ht=>hn (hs k hk ht)).trans (h.block k hk hn)⟩
theorem Chg.of_below {S:Nat→Prop} {a b:World} (h:Below a.heap.size a b):Chg S a b:=⟨h.os,h.tape,h.output,h.size,fun k hk _=>h.block k hk⟩
theorem Chg.of_grown {a b:World} {row:Option Nat} (h:a.grownBy b row):Chg (fun k=>row=some k) a b:=⟨h.os,h.tape,h.output,h.size,fun k hk hn=>h.block k hk fun e=>hn e.symm⟩
theorem Chg.drewN {S:Nat→Prop} {a b:World} (h:Chg S a b) (q:Nat):Chg S a (b.drewN q):=⟨h.os,h.tape,h.output,h.size,h.block⟩
theorem Chg.alloc {S:Nat→Prop} {a b:World} (h:Chg S a b) (o:Obj):Chg S a (b.alloc o):=h.trans (Chg.of_below (S:=S) ((Below.refl _ _).alloc (Nat.le_refl _) o)) fun _ _ h=>h
theorem Chg.setCell {S:Nat→Prop} {a b:World} (h:Chg S a b) (p:Addr) (v:Value) (hp:p.block<a.heap.size→S p.block):Chg S a (b.setCell p v) :=
 h.trans (T:=fun k=>k=p.block) ⟨rfl,rfl,rfl,by simp [World.setCell],fun k _ hk=>Below.heap_setCell _ _ _ _ hk⟩ (fun k hk e=>by subst e;exact hp hk)
theorem Chg.below {S:Nat→Prop} {B:Nat} {W a b:World} (hb:Below B W a) (hB:B≤a.heap.size) (h:Chg S a b) (hs:∀ k,S k→B≤k):Below B W b :=
 hb.trans ⟨h.os,h.tape,h.output,h.size,fun k hk=>h.block k (by omega) fun h'=>by have:=hs k h';omega⟩
theorem z0e {B:Nat} {a w:World} (h:Below B a w) (q:Nat):Below B a (w.drewN q):=⟨h.os,h.tape,h.output,h.size,h.block⟩
structure After (W:World) where
 w:World
 h:Below W.heap.size W w
instance afterInhabited (W:World):Inhabited (After W):=⟨⟨W,Below.refl _ _⟩⟩
theorem z2f {P:Program} {id:Nat} {Q:Exit→Act→World→Prop} {a:Act} {W:World} {l:List Oper} (hm:P.follows .mixedOrders=true) (hB:Region.lexB .any l.toArray=true)
 (h:wpQuiet P l.toArray (fun w'=>∃ p:After W,w'=p.w) (fun a'=>∀ w',(∃ p:After W,w'=p.w)→Q .normal a' w') l a):(Code.region id l.toArray true).wp P Q a W :=
 wp_region_quiet (C:=fun w'=>∃ p:After W,w'=p.w) hm hB ⟨⟨_,(Below.refl _ _).drew⟩,rfl⟩ (by simpa using h)
theorem z3z {P:Program} {f:FuncId} {args:Array Value} {W:World} {v:Value} (p:After W) (h:Calls P f args p.w fun e w'=>e=.returned v∧Below p.w.heap.size p.w w') :
 Calls P f args p.w fun e w''=>e=.returned v∧∃ q:After W,w''=q.w:=h.mono fun _ w' ⟨he,hb⟩=>⟨he,⟨w',p.h.trans (hb.mono p.h.size)⟩,rfl⟩
theorem z6h {W:World} {a:Addr} {v:Value} (p:After W) (h:W.cell? a=some v):p.w.cell? a=some v:=(p.h.cell (World.block_lt_of_cell? _ _ h)).trans h
theorem info_u8:(Tryz.prog.info? 5).map (fun i=>(i.zero,i.size,i.bytes))=some (some (.int .u8 0),1,1):=by kernel_rfl
theorem add_none (g i j:Nat):(⟨g,i,none⟩:Addr).add j=⟨g,i+j,none⟩:=by unfold Addr.add;split <;> simp_all
theorem z2v {P:Program} (w:World) (g i:Nat) (t ty:TypeId) (cs part:Array Value) (fr:Nat × Nat) (d:TypeDesc) (hg:w.heap[g]?=some (.cells cs t fr)) (hp:∀ j,j<part.size→cs[i+j]?=part[j]?)
 (hu:P.underlying ty=some d) (hd:(match d with | .struct _ | .array _ _=>true | _=>false)=true) (hi:(P.info? ty).map (·.size)=some part.size) :
 (loadVar ty ⟨g,i,none⟩).run P w=.ok (.agg part) w:=by
 have hl:(loadCells ⟨g,i,none⟩ part.toList.length).run P w=.ok part.toList.toArray w :=
  run_loadCells_list (P:=P) w ⟨g,i,none⟩ part.toList (fun j v hv=>by
   rw [add_none,cell_of_row w g (i+j) cs t fr hg]
   have hj:j<part.size:=by
    have:=(List.getElem?_eq_some_iff.1 hv).1
    simpa using this
   rw [hp j hj]
   simpa using hv)
 cases hq:P.info? ty with
 | none=>simp [hq] at hi
 | some inf =>
  have hs:inf.size=part.size:=by simpa [hq] using hi
  have hagg:(isAgg ty).run P w=.ok true w:=by
   unfold isAgg
   rw [Sem.run_bind,run_underlying hu w]
   cases d <;> simp_all
  simp only [Array.length_toList,Array.toArray_toList] at hl
  simp [loadVar,Sem.run_bind,hagg,sizeOf,typeInfo,hq,hs,hl]
def q0u:Array Value→Nat→List Value→Array Value
 | cur,_,[]=>cur
 | cur,j,v::vs=>q0u (cur.setIfInBounds j v) (j+1) vs
theorem setRow_same {w:World} {g:Nat} {cur:Array Value} {t:TypeId} (hg:w.heap[g]?=some (.cells cur t (0,0))):w.setRow g cur=w:=by
 have hv:w.heap[g]'(Array.getElem?_eq_some_iff.1 hg).1=.cells cur t (0,0):=(Array.getElem?_eq_some_iff.1 hg).2
 unfold World.setRow
 cases w with
 | mk heap tape drawn os output =>
  congr 1
  apply Array.ext
  · simp
  · intro k h1 h2
    simp only [Array.getElem_modify]
    split
    · rename_i hk;subst hk;simp at hv;simp [hv]
    · rfl
theorem run_storeCells_at {P:Program} (g i:Nat) (t:TypeId):∀ (vs:List Value) (k:Nat) (cur:Array Value) (w:World),w.heap[g]?=some (.cells cur t (0,0))→i+k+vs.length≤cur.size→(∀ v∈vs,v.oneCell'=true) →
 (storeCells ⟨g,i,none⟩ vs k).run P w=.ok () (w.setRow g (q0u cur (i+k) vs))
 | [],k,cur,w,hg,hl,_=>by
  simp only [storeCells,q0u]
  rw [setRow_same hg]
  rfl
 | v::rest,k,cur,w,hg,hl,h1=>by
  have hi:i+k<cur.size:=by simp at hl;omega
  have hcell:w.cell? ⟨g,i+k,none⟩=some cur[i+k]:=by simp [World.cell?,hg,hi]
  have hfro:w.frozen? ⟨g,i+k,none⟩=false:=by simp [World.frozen?,hg]
  have hst:(store ((⟨g,i,none⟩:Addr).add k) v).run P w=.ok () (w.setRow g (cur.setIfInBounds (i+k) v)):=by
   rw [add_none,run_store P w _ v _ (h1 v (by simp)),hcell]
   simp [hfro,setCell_eq_setRow w g (i+k) cur t (0,0) v hg]
  have ih:=run_storeCells_at (P:=P) g i t rest (k+1) (cur.setIfInBounds (i+k) v) (w.setRow g (cur.setIfInBounds (i+k) v)) (setRow_heap w g cur _ t _ hg) (by simp at hl ⊢;omega) (fun x hx=>h1 x (by simp [hx]))
  simp only [storeCells,Sem.run_bind,hst,Result.andThen_ok,ih,setRow_setRow,q0u]
  rfl
theorem run_storeVar_part {P:Program} (w:World) (g i:Nat) (t ty:TypeId) (old cells:Array Value) (hg:w.heap[g]?=some (.cells old t (0,0))) (hi:(P.info? ty).map (·.size)=some cells.size)
 (ho:i+cells.size≤old.size) (h1:cells.all (·.oneCell')=true) :
 (storeVar ty ⟨g,i,none⟩ (.agg cells)).run P w=.ok () (w.setRow g (q0u old i cells.toList)):=by
 have:=run_storeCells_at (P:=P) g i t cells.toList 0 old w hg (by simp;omega) (fun v hv=>(Array.all_eq_true_iff_forall_mem.1 h1) v (by simpa using hv))
 cases hq:P.info? ty with
 | none=>simp [hq] at hi
 | some inf =>
  have hs:cells.size=inf.size:=by simp [hq] at hi;omega
  simp [storeVar,sizeOf,typeInfo,hq,Value.cells,hs,this]
theorem z2u {P:Program} {ops:Array Oper} {rest:List Oper} {o:Oper} {a:Act} {w:World} {Q:Exit→Act→World→Prop} (hgd:o.guard=none) (ty:TypeId) (x:Operand) (ho:o.op=.load ty x)
 (g i:Nat) (hx:a.eval x=.pointer (some ⟨g,i,none⟩)) (t:TypeId) (cs part:Array Value) (fr:Nat × Nat) (d:TypeDesc) (hg:w.heap[g]?=some (.cells cs t fr)) (hp:∀ j,j<part.size→cs[i+j]?=part[j]?)
 (hu:P.underlying ty=some d) (hd:(match d with | .struct _ | .array _ _=>true | _=>false)=true) (hi:(P.info? ty).map (·.size)=some part.size)
 (h:wpList P ops Q rest (a.put o.dst (.agg part)) w):wpList P ops Q (o::rest) a w :=
 wpList_plain hgd fun _ hK=>by
  unfold Oper.wp execOp
  simp only [ho,hx,Instr.loadAt,Instr.sureAddr,Sem.run_bind,Sem.run_pure,Result.andThen_ok,z2v w g i t ty cs part fr d hg hp hu hd hi]
  exact hK _ _ h
theorem wpList_store_part {P:Program} {ops:Array Oper} {rest:List Oper} {o:Oper} {a:Act} {w:World} {Q:Exit→Act→World→Prop} (hgd:o.guard=none) (ty:TypeId) (x y:Operand) (ho:o.op=.store ty x y)
 (g i:Nat) (cells:Array Value) (hx:a.eval x=.pointer (some ⟨g,i,none⟩)) (hy:a.eval y=.agg cells)
 (t:TypeId) (old:Array Value) (hg:w.heap[g]?=some (.cells old t (0,0))) (hi:(P.info? ty).map (·.size)=some cells.size)
 (hold:i+cells.size≤old.size) (h1:cells.all (·.oneCell')=true)
 (h:wpList P ops Q rest (a.put o.dst undef) (w.setRow g (q0u old i cells.toList))):wpList P ops Q (o::rest) a w :=
 wpList_plain hgd fun _ hK=>by
  unfold Oper.wp execOp
  simp only [ho,hx,hy,Instr.storeAt,Instr.sureAddr,Sem.run_bind,Sem.run_pure,Result.andThen_ok,run_storeVar_part w g i t ty old cells hg hi hold h1]
  exact hK _ _ h
end Go.Proofs.YtclbkfpbdidaiaaGreatDoor
