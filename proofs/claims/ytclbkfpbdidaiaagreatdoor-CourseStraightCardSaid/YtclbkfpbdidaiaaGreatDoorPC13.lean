import Derived.Test.YtclbkfpbdidaiaaGreatDoorPC12
import Derived.Test.YtclbkfpbdidaiaaGreatDoorPC00
import Derived.OpenShut
import Derived.Deep.OwnRows
import Derived.Laws.AppendOwnNone
namespace Go.Proofs.YtclbkfpbdidaiaaGreatDoor
open Go.RowKit Go.ChangeShapes Go.WideShapes
set_option linter.unusedVariables false
set_option maxRecDepth 10000
structure Sl (w:World) (p:Option Addr) (n c:Nat) (L:List Nat):Prop where
 len:L.length=n
 cap:n≤c
 nil:p=none→c=0
 lt:∀ x∈L,x<256
 cell:0<n→∃ b off,p=some ⟨b,off,none⟩∧∀ j,j<n→w.cell? ⟨b,off+j,none⟩=some (.int .u8 ((L.getD j 0:Nat):Int))
theorem Sl.blk {w:World} {p:Option Addr} {n c:Nat} {L:List Nat} (h:Sl w p n c L) (h0:0<n):∃ b off,p=some ⟨b,off,none⟩∧b<w.heap.size∧∀ j,j<n→w.cell? ⟨b,off+j,none⟩=some (.int .u8 ((L.getD j 0:Nat):Int)):=by
 obtain⟨b,off,hp,hc⟩:=h.cell h0
 exact⟨b,off,hp,World.block_lt_of_cell? _ _ (hc 0 h0),hc⟩
theorem Sl.keep {w w':World} {p:Option Addr} {n c:Nat} {L:List Nat} (h:Sl w p n c L) (hb:∀ a,p=some a→a.block<w.heap.size→w'.heap[a.block]?=w.heap[a.block]?):Sl w' p n c L:=by
 refine⟨h.len,h.cap,h.nil,h.lt,fun h0=>?_⟩
 obtain⟨b,off,rfl,hlt,hc⟩:=h.blk h0
 exact⟨b,off,rfl,fun j hj=>by rw [World.cell?_of_block (w:=w) (a:=⟨b,off+j,none⟩) (hb ⟨b,off,none⟩ rfl hlt)];exact hc j hj⟩
theorem Sl.later {w w':World} {p:Option Addr} {n c:Nat} {L:List Nat} (h:Sl w p n c L) (hb:Below w.heap.size w w'):Sl w' p n c L:=h.keep fun a _ hlt=>hb.block _ hlt
theorem Sl.none {w:World}:Sl w none 0 0 []:=⟨rfl,Nat.le_refl _,fun _=>rfl,(fun x h=>by cases h),fun h=>by omega⟩
def vL (L:List Nat):List Value:=L.map fun x=>.int .u8 ((x:Nat):Int)
theorem q1n (L:List Nat):(vL L).length=L.length:=by simp [vL]
theorem vL_at (L:List Nat) (j:Nat) (h:j<L.length):(vL L)[j]?=some (.int .u8 ((L.getD j 0:Nat):Int)):=by simp [vL,List.getD,List.getElem?_eq_getElem h]
theorem q2c (L:List Nat):∀ u∈vL L,u.oneCell'=true:=by
 intro u hu
 obtain⟨x,_,rfl⟩:=List.mem_map.1 hu
 rfl
theorem vL_append (L M:List Nat):vL (L++M)=vL L++vL M:=List.map_append ..
structure Row (w:World) (v:Value) (n:Nat) (L:List Nat):Prop where
 len:L.length=n
 lt:∀ x∈L,x<256
 own:w.ownsRow 0 5 1 v n (vL L)
theorem Row.bound {w:World} {v:Value} {n:Nat} {L:List Nat} (h:Row w v n L):∀ k,v.ownBlock=some k→k<w.heap.size:=fun k hk=>(h.own.lt k hk).2
theorem Row.keep {w w':World} {v:Value} {n:Nat} {L:List Nat} (h:Row w v n L) (hb:∀ k,v.ownBlock=some k→w'.heap[k]?=w.heap[k]?):Row w' v n L:=by
 refine⟨h.len,h.lt,h.own.1,?_⟩
 rcases h.own.2 with hn | ⟨g,cap,cur,rfl,h1,h2,h3⟩
 · exact .inl hn
 · exact .inr ⟨g,cap,cur,rfl,h1,by rw [hb g rfl];exact h2,h3⟩
theorem Row.chg {S:Nat→Prop} {w w':World} {v:Value} {n:Nat} {L:List Nat} (h:Row w v n L) (hc:Chg S w w') (hs:∀ k,v.ownBlock=some k→¬ S k):Row w' v n L:=h.keep fun k hk=>hc.block k (h.bound k hk) (hs k hk)
theorem Row.nil (w:World):Row w (.slice none 0 0) 0 []:=⟨rfl,(fun x h=>by cases h),World.ownsRow_nil _ _ _ _⟩
theorem Row.of_own {w:World} {B:Nat} {v:Value} {n:Nat} {L:List Nat} (h:w.ownsRow B 5 1 v n (vL L)) (hl:L.length=n) (hlt:∀ x∈L,x<256):Row w v n L∧∀ k,v.ownBlock=some k→B≤k:=by
 refine⟨⟨hl,hlt,h.1,?_⟩,fun k hk=>(h.lt k hk).1⟩
 rcases h.2 with hn | ⟨g,cap,cur,rfl,h1,h2⟩
 · exact .inl hn
 · exact .inr ⟨g,cap,cur,rfl,Nat.zero_le _,h2⟩
theorem Row.sl {w:World} {v:Value} {n:Nat} {L:List Nat} (h:Row w v n L):∃ p c,v=.slice p n c∧c≤maxLen∧Sl w p n c L∧∀ a,p=some a→v.ownBlock=some a.block:=by
 rcases h.own.2 with ⟨rfl,rfl⟩ | ⟨g,cap,cur,rfl,_,h2,h3,h4,h5,h6⟩
 · have:=h.len
   obtain rfl:L=[]:=List.eq_nil_of_length_eq_zero this
   exact⟨_,_,rfl,Nat.zero_le _,Sl.none,fun a ha=>by cases ha⟩
 · refine⟨_,_,rfl,h4,⟨h.len,h3,(fun hn=>by cases hn),h.lt,fun h0=>⟨g,0,rfl,fun j hj=>?_⟩⟩,fun a ha=>by cases ha;rfl⟩
   rw [Nat.zero_add,h.own.cellAt j (by omega),vL_at _ _ (by rw [h.len];exact hj)]
theorem z2j {w:World} {ops:Array Oper} {rest:List Oper} {o:Oper} {a:Act} {Q:Exit→Act→World→Prop} (hgd:o.guard=none) (s x:Operand)
 (ho:o.op=.call { callee:=.builtin .append,args:=#[s,x],argTypes:=#[96,96] })
 (v:Value) (n:Nat) (L:List Nat) (hs:a.eval s=v) (hr:Row w v n L)
 (p:Option Addr) (m c:Nat) (M:List Nat) (hx:a.eval x=.slice p m c) (hm:Sl w p m c M) (hbig:n+m≤1000000)
 (h:∀ v' w',Row w' v' (n+m) (L++M)→Chg (fun k=>v.ownBlock=some k) w w'→(∀ k,v'.ownBlock=some k→v.ownBlock=some k∨w.heap.size≤k)→wpList Tryz.prog ops Q rest (a.put o.dst v') w'):wpList Tryz.prog ops Q (o::rest) a w:=by
 obtain⟨i,hi,hz0,hz1,hz2⟩:=info_parts info_u8
 have hlen:(L++M).length=n+m:=by rw [List.length_append,hr.len,hm.len]
 have hlt:∀ x∈L++M,x<256:=fun x hx=>by
  rcases List.mem_append.1 hx with hx | hx
  · exact hr.lt x hx
  · exact hm.lt x hx
 have hsame:m=0→p=none∨True→M=[]:=fun h0 _=>List.eq_nil_of_length_eq_zero (by rw [hm.len];exact h0)
 cases p with
 | none =>
  obtain rfl:=hm.nil rfl
  obtain rfl:m=0:=Nat.le_zero.1 hm.cap
  obtain rfl:=hsame rfl (.inr trivial)
  refine wpList_append_own_none hgd s x _ ho 0 5 i 1 Tryz.underlying96 hi v n _ hs hr.own hx (h v w ?_ (Chg.refl _ _) fun k hk=>.inl hk)
  rw [List.append_nil,Nat.add_zero];exact hr
 | some ad =>
  have hnews:∀ j u,(vL M)[j]?=some u→w.cell? (ad.add j)=some u:=by
   intro j u hu
   have hj:j<m:=by
    rcases Nat.lt_or_ge j m with h | h
    · exact h
    · rw [List.getElem?_eq_none (by rw [q1n,hm.len];exact h)] at hu;cases hu
   obtain⟨b,off,hp,hc⟩:=hm.cell (by omega)
   cases hp
   rw [Go.WideShapes.add_plain,hc j hj,← hu,vL_at M j (by rw [hm.len];exact hj)]
  have hml:(vL M).length=m*1:=by rw [q1n,hm.len,Nat.mul_one]
  have hgrown:∀ v' w',w'.ownsRow w.heap.size 5 1 v' (n+m) (vL L++vL M)→w.grownBy w' none→wpList Tryz.prog ops Q rest (a.put o.dst v') w':=by
   intro v' w' h1 h2
   rw [← vL_append] at h1
   obtain⟨hr',hn'⟩:=Row.of_own h1 hlen hlt
   exact h v' w' hr' ((Chg.of_grown h2).mono fun k _ h=>by cases h) fun k hk=>.inr (hn' k hk)
  have hvl:(vL L).length=n*1:=by rw [q1n,hr.len,Nat.mul_one]
  rcases hr.own.2 with ⟨rfl,rfl⟩ | ⟨g,cap,cur,rfl,hb,hg,h1,h2,h3,h4⟩
  · by_cases h0:m=0
    · subst h0
      obtain rfl:=hsame rfl (.inr trivial)
      have hL:L=[]:=List.eq_nil_of_length_eq_zero hr.len
      subst hL
      refine wpList_append_own (base:=w.heap.size) _ hgd s x _ ho 5 i (.int .u8 0) 1 1 Tryz.underlying96 hi hz0 hz1 hz2 rfl (by decide) (.slice none 0 0) 0 [] hs (World.ownsRow_nil _ _ _ _) ad 0 c [] hx rfl (fun j u hu=>by simp at hu) (fun u hu=>by cases hu) (by unfold maxLen;omega) (by omega) (Nat.le_refl _) ?_
      intro v' w' h1 h2 _
      exact hgrown v' w' h1 h2
    · exact wpList_append_grows w hgd s x _ ho 5 i (.int .u8 0) 1 1 Tryz.underlying96 hi hz0 hz1 hz2 rfl (by decide) none 0 0 (vL L) hs (fun _=>⟨rfl,rfl⟩) hvl (fun b hb=>by cases hb) ad m c (vL M) hx hml hnews (q2c M) (by omega) (by unfold maxLen;omega) (by omega) hgrown
  · by_cases hroom:n+m≤cap
    · refine wpList_append_fits w hgd s x _ ho 0 5 i 1 Tryz.underlying96 hi hz1 g n cap (vL L) hs hr.own ad m c (vL M) hx hml hnews (q2c M) hroom ?_
      intro w' h1 h2
      rw [← vL_append] at h1
      exact h _ w' ⟨hlen,hlt,h1⟩ ((Chg.of_grown h2).mono fun k _ h=>h) fun k hk=>.inl hk
    · refine wpList_append_grows w hgd s x _ ho 5 i (.int .u8 0) 1 1 Tryz.underlying96 hi hz0 hz1 hz2 rfl (by decide) (some ⟨g,0,none⟩) n cap (vL L) hs (fun hb=>by cases hb) hvl (fun b hb j u hu=>?_) ad m c (vL M) hx hml hnews (q2c M) (by omega) (by unfold maxLen;omega) (by omega) hgrown
      cases hb
      have hj:j<n:=by
       rcases Nat.lt_or_ge j n with h | h
       · exact h
       · rw [List.getElem?_eq_none (by rw [q1n,hr.len];exact h)] at hu;cases hu
      rw [Go.WideShapes.add_plain,Nat.zero_add,hr.own.cellAt j (by omega)];exact hu
structure Wr (w:World) (B:Nat) (v:Value) (most:Int) (S:St):Prop where
 blk:w.heap[B]?=some (.cells #[.int .i64 S.1,.int .i64 most,v] 158 (0,0))
 row:Row w v S.2.length S.2
 ne:v.ownBlock≠some B
theorem z2l {w:World} {B:Nat} {c:Array Value} {t:TypeId} {j:Nat} {v:Value} (h:w.heap[B]?=some (.cells c t (0,0))) (hj:c[j]?=some v):w.cell? ⟨B,j,none⟩=some v:=by simp [World.cell?,h,hj]
theorem free_of_block {w:World} {B:Nat} {c:Array Value} {t:TypeId} (j:Nat) (h:w.heap[B]?=some (.cells c t (0,0))):w.frozen? ⟨B,j,none⟩=false:=by simp [World.frozen?,h]
theorem block_set {w:World} {B:Nat} {c:Array Value} {t:TypeId} (j:Nat) (v:Value) (h:w.heap[B]?=some (.cells c t (0,0))):(w.setCell ⟨B,j,none⟩ v).heap[B]?=some (.cells (c.setIfInBounds j v) t (0,0)):=by simp [World.setCell,Array.getElem?_modify,h]
theorem lt_of_block' {w:World} {B:Nat} {o:Obj} (h:w.heap[B]?=some o):B<w.heap.size:=(Array.getElem?_eq_some_iff.1 h).1
theorem Wr.lt {w:World} {B:Nat} {v:Value} {most:Int} {S:St} (h:Wr w B v most S):B<w.heap.size:=lt_of_block' h.blk
theorem Wr.chg {S:Nat→Prop} {w w':World} {B:Nat} {v:Value} {most:Int} {T:St} (h:Wr w B v most T) (hc:Chg S w w') (hB:¬ S B) (hs:∀ k,v.ownBlock=some k→¬ S k):Wr w' B v most T :=
 ⟨by rw [hc.block B h.lt hB];exact h.blk,h.row.chg hc hs,h.ne⟩
end Go.Proofs.YtclbkfpbdidaiaaGreatDoor
