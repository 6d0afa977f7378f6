import Derived.Test.YtfdgnniicjdjdaaGreatDoorPS00
import Derived.Test.YtfdgnniicjdjdaaGreatDoorPS13
import Derived.Maps.RangeWalk
import Derived.Maps.Ext
namespace Go.Proofs.YtfdgnniicjdjdaaGreatDoor
open Go.RowKit Go.ChangeShapes Go.WideShapes Go.Maps
set_option linter.unusedVariables false
set_option maxRecDepth 10000
set_option linter.unusedSimpArgs false
abbrev Sv:=Option Addr × Nat × Nat
def z3z:Value→Option (DataW Sv × List MemPlace)
 | .slice p n c=>some (.held (p,n,c),[])
 | _=>none
theorem held_shape {v:Value} {y:DataW Sv × List MemPlace} (h:z3z v=some y):∃ c:Sv,v=.slice c.1 c.2.1 c.2.2∧y=(.held c,[]):=by
 cases v <;> simp [z3z] at h
 case slice p n c=>exact⟨(p,n,c),rfl,h.symm⟩
theorem z7p:Keyed Tryz.prog 2:=int_keyed Tryz.underlying2
abbrev kLD (x:Int):Lit:=.int .i64 x
theorem z8w {x:Int} (h:(Lit.int .i64 x).wf=true):keyOf Tryz.prog 2 (.int .i64 x)=some (kLD x):=keyOf_int_mk Tryz.underlying2 h
theorem q2p (x:Int):WideAt.IsKeyLit (kLD x):=trivial
theorem q1h {x y:Int} (h:kLD x=kLD y):x=y:=by cases h;rfl
theorem zeroSl (w:World):(zeroValue 33).run Tryz.prog w=.ok (.slice none 0 0) w:=by kernel_rfl
abbrev MapB (w:World) (b n:Nat) (D:DataW Sv):Prop:=w.ownsMap Tryz.prog 2 z3z b n D
theorem MapB.tight {w:World} {b n:Nat} {D:DataW Sv} (h:MapB w b n D):MapB w b (Maps.size D) D:=by
 obtain⟨es,clock,hb,F,hs,rfl⟩:=h
 exact⟨es,clock,hb,F,by simp [Maps.size,length_sorted],rfl⟩
theorem MapB.turn {w w':World} {b n:Nat} {D:DataW Sv} {S:Nat→Prop} (h:MapB w b n D) (hc:Chg S w w') (hn:¬ S b):MapB w' b n D:=by
 have hbl:=h.lt
 obtain⟨es,clock,hb,F,hs,hD⟩:=h
 exact⟨es,clock,(hc.block b hbl hn).trans hb,F,hs,hD⟩
theorem MapB.ne {w:World} {b n g:Nat} {D:DataW Sv} {cs:Array Value} {t:TypeId} {z:Nat × Nat} (h:MapB w b n D) (hg:w.heap[g]?=some (.cells cs t z)):g≠b:=by
 obtain⟨es,clock,hb,_⟩:=h
 intro e
 rw [e,hb] at hg
 cases hg
structure Tm (D:DataW Sv) (S:Int→Option Sv) (m:Nat):Prop where
 tidy:Tidy D
 at_:∀ x zd,D.atKey (kLD x) zd=match S x with | some v=>.held v | none=>zd
 size:Maps.size D=m
theorem Tm.has {D:DataW Sv} {S:Int→Option Sv} {m:Nat} (h:Tm D S m) (x:Int):Maps.has D (kLD x)=(S x).isSome:=by
 have ha:=h.at_ x
 cases hg:S x with
 | none =>
  rw [hg] at ha
  exact has_false_of_atKey ha
 | some v =>
  rw [hg] at ha
  exact has_true_of_atKey ha
theorem Tm.empty:Tm (.map []) (fun _=>none) 0:=⟨tidy_empty,fun x zd=>rfl,rfl⟩
theorem Tm.congr {D:DataW Sv} {S T:Int→Option Sv} {m k:Nat} (h:Tm D S m) (hs:∀ x,S x=T x) (hm:m=k):Tm D T k:=⟨h.tidy,fun x zd=>by rw [h.at_,hs],by rw [h.size,hm]⟩
theorem Tm.put {D:DataW Sv} {S:Int→Option Sv} {m:Nat} (h:Tm D S m) (x:Int) (v:Sv):Tm (D.put (kLD x) (.held v)) (fun y=>if y=x then some v else S y) (if (S x).isSome=true then m else m+1):=by
 refine⟨h.tidy.put (q2p x) _,fun y zd=>?_,?_⟩
 · by_cases e:y=x
   · subst e
     rw [if_pos rfl,atKey_put_same h.tidy.isMap (q2p y)]
   · rw [if_neg e,atKey_put_other (fun e'=>e (q1h e')),h.at_]
 · rw [size_put h.tidy,h.has,h.size]
theorem Tm.del {D:DataW Sv} {S:Int→Option Sv} {m:Nat} (h:Tm D S m) (x:Int) (hx:(S x).isSome=true):Tm (D.del (kLD x)) (fun y=>if y=x then none else S y) (m-1):=by
 refine⟨h.tidy.del _,fun y zd=>?_,?_⟩
 · by_cases e:y=x
   · subst e
     rw [if_pos rfl,atKey_del_same]
   · rw [if_neg e,atKey_del_other (fun e'=>e (q1h e')),h.at_]
 · have h1:=size_del (k:=kLD x) h.tidy
   rw [h.has,hx,h.size] at h1
   simp at h1
   omega
def svV:Option Sv→Value
 | some v=>.slice v.1 v.2.1 v.2.2
 | none=>.slice none 0 0
theorem q1r {w:World} {b n m:Nat} {D:DataW Sv} {S:Int→Option Sv} (h:MapB w b n D) (hT:Tm D S m) {x:Int} (hx:(Lit.int .i64 x).wf=true):(Instr.lookup 169 (.map (some b)) (.int .i64 x) false).run Tryz.prog w=.ok (svV (S x)) w:=by
 obtain⟨v,ps,hrun,hv⟩:=h.lookup z7p Tryz.underlying169 (zeroSl w) (zd:=.held (none,0,0)) (zp:=[]) rfl (z8w hx)
 obtain⟨c,rfl,hc⟩:=held_shape hv
 rw [hT.at_,Prod.mk.injEq] at hc
 rw [hrun]
 cases hg:S x with
 | none =>
  rw [hg] at hc
  have:(none,0,0)=c:=by simpa using hc.1
  subst this
  rfl
 | some y =>
  rw [hg] at hc
  have:y=c:=by simpa using hc.1
  subst this
  rfl
theorem size_same {w w':World} {b b' n n':Nat} {D D':DataW Sv} (h:MapB w b n D) (h':MapB w' b' n' D') (hs:∀ kl,Maps.has D kl=Maps.has D' kl):Maps.size D=Maps.size D':=by
 obtain⟨es,rfl,hp,hk⟩:=h.entries z7p
 obtain⟨es',rfl,hp',hk'⟩:=h'.entries z7p
 have key:∀ {l:List (Lit × DataW Sv)},(∀ p∈l,WideAt.IsKeyLit p.1)→∀ kl,kl∈l.map (·.1) ↔ Maps.has (.map l) kl=true∧WideAt.IsKeyLit kl:=by
  intro l hl kl
  rw [List.mem_map,Maps.has_eq,List.any_eq_true]
  constructor
  · rintro ⟨p,hp,rfl⟩
    exact⟨⟨p,hp,WideAt.sameKey_self (hl p hp)⟩,hl p hp⟩
  · rintro ⟨⟨p,hp,he⟩,_⟩
    exact⟨p,hp,WideAt.sameKey_eq he⟩
 have n1:(es.map (·.1)).Nodup:=List.pairwise_map.2 hp
 have n2:(es'.map (·.1)).Nodup:=List.pairwise_map.2 hp'
 have hperm:(es.map (·.1)).Perm (es'.map (·.1)):=(List.perm_ext_iff_of_nodup n1 n2).2 fun kl=>by rw [key hk,key hk',hs]
 have:=hperm.length_eq
 simpa [Maps.size] using this
theorem q2k {w:World} {b n:Nat} {D:DataW Sv} (h:MapB w b n D) (hn:n≤1000000) {k:Int} (hk:(Lit.int .i64 k).wf=true) (p:Option Addr) (l c:Nat) :
 ∃ w',(Instr.mapUpdate 169 (.map (some b)) (.int .i64 k) (.slice p l c)).run Tryz.prog w=.ok () w'∧MapB w' b (n+1) (D.put (kLD k) (.held (p,l,c)))∧Chg (fun k=>k=b) w w':=by
 obtain⟨w',hrun,r1,r2⟩:=h.update z7p Tryz.underlying169 (by unfold maxLen;omega) (z8w hk) (val:=.slice p l c) (d:=.held (p,l,c)) (ps:=[]) rfl
 exact⟨w',hrun,r1,(Chg.of_grown r2).mono fun k _ e=>by cases e;rfl⟩
theorem wpList_mapUpdate_b {w:World} {ops:Array Oper} {rest:List Oper} {o:Oper} {a:Act} {Q:Exit→Act→World→Prop} (hgd:o.guard=none) (m x v:Operand) (ho:o.op=Op.mapUpdate 169 m x v)
 (b n:Nat) (D:DataW Sv) (hm:a.eval m=.map (some b)) (hown:MapB w b n D) (hn:n≤1000000) (k:Int) (hk:(Lit.int .i64 k).wf=true) (hx:a.eval x=.int .i64 k) (p:Option Addr) (l c:Nat) (hv:a.eval v=.slice p l c)
 (h:∀ w',MapB w' b (n+1) (D.put (kLD k) (.held (p,l,c)))→Chg (fun k=>k=b) w w'→wpList Tryz.prog ops Q rest (a.put o.dst undef) w'):wpList Tryz.prog ops Q (o::rest) a w:=by
 refine wpList_plain hgd fun K hK=>?_
 obtain⟨w',hrun,r1,r2⟩:=hown.update z7p Tryz.underlying169 (by unfold maxLen;omega) (z8w hk) (val:=.slice p l c) (d:=.held (p,l,c)) (ps:=[]) rfl
 unfold Oper.wp
 simp [execOp,ho,hm,hx,hv,hrun,Result.andThen]
 exact hK _ _ (h w' r1 ((Chg.of_grown r2).mono fun k _ e=>by cases e;rfl))
theorem z4u {w:World} {ops:Array Oper} {rest:List Oper} {o:Oper} {a:Act} {Q:Exit→Act→World→Prop} (hgd:o.guard=none) (m x:Operand) (ho:o.op=Op.call { callee:=Callee.builtin Builtin.delete,args:=#[m,x],argTypes:=#[169,2] })
 (b n:Nat) (D:DataW Sv) (hm:a.eval m=.map (some b)) (hown:MapB w b n D) (k:Int) (hk:(Lit.int .i64 k).wf=true) (hx:a.eval x=.int .i64 k)
 (h:∀ w',MapB w' b n (D.del (kLD k))→Chg (fun k=>k=b) w w'→wpList Tryz.prog ops Q rest (a.put o.dst (.tuple #[])) w'):wpList Tryz.prog ops Q (o::rest) a w :=
 wpList_delete_own w hgd m x _ _ ho _ z7p Tryz.underlying169 z3z b n D hm hown _ (kLD k) hx (z8w hk) fun w' r1 r2=>h w' r1 ((Chg.of_grown r2.grown).mono fun k _ e=>by cases e;rfl)
theorem len_at {w:World} {b n m:Nat} {D:DataW Sv} {S:Int→Option Sv} (h:MapB w b n D) (hT:Tm D S m) (ty:TypeId):(Builtin.len_ #[169] ty #[.map (some b)]).run Tryz.prog w=.ok (.int .i64 (m:Nat)) w:=by
 rw [← hT.size]
 exact h.len Tryz.underlying169 ty
end Go.Proofs.YtfdgnniicjdjdaaGreatDoor
