import Derived.Test.YtfdgnniicjdjdaaGreatDoorPS05
import Derived.Test.YtfdgnniicjdjdaaGreatDoorPS30
namespace Go.Proofs.YtfdgnniicjdjdaaGreatDoor
open Go.RowKit
set_option linter.unusedVariables false
set_option maxRecDepth 10000
abbrev O:=K × Int
abbrev o0:O:=((0,0,0),0)
def In64 (z:Int):Prop:=-9223372036854775808≤z∧z≤9223372036854775807
theorem z7b (z:Int):okB z=true ↔ In64 z:=by unfold okB In64;exact decide_eq_true_iff
abbrev Ln:=Int × Int
abbrev l0:Ln:=(0,0)
def Lnok (x:Ln):Prop:=(0≤x.1∧x.1≤255)∧In64 x.2
def z3m (s:Int) (L:List Ln) (j:Nat):Bool:=decide ((L.getD j l0).1<s) && decide (1≤(L.getD j l0).2) && (decide (j=0) || decide ((L.getD (j-1) l0).1<(L.getD j l0).1))
def z0v (s:Int) (L:List Ln):Bool:=(List.range L.length).all (z3m s L) && decide (L.length≤3)
def z5g (s w t r:Int) (L:List Ln):Bool:=z0p s w && decide (1≤t∧t≤8) && decide (1≤L.length) && z0v s L && (if 7≤t then decide (r=0) else decide (r<w))
theorem lines_false (s:Int) (L:List Ln) (j:Nat) (h:j<L.length) (hf:z3m s L j=false):z0v s L=false:=by
 unfold z0v
 cases hc:(List.range L.length).all (z3m s L) with
 | false=>rfl
 | true =>
  have:=List.all_eq_true.1 hc j (List.mem_range.2 h)
  rw [hf] at this
  cases this
theorem lines_true (s:Int) (L:List Ln) (h:∀ j,j<L.length→z3m s L j=true):z0v s L=decide (L.length≤3):=by
 unfold z0v
 have:(List.range L.length).all (z3m s L)=true:=by
  rw [List.all_eq_true]
  exact fun j hj=>h j (List.mem_range.1 hj)
 rw [this];rfl
def q2i (t:Int):Int:=if t=7∨t=8 then 4 else 1
theorem named_good (s w t r:Int) (x:Ln) (hr:0≤r) (ht:1≤t∧t≤8):z4p s w (q2i t) x.1 r=(z0p s w && decide (x.1<s) && (if 7≤t then decide (r=0) else decide (r<w))):=by
 unfold z4p q2i z4b
 by_cases h:t=7∨t=8
 · have h7:7≤t:=by omega
   rw [if_pos h,if_pos h7]
   congr 1
   simp
   omega
 · have h7:¬ 7≤t:=by omega
   rw [if_neg h,if_neg h7]
   simp
theorem good_parts {s w t r:Int} {L:List Ln} (h:z5g s w t r L=true):z0p s w=true∧(1≤t∧t≤8)∧1≤L.length∧L.length≤3∧(∀ j,j<L.length→z3m s L j=true)∧(if 7≤t then r=0 else r<w):=by
 unfold z5g z0v at h
 simp only [Bool.and_eq_true,decide_eq_true_eq] at h
 obtain⟨⟨⟨⟨h1,h2⟩,h3⟩,h4,h5⟩,h6⟩:=h
 refine⟨h1,h2,h3,h5,fun j hj=>List.all_eq_true.1 h4 j (List.mem_range.2 hj),?_⟩
 split
 · next h7=>rw [if_pos h7] at h6;simpa using h6
 · next h7=>rw [if_neg h7] at h6;simpa using h6
abbrev Tk:=Int × Int × Int × Int
abbrev tk0:Tk:=(0,0,0,0)
def Tkok (x:Tk):Prop:=(0≤x.1∧x.1≤4294967295)∧(0≤x.2.1∧x.2.1≤255)∧(0≤x.2.2.1∧x.2.2.1≤255)∧In64 x.2.2.2
structure Pg where
 kind:Int
 order:Int
 policy:Int
 lines:List Ln
 takes:List Tk
 owes:List Ln
 sku:Int
 frm:Int
 to:Int
 qty:Int
deriving DecidableEq
structure Pgok (P:Pg):Prop where
 kind:0≤P.kind∧P.kind≤255
 order:0≤P.order∧P.order≤4294967295
 policy:0≤P.policy∧P.policy≤255
 lines:∀ x∈P.lines,Lnok x
 takes:∀ x∈P.takes,Tkok x
 owes:∀ x∈P.owes,Lnok x
 sku:0≤P.sku∧P.sku≤255
 frm:0≤P.frm∧P.frm≤255
 to:0≤P.to∧P.to≤255
 qty:In64 P.qty
def z1o (T:List Tk) (s:Int):List Int:=(T.filter fun x=>decide (x.2.1=s)).map (·.2.2.2)
def z1h (M:List Ln) (s:Int):List Int:=(M.filter fun x=>decide (x.1=s)).map (·.2)
def z1x (T:List Tk) (M:List Ln) (s:Int):Int:=z1s (z1o T s++z1h M s)
theorem tkparts_take (T:List Tk) (s:Int) (j:Nat) (h:j<T.length):z1o (T.take (j+1)) s=z1o (T.take j) s++(if (T.getD j tk0).2.1=s then [(T.getD j tk0).2.2.2] else []):=by
 unfold z1o
 rw [List.take_add_one,List.getElem?_eq_getElem h,List.filter_append,List.map_append]
 have e:T.getD j tk0=T[j]:=by simp [List.getD,List.getElem?_eq_getElem h]
 rw [e]
 by_cases hk:T[j].2.1=s <;> simp [hk]
theorem z5i (M:List Ln) (s:Int) (j:Nat) (h:j<M.length):z1h (M.take (j+1)) s=z1h (M.take j) s++(if (M.getD j l0).1=s then [(M.getD j l0).2] else []):=by
 unfold z1h
 rw [List.take_add_one,List.getElem?_eq_getElem h,List.filter_append,List.map_append]
 have e:M.getD j l0=M[j]:=by simp [List.getD,List.getElem?_eq_getElem h]
 rw [e]
 by_cases hk:M[j].1=s <;> simp [hk]
theorem tkparts_in {T:List Tk} (h:∀ x∈T,Tkok x) (s:Int):∀ z∈z1o T s,In64 z:=by
 intro z hz
 obtain⟨x,hx,rfl⟩:=List.mem_map.1 hz
 exact (h x (List.mem_filter.1 hx).1).2.2.2
theorem z8d {M:List Ln} (h:∀ x∈M,Lnok x) (s:Int):∀ z∈z1h M s,In64 z:=by
 intro z hz
 obtain⟨x,hx,rfl⟩:=List.mem_map.1 hz
 exact (h x (List.mem_filter.1 hx).1).2
def z7j (s w o:Int) (T:List Tk) (j:Nat):Bool :=
 decide ((T.getD j tk0).1=o) && decide ((T.getD j tk0).2.1<s) && decide ((T.getD j tk0).2.2.1<w) && decide (1≤(T.getD j tk0).2.2.2) &&
 (decide (j=0) || decide ((T.getD (j-1) tk0).2.2.1<(T.getD j tk0).2.2.1) || (decide ((T.getD (j-1) tk0).2.2.1=(T.getD j tk0).2.2.1) && decide ((T.getD (j-1) tk0).2.1<(T.getD j tk0).2.1))) &&
 (decide (j<3) || decide ((T.getD (j-3) tk0).2.2.1≠(T.getD j tk0).2.2.1))
def z1a (s w o:Int) (T:List Tk):Bool:=(List.range T.length).all (z7j s w o T) && decide (T.length≤12)
theorem takes_false (s w o:Int) (T:List Tk) (j:Nat) (h:j<T.length) (hf:z7j s w o T j=false):z1a s w o T=false:=by
 unfold z1a
 cases hc:(List.range T.length).all (z7j s w o T) with
 | false=>rfl
 | true =>
  have:=List.all_eq_true.1 hc j (List.mem_range.2 h)
  rw [hf] at this
  cases this
theorem takes_true (s w o:Int) (T:List Tk) (h:∀ j,j<T.length→z7j s w o T j=true):z1a s w o T=decide (T.length≤12):=by
 unfold z1a
 have:(List.range T.length).all (z7j s w o T)=true:=by
  rw [List.all_eq_true]
  exact fun j hj=>h j (List.mem_range.1 hj)
 rw [this];rfl
def z5z (T:List Tk) (M L:List Ln) (s:Nat):Bool:=okB (z1x T M s) && okB (z1x [] L s) && decide (z1x T M s=z1x [] L s)
def z3f (T:List Tk) (M L:List Ln):Bool:=(List.range 4).all (z5z T M L)
theorem cover_false (T:List Tk) (M L:List Ln) (j:Nat) (h:j<4) (hf:z5z T M L j=false):z3f T M L=false:=by
 unfold z3f
 cases hc:(List.range 4).all (z5z T M L) with
 | false=>rfl
 | true =>
  have:=List.all_eq_true.1 hc j (List.mem_range.2 h)
  rw [hf] at this
  cases this
theorem cover_true (T:List Tk) (M L:List Ln) (h:∀ j,j<4→z5z T M L j=true):z3f T M L=true:=by
 unfold z3f
 rw [List.all_eq_true]
 exact fun j hj=>h j (List.mem_range.1 hj)
def z6b (sk to:Int) (T:List Tk) (j:Nat):Bool :=
 decide ((T.getD j tk0).1≠0) && decide ((T.getD j tk0).2.1=sk) && decide ((T.getD j tk0).2.2.1=to) && decide (1≤(T.getD j tk0).2.2.2) && (List.range j).all fun k=>decide ((T.getD k tk0).1≠(T.getD j tk0).1)
def z3t (sk to q:Int) (T:List Tk):Bool:=(List.range T.length).all (z6b sk to T) && (decide (T.length≤12) && okB (z1x T [] sk) && decide (z1x T [] sk≤q))
theorem fills_false (sk to q:Int) (T:List Tk) (j:Nat) (h:j<T.length) (hf:z6b sk to T j=false):z3t sk to q T=false:=by
 unfold z3t
 cases hc:(List.range T.length).all (z6b sk to T) with
 | false=>rfl
 | true =>
  have:=List.all_eq_true.1 hc j (List.mem_range.2 h)
  rw [hf] at this
  cases this
theorem fills_true (sk to q:Int) (T:List Tk) (h:∀ j,j<T.length→z6b sk to T j=true):z3t sk to q T=(decide (T.length≤12) && okB (z1x T [] sk) && decide (z1x T [] sk≤q)):=by
 unfold z3t
 have:(List.range T.length).all (z6b sk to T)=true:=by
  rw [List.all_eq_true]
  exact fun j hj=>h j (List.mem_range.1 hj)
 rw [this];rfl
def qofP (P:Pg):Pg :=
 if P.kind=1 then { P with sku:=0,frm:=0,to:=0,qty:=0 } else
 if P.kind=2 then { P with policy:=0,lines:=[],sku:=0,frm:=0,to:=0,qty:=0 } else
 if P.kind=3∨P.kind=4 then { P with policy:=0,lines:=[],owes:=[],sku:=0,frm:=0,to:=0,qty:=0 } else
 if P.kind=5 then { P with order:=0,policy:=0,lines:=[],owes:=[],frm:=0 } else
 { P with order:=0,policy:=0,lines:=[],takes:=[],owes:=[] }
def askP (s w:Int) (P:Pg):Bool :=
 if P.kind=1 then decide (P.order≠0) && decide (P.policy≤1) && decide (1≤P.lines.length) && z0v s P.lines && z1a s w P.order P.takes && z0v s P.owes && z3f P.takes P.owes P.lines && (decide (P.policy=0) || decide (P.owes.length=0)) else
 if P.kind=2 then decide (P.order≠0) && z1a s w P.order P.takes && z0v s P.owes && decide (1≤P.takes.length+P.owes.length) else
 if P.kind=3∨P.kind=4 then decide (P.order≠0) && z1a s w P.order P.takes && decide (1≤P.takes.length) else
 if P.kind=5 then decide (P.sku<s) && decide (P.to<w) && decide (1≤P.qty) && z3t P.sku P.to P.qty P.takes else
 if P.kind=6 then decide (P.sku<s) && decide (P.frm<w) && decide (P.to<w) && decide (P.frm≠P.to) && decide (1≤P.qty) else false
def z0w (s w:Int) (P:Pg):Bool:=z0p s w && askP s w P && decide (P=qofP P)
abbrev Stp:=Int × Int × List Ln
def lnT (x:Tk):Ln:=(x.2.1,x.2.2.2)
def z4e (t:Int) (S:List Stp) (x:Tk):List Stp :=
 match S.getLast? with
 | some l=>if l.2.1=x.2.2.1 then S.dropLast ++ [(l.1,l.2.1,l.2.2 ++ [lnT x])] else S ++ [(t,x.2.2.1,[lnT x])]
 | none=>[(t,x.2.2.1,[lnT x])]
def z1u (t:Int) (T:List Tk):List Stp:=T.foldl (z4e t) []
theorem z8h (t:Int) (S:List Stp) (l:Stp) (x:Tk) (h:l.2.1=x.2.2.1):z4e t (S ++ [l]) x=S ++ [(l.1,l.2.1,l.2.2 ++ [lnT x])]:=by
 unfold z4e
 rw [List.getLast?_concat]
 simp [h]
theorem z9p (t:Int) (S:List Stp) (l:Stp) (x:Tk) (h:l.2.1≠x.2.2.1):z4e t (S ++ [l]) x=S ++ [l] ++ [(t,x.2.2.1,[lnT x])]:=by
 unfold z4e
 rw [List.getLast?_concat]
 simp [h]
theorem z5d (t:Int) (T:List Tk) (j:Nat) (h:j<T.length):z1u t (T.take (j+1))=z4e t (z1u t (T.take j)) (T.getD j tk0):=by
 unfold z1u
 rw [List.take_add_one,List.getElem?_eq_getElem h,List.foldl_append]
 simp [List.getD,List.getElem?_eq_getElem h]
structure Run (t:Int) (T:List Tk) (j:Nat) (S:List Stp) (L:List Ln) (q:Nat):Prop where
 eq:z1u t (T.take j)=S ++ [(t,(T.getD (j-1) tk0).2.2.1,L)]
 len:L.length=q
 one:1≤q
 le:q≤j
 same:∀ i,i<q→(T.getD (j-1-i) tk0).2.2.1=(T.getD (j-1) tk0).2.2.1
 last:L.getD (q-1) l0=lnT (T.getD (j-1) tk0)
 stop:q<j→(T.getD (j-1-q) tk0).2.2.1≠(T.getD (j-1) tk0).2.2.1
theorem z7s {α:Type} (L:List α) (x d:α):(L ++ [x]).getD L.length d=x:=by simp [List.getD]
theorem z5q {α:Type} (L M:List α) (d:α) (j:Nat) (h:j<L.length):(L++M).getD j d=L.getD j d:=by
 simp [List.getD,List.getElem?_append_left h]
theorem q1n (t:Int) (T:List Tk):∀ j,1≤j→j≤T.length→∃ S L q,Run t T j S L q
 | 0,h,_=>by omega
 | 1,_,h=>by
  refine⟨[],[lnT (T.getD 0 tk0)],1,?_,rfl,Nat.le_refl _,Nat.le_refl _,fun i hi=>?_,rfl,fun h=>by omega⟩
  · rw [z5d t T 0 h];rfl
  · obtain rfl:i=0:=by omega
    rfl
 | j+2,_,h=>by
  obtain⟨S,L,q,R⟩:=q1n t T (j+1) (by omega) (by omega)
  have he:=z5d t T (j+1) (by omega)
  have e1:j+1-1=j:=rfl
  have e2:j+2-1=j+1:=rfl
  have hR:=R.eq
  have hsame:=R.same
  have hlast:=R.last
  have hstop:=R.stop
  have hlen:=R.len
  have hle:=R.le
  have hone:=R.one
  rw [e1] at hR hsame hlast hstop
  by_cases hw:(T.getD j tk0).2.2.1=(T.getD (j+1) tk0).2.2.1
  · refine⟨S,L ++ [lnT (T.getD (j+1) tk0)],q+1,?_,by simp [hlen],by omega,by omega,fun i hi=>?_,?_,fun hq=>?_⟩
    · rw [he,hR,z8h t S _ _ hw,e2,← hw]
    · rw [e2]
      cases i with
      | zero=>rfl
      | succ i =>
       have:j+1-(i+1)=j-i:=by omega
       rw [this,← hw]
       exact hsame i (by omega)
    · rw [e2,Nat.add_sub_cancel,← hlen,z7s]
    · rw [e2]
      have:j+1-(q+1)=j-q:=by omega
      rw [this,← hw]
      exact hstop (by omega)
  · refine⟨S ++ [(t,(T.getD j tk0).2.2.1,L)],[lnT (T.getD (j+1) tk0)],1,?_,rfl,Nat.le_refl _,by omega,fun i hi=>?_,rfl,fun hq=>?_⟩
    · rw [he,hR,z9p t S _ _ hw,e2]
    · obtain rfl:i=0:=by omega
      rfl
    · rw [e2]
      exact hw
def z4j (s w:Int) (S:List Stp) (j:Nat):Bool:=(decide (j=0) || decide ((S.getD (j-1) (0,0,[])).2.1<(S.getD j (0,0,[])).2.1)) && z5g s w (S.getD j (0,0,[])).1 (S.getD j (0,0,[])).2.1 (S.getD j (0,0,[])).2.2
def q0x (s w:Int) (S:List Stp):Prop:=∀ j,j<S.length→z4j s w S j=true
theorem house_left (s w:Int) (S M:List Stp) (j:Nat) (h:j<S.length):z4j s w (S++M) j=z4j s w S j:=by
 unfold z4j
 rw [z5q S M _ j h,z5q S M _ (j-1) (by omega)]
theorem z5p (s w:Int) (S:List Stp) (l:Stp):q0x s w (S ++ [l]) ↔ q0x s w S∧(S=[]∨((S.getD (S.length-1) (0,0,[])).2.1<l.2.1))∧z5g s w l.1 l.2.1 l.2.2=true:=by
 have hl:z4j s w (S ++ [l]) S.length=((decide (S=[]) || decide ((S.getD (S.length-1) (0,0,[])).2.1<l.2.1)) && z5g s w l.1 l.2.1 l.2.2):=by
  unfold z4j
  rw [z7s]
  by_cases h0:S=[]
  · subst h0;simp
  · have:S.length≠0:=fun h=>h0 (List.eq_nil_of_length_eq_zero h)
    rw [z5q S [l] _ (S.length-1) (by omega)]
    simp [h0]
 constructor
 · intro h
   have h2:=h S.length (by simp)
   rw [hl] at h2
   simp only [Bool.and_eq_true,Bool.or_eq_true,decide_eq_true_eq] at h2
   exact⟨fun j hj=>by rw [← house_left s w S [l] j hj];exact h j (by simp;omega),h2.1,h2.2⟩
 · rintro ⟨h1,h2,h3⟩ j hj
   by_cases hjl:j<S.length
   · rw [house_left s w S [l] j hjl];exact h1 j hjl
   · obtain rfl:j=S.length:=by simp at hj;omega
     rw [hl]
     simp only [Bool.and_eq_true,Bool.or_eq_true,decide_eq_true_eq]
     exact⟨h2,h3⟩
def z6x (s w:Int) (T:List Tk) (j:Nat):Prop :=
 (T.getD j tk0).2.1<s∧(T.getD j tk0).2.2.1<w∧1≤(T.getD j tk0).2.2.2 ∧
 (j=0∨(T.getD (j-1) tk0).2.2.1<(T.getD j tk0).2.2.1∨((T.getD (j-1) tk0).2.2.1=(T.getD j tk0).2.2.1∧(T.getD (j-1) tk0).2.1<(T.getD j tk0).2.1)) ∧
 (j<3∨(T.getD (j-3) tk0).2.2.1≠(T.getD j tk0).2.2.1)
theorem z9i {s w:Int} {T:List Tk} {j:Nat} (h:∀ i,i<j→z6x s w T i):∀ k,k<j→(T.getD (j-1-k) tk0).2.2.1≤(T.getD (j-1) tk0).2.2.1
 | 0,_=>Int.le_refl _
 | k+1,hk=>by
  have h1:=z9i h k (by omega)
  have h2:=(h (j-1-k) (by omega)).2.2.2.1
  have e:j-1-k-1=j-1-(k+1):=by omega
  rw [e] at h2
  omega
theorem good_one (s w t r:Int) (x:Ln) (hs:z0p s w=true) (ht:1≤t∧t≤6):z5g s w t r [x]=true ↔ x.1<s∧1≤x.2∧r<w:=by
 unfold z5g
 rw [hs,decide_eq_true (show 1≤t∧t≤8 by omega),if_neg (show ¬ 7≤t by omega)]
 simp [z0v,z3m,List.range_succ]
 omega
theorem lines_snoc (s:Int) (L:List Ln) (x:Ln) (h1:1≤L.length):z0v s (L ++ [x])=true ↔ z0v s L=true∧x.1<s∧1≤x.2∧(L.getD (L.length-1) l0).1<x.1∧L.length+1≤3:=by
 have hl:∀ j,j<L.length→z3m s (L ++ [x]) j=z3m s L j:=fun j hj=>by
  unfold z3m
  rw [z5q L [x] _ j hj,z5q L [x] _ (j-1) (by omega)]
 have hx:z3m s (L ++ [x]) L.length=(decide (x.1<s) && decide (1≤x.2) && decide ((L.getD (L.length-1) l0).1<x.1)):=by
  unfold z3m
  rw [z7s,z5q L [x] _ (L.length-1) (by omega),decide_eq_false (show ¬ L.length=0 by omega),Bool.false_or]
 have hall:(List.range (L ++ [x]).length).all (z3m s (L ++ [x]))=((List.range L.length).all (z3m s L) && z3m s (L ++ [x]) L.length):=by
  rw [List.length_append,List.length_singleton,List.range_succ,List.all_append]
  congr 1
  · rw [Bool.eq_iff_iff,List.all_eq_true,List.all_eq_true]
    constructor
    · intro h j hj;rw [← hl j (List.mem_range.1 hj)];exact h j hj
    · intro h j hj;rw [hl j (List.mem_range.1 hj)];exact h j hj
  · simp
 unfold z0v
 rw [hall,hx]
 simp only [Bool.and_eq_true,decide_eq_true_eq,List.length_append,List.length_singleton]
 constructor
 · rintro ⟨⟨h1,⟨h2,h3⟩,h4⟩,h5⟩;exact⟨⟨h1,by omega⟩,h2,h3,h4,h5⟩
 · rintro ⟨⟨h1,_⟩,h2,h3,h4,h5⟩;exact⟨⟨h1,⟨h2,h3⟩,h4⟩,h5⟩
theorem good_snoc (s w t r:Int) (L:List Ln) (x:Ln) (h1:1≤L.length):z5g s w t r (L ++ [x])=true ↔ z5g s w t r L=true∧x.1<s∧1≤x.2∧(L.getD (L.length-1) l0).1<x.1∧L.length+1≤3:=by
 have h:=lines_snoc s L x h1
 unfold z5g
 simp only [Bool.and_eq_true,decide_eq_true_eq,List.length_append,List.length_singleton]
 rw [h]
 constructor
 · rintro ⟨⟨⟨⟨a,b⟩,c⟩,d,e⟩,f⟩;exact⟨⟨⟨⟨⟨a,b⟩,h1⟩,d⟩,f⟩,e⟩
 · rintro ⟨⟨⟨⟨⟨a,b⟩,c⟩,d⟩,f⟩,e⟩;exact⟨⟨⟨⟨a,b⟩,by omega⟩,d,e⟩,f⟩
theorem house_takes (s w t:Int) (T:List Tk) (hs:z0p s w=true) (ht:1≤t∧t≤6):∀ j,j≤T.length→(q0x s w (z1u t (T.take j)) ↔ ∀ i,i<j→z6x s w T i)
 | 0,_=>by
  constructor
  · intro _ i hi;omega
  · intro _ i hi
    simp [z1u] at hi
 | 1,h=>by
  rw [z5d t T 0 h]
  have e:z4e t (z1u t (T.take 0)) (T.getD 0 tk0)=[] ++ [(t,(T.getD 0 tk0).2.2.1,[lnT (T.getD 0 tk0)])]:=rfl
  rw [e,z5p]
  dsimp only
  rw [good_one s w t _ _ hs ht]
  constructor
  · rintro ⟨_,_,h1,h2,h3⟩ i hi
    obtain rfl:i=0:=by omega
    exact⟨h1,h3,h2,.inl rfl,.inl (by omega)⟩
  · intro h
    obtain⟨h1,h2,h3,_⟩:=h 0 (by omega)
    exact⟨fun i hi=>absurd hi (Nat.not_lt_zero i),.inl rfl,h1,h3,h2⟩
 | j+2,h=>by
  have ih:=house_takes s w t T hs ht (j+1) (by omega)
  obtain⟨S,L,q,R⟩:=q1n t T (j+1) (by omega) (by omega)
  have hR:=R.eq
  have hsame:=R.same
  have hlast:=R.last
  have hstop:=R.stop
  have hlen:=R.len
  have hle:=R.le
  have hone:=R.one
  have e1:j+1-1=j:=rfl
  rw [e1] at hR hsame hlast hstop
  rw [z5d t T (j+1) (by omega)]
  rw [hR] at ih
  have hsplit:(∀ i,i<j+2→z6x s w T i) ↔ (∀ i,i<j+1→z6x s w T i)∧z6x s w T (j+1):=by
   constructor
   · intro h;exact⟨fun i hi=>h i (by omega),h (j+1) (by omega)⟩
   · rintro ⟨h1,h2⟩ i hi
     by_cases hij:i<j+1
     · exact h1 i hij
     · obtain rfl:i=j+1:=by omega
       exact h2
  rw [hsplit,← ih,hR]
  by_cases hw:(T.getD j tk0).2.2.1=(T.getD (j+1) tk0).2.2.1
  · rw [z8h t S _ _ hw]
    dsimp only
    rw [z5p,z5p]
    dsimp only
    rw [good_snoc s w t _ L _ (by omega),hlen,hlast]
    unfold lnT z6x
    dsimp only
    have e3:j+1-3=j-2:=by omega
    try simp only [e1,e3]
    constructor
    · rintro ⟨a,b,c,d,e,f,g⟩
      refine⟨⟨a,b,c⟩,d,?_,e,.inr (.inr ⟨hw,f⟩),?_⟩
      · have:=(good_parts c).2.2.2.2.2
        rw [if_neg (by omega)] at this
        omega
      · by_cases h3:j+1<3
        · exact .inl h3
        · refine .inr fun hc=>?_
          have hall:=ih.1 ((z5p s w S _).2 ⟨a,b,c⟩)
          have r1:=z9i hall 1 (by omega)
          have r2:=(hall (j-1) (by omega)).2.2.2.1
          rw [e1] at r1
          have e2:j-1-1=j-2:=by omega
          rw [e2] at r2
          rcases (by omega:q=1∨q=2) with rfl | rfl
          · exact hstop (by omega) (by omega)
          · exact hstop (by omega) (by omega)
    · rintro ⟨⟨a,b,c⟩,d,d2,e,f,g⟩
      refine⟨a,b,c,d,e,by omega,?_⟩
      by_cases hq:q+1≤3
      · exact hq
      · have:=hsame 2 (by omega)
        omega
  · rw [z9p t S _ _ hw,z5p]
    dsimp only
    rw [good_one s w t _ _ hs ht]
    have hg:(S ++ [((t,(T.getD j tk0).2.2.1,L):Stp)]).getD ((S ++ [((t,(T.getD j tk0).2.2.1,L):Stp)]).length-1) (0,0,[])=(t,(T.getD j tk0).2.2.1,L):=by
     rw [List.length_append,List.length_singleton,Nat.add_sub_cancel,z7s]
    rw [hg]
    unfold lnT z6x
    dsimp only
    have e3:j+1-3=j-2:=by omega
    try simp only [e1,e3]
    constructor
    · rintro ⟨a,b,c,d,e⟩
      have hb:(T.getD j tk0).2.2.1<(T.getD (j+1) tk0).2.2.1:=by
       rcases b with b | b
       · simp at b
       · exact b
      refine⟨a,c,e,d,.inr (.inl hb),?_⟩
      by_cases h3:j+1<3
      · exact .inl h3
      · have hall:=ih.1 a
        have r1:=z9i hall 2 (by omega)
        rw [e1] at r1
        exact .inr (by omega)
    · rintro ⟨a,c,e,d,f,_⟩
      exact⟨a,.inr (by omega),c,d,e⟩
theorem z6c (s w o:Int) (T:List Tk):z1a s w o T=true ↔ T.length≤12∧(∀ j,j<T.length→(T.getD j tk0).1=o)∧∀ j,j<T.length→z6x s w T j:=by
 unfold z1a
 rw [Bool.and_eq_true,List.all_eq_true]
 simp only [List.mem_range,decide_eq_true_eq]
 have:∀ j,z7j s w o T j=true ↔ (T.getD j tk0).1=o∧z6x s w T j:=fun j=>by
  unfold z7j z6x
  simp only [Bool.and_eq_true,Bool.or_eq_true,decide_eq_true_eq]
  constructor
  · rintro ⟨⟨⟨⟨⟨a,b⟩,c⟩,d⟩,e⟩,f⟩
    refine⟨a,b,c,d,?_,f⟩
    rcases e with (e | e) | e
    · exact .inl e
    · exact .inr (.inl e)
    · exact .inr (.inr e)
  · rintro ⟨a,b,c,d,e,f⟩
    refine⟨⟨⟨⟨⟨a,b⟩,c⟩,d⟩,?_⟩,f⟩
    rcases e with e | e | e
    · exact .inl (.inl e)
    · exact .inl (.inr e)
    · exact .inr e
 constructor
 · rintro ⟨h1,h2⟩
   exact⟨h2,fun j hj=>((this j).1 (h1 j hj)).1,fun j hj=>((this j).1 (h1 j hj)).2⟩
 · rintro ⟨h1,h2,h3⟩
   exact⟨fun j hj=>(this j).2 ⟨h2 j hj,h3 j hj⟩,h1⟩
theorem house_all (s w o:Int) (T:List Tk) (hs:z0p s w=true):z1a s w o T=true ↔ T.length≤12∧(∀ j,j<T.length→(T.getD j tk0).1=o)∧q0x s w (z1u 1 T):=by
 rw [z6c]
 have:=house_takes s w 1 T hs (by omega) T.length (Nat.le_refl _)
 rw [List.take_length] at this
 rw [this]
theorem tkparts_none (T:List Tk) (s:Int) (h:∀ x∈T,x.2.1≠s):z1o T s=[]:=by
 unfold z1o
 rw [List.map_eq_nil_iff,List.filter_eq_nil_iff]
 intro x hx
 simpa using h x hx
theorem lnparts_none (M:List Ln) (s:Int) (h:∀ x∈M,x.1≠s):z1h M s=[]:=by
 unfold z1h
 rw [List.map_eq_nil_iff,List.filter_eq_nil_iff]
 intro x hx
 simpa using h x hx
theorem q0p {L:List Ln} (h:∀ x∈L,Lnok x) {j:Nat} (hj:j<L.length):Lnok (L.getD j l0):=by
 rw [List.getD,List.getElem?_eq_getElem hj]
 exact h _ (List.getElem_mem _)
theorem z6q {α:Type} {L:List α} {x:α} (d:α) (h:x∈L):∃ j,j<L.length∧L.getD j d=x:=by
 obtain⟨j,hj,rfl⟩:=List.mem_iff_getElem.1 h
 exact⟨j,hj,by simp [List.getD,List.getElem?_eq_getElem hj]⟩
theorem z7d {s:Int} {L:List Ln} (h:z0v s L=true):L.length≤3∧∀ j,j<L.length→z3m s L j=true:=by
 unfold z0v at h
 rw [Bool.and_eq_true,List.all_eq_true] at h
 exact⟨by simpa using h.2,fun j hj=>h.1 j (List.mem_range.2 hj)⟩
theorem lines_sku {s:Int} {L:List Ln} (h:z0v s L=true):∀ x∈L,x.1<s:=by
 intro x hx
 obtain⟨j,hj,rfl⟩:=z6q l0 hx
 have:=(z7d h).2 j hj
 unfold z3m at this
 simp only [Bool.and_eq_true,decide_eq_true_eq] at this
 exact this.1.1
theorem lines_rise {s:Int} {L:List Ln} (h:z0v s L=true):∀ j k,j<k→k<L.length→(L.getD j l0).1<(L.getD k l0).1
 | j,0,h1,_=>by omega
 | j,k+1,h1,h2=>by
  have hk:=(z7d h).2 (k+1) h2
  unfold z3m at hk
  simp only [Bool.and_eq_true,Bool.or_eq_true,decide_eq_true_eq] at hk
  have h3:(L.getD k l0).1<(L.getD (k+1) l0).1:=by
   rcases hk.2 with h | h
   · omega
   · exact h
  rcases (by omega:j=k∨j<k) with rfl | hjk
  · exact h3
  · exact Int.lt_trans (lines_rise h j k hjk (by omega)) h3
theorem parts_one {s:Int} {L:List Ln} (h:z0v s L=true) (a:Int):∀ j,j≤L.length→(z1h (L.take j) a=[]∧∀ i,i<j→(L.getD i l0).1≠a)∨∃ i,i<j∧(L.getD i l0).1=a∧z1h (L.take j) a=[(L.getD i l0).2]
 | 0,_=>.inl ⟨by simp [z1h],fun i hi=>by omega⟩
 | j+1,hj=>by
  rw [z5i L a j (by omega)]
  rcases parts_one h a j (by omega) with ⟨h1,h2⟩ | ⟨i,h1,h2,h3⟩
  · by_cases hc:(L.getD j l0).1=a
    · rw [if_pos hc,h1]
      exact .inr ⟨j,by omega,hc,rfl⟩
    · rw [if_neg hc,h1]
      refine .inl ⟨rfl,fun i hi=>?_⟩
      by_cases hij:i<j
      · exact h2 i hij
      · obtain rfl:i=j:=by omega
        exact hc
  · have:=lines_rise h i j h1 (by omega)
    rw [if_neg (by omega),h3]
    exact .inr ⟨i,by omega,h2,rfl⟩
theorem named_lines_ok {s:Int} {L:List Ln} (h:z0v s L=true) (hok:∀ x∈L,Lnok x) (a:Int):okB (z1x [] L a)=true:=by
 unfold z1x
 have e:z1o [] a=[]:=rfl
 rw [e,List.nil_append]
 have:=parts_one h a L.length (Nat.le_refl _)
 rw [List.take_length] at this
 rcases this with ⟨h1,_⟩ | ⟨i,h1,_,h3⟩
 · rw [h1];rfl
 · rw [h3]
   have:=(q0p hok h1).2
   rw [z7b]
   simpa [z1s] using this
def z4k (T:List Tk) (M L:List Ln) (a:Nat):Bool:=okB (z1x T M a) && decide (z1x T M a=z1x [] L a)
theorem served_cover {s o:Int} {T:List Tk} {M L:List Ln} (h0:0≤s) (h4:s≤4) (hL:z0v s L=true) (hM:z0v s M=true) (hT:∀ x∈T,x.2.1<s) (hok:∀ x∈L,Lnok x):(∀ a:Nat,(a:Int)<s→z4k T M L a=true) ↔ z3f T M L=true:=by
 have hc:∀ a:Nat,z5z T M L a=z4k T M L a:=fun a=>by
  unfold z5z z4k
  rw [named_lines_ok hL hok,Bool.and_true]
 unfold z3f
 rw [List.all_eq_true]
 constructor
 · intro h a ha
   rw [hc]
   by_cases hs:(a:Int)<s
   · exact h a hs
   · have z1:z1o T a=[]:=tkparts_none T a fun x hx=>by have:=hT x hx;omega
     have z2:z1h M a=[]:=lnparts_none M a fun x hx=>by have:=lines_sku hM x hx;omega
     have z3:z1h L a=[]:=lnparts_none L a fun x hx=>by have:=lines_sku hL x hx;omega
     unfold z4k z1x
     rw [z1,z2,z3]
     rfl
 · intro h a ha
   rw [← hc]
   exact h a (List.mem_range.2 (by omega))
theorem takes_sku {s w o:Int} {T:List Tk} (h:z1a s w o T=true):∀ x∈T,x.2.1<s:=by
 intro x hx
 obtain⟨j,hj,rfl⟩:=z6q tk0 hx
 exact (((z6c s w o T).1 h).2.2 j hj).1
def allT (T:List Tk):List Int:=T.map (·.2.2.2)
theorem allT_take (T:List Tk) (j:Nat) (h:j<T.length):allT (T.take (j+1))=allT (T.take j) ++ [(T.getD j tk0).2.2.2]:=by
 unfold allT
 rw [List.take_add_one,List.getElem?_eq_getElem h,List.map_append]
 simp [List.getD,List.getElem?_eq_getElem h]
theorem named_all (T:List Tk) (s:Int) (h:∀ x∈T,x.2.1=s):z1x T [] s=z1s (allT T):=by
 unfold z1x
 have e:z1h [] s=[]:=rfl
 rw [e,List.append_nil]
 unfold z1o allT
 rw [List.filter_eq_self.2 (fun x hx=>by simpa using h x hx)]
end Go.Proofs.YtfdgnniicjdjdaaGreatDoor
