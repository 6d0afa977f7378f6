import Derived.Test.YtclbkfpbdidaiaaDoorPA11
namespace Go.Proofs.YtclbkfpbdidaiaaDoor
open Go.RowKit
set_option linter.unusedVariables false
set_option maxRecDepth 10000
def lnT (x:Tk):Ln:=(x.2.1,x.2.2.2)
def hstep (t:Int) (S:List Stp) (x:Tk):List Stp :=
 match S.getLast? with
 | some l=>if l.2.1=x.2.2.1 then S.dropLast ++ [(l.1,l.2.1,l.2.2 ++ [lnT x])] else S ++ [(t,x.2.2.1,[lnT x])]
 | none=>[(t,x.2.2.1,[lnT x])]
def z0q (t:Int) (T:List Tk):List Stp:=T.foldl (hstep t) []
theorem hstep_same (t:Int) (S:List Stp) (l:Stp) (x:Tk) (h:l.2.1=x.2.2.1):hstep t (S ++ [l]) x=S ++ [(l.1,l.2.1,l.2.2 ++ [lnT x])]:=by
 unfold hstep
 rw [List.getLast?_concat]
 simp [h]
theorem hstep_new (t:Int) (S:List Stp) (l:Stp) (x:Tk) (h:l.2.1≠x.2.2.1):hstep t (S ++ [l]) x=S ++ [l] ++ [(t,x.2.2.1,[lnT x])]:=by
 unfold hstep
 rw [List.getLast?_concat]
 simp [h]
theorem z2h (t:Int) (T:List Tk) (j:Nat) (h:j<T.length):z0q t (T.take (j+1))=hstep t (z0q t (T.take j)) (T.getD j tk0):=by
 unfold z0q
 rw [List.take_add_one,List.getElem?_eq_getElem h,List.foldl_append]
 simp [List.getD,List.getElem?_eq_getElem h]
structure Run (t:Int) (T:List Tk) (j:Nat) (S:List Stp) (L:List Ln) (q:Nat):Prop where
 eq:z0q t (T.take j)=S ++ [(t,(T.getD (j-1) tk0).2.2.1,L)]
 len:L.length=q
 one:1≤q
 le:q≤j
 same:∀ i,i<q→(T.getD (j-1-i) tk0).2.2.1=(T.getD (j-1) tk0).2.2.1
 last:L.getD (q-1) l0=lnT (T.getD (j-1) tk0)
 stop:q<j→(T.getD (j-1-q) tk0).2.2.1≠(T.getD (j-1) tk0).2.2.1
theorem getD_snoc {α:Type} (L:List α) (x d:α):(L ++ [x]).getD L.length d=x:=by simp [List.getD]
theorem getD_left {α:Type} (L M:List α) (d:α) (j:Nat) (h:j<L.length):(L++M).getD j d=L.getD j d:=by
 simp [List.getD,List.getElem?_append_left h]
theorem run_all (t:Int) (T:List Tk):∀ j,1≤j→j≤T.length→∃ S L q,Run t T j S L q
 | 0,h,_=>by omega
 | 1,_,h=>by
  refine⟨[],[lnT (T.getD 0 tk0)],1,?_,rfl,Nat.le_refl _,Nat.le_refl _,fun i hi=>?_,rfl,fun h=>by omega⟩
  · rw [z2h t T 0 h];rfl
  · obtain rfl:i=0:=by omega
    rfl
 | j+2,_,h=>by
  obtain⟨S,L,q,R⟩:=run_all t T (j+1) (by omega) (by omega)
  have he:=z2h t T (j+1) (by omega)
  have e1:j+1-1=j:=rfl
  have e2:j+2-1=j+1:=rfl
  have hR:=R.eq
  have hsame:=R.same
  have hlast:=R.last
  have hstop:=R.stop
  have hlen:=R.len
  have hle:=R.le
  have hone:=R.one
  rw [e1] at hR hsame hlast hstop
  by_cases hw:(T.getD j tk0).2.2.1=(T.getD (j+1) tk0).2.2.1
  · refine⟨S,L ++ [lnT (T.getD (j+1) tk0)],q+1,?_,by simp [hlen],by omega,by omega,fun i hi=>?_,?_,fun hq=>?_⟩
    · rw [he,hR,hstep_same t S _ _ hw,e2,← hw]
    · rw [e2]
      cases i with
      | zero=>rfl
      | succ i =>
       have:j+1-(i+1)=j-i:=by omega
       rw [this,← hw]
       exact hsame i (by omega)
    · rw [e2,Nat.add_sub_cancel,← hlen,getD_snoc]
    · rw [e2]
      have:j+1-(q+1)=j-q:=by omega
      rw [this,← hw]
      exact hstop (by omega)
  · refine⟨S ++ [(t,(T.getD j tk0).2.2.1,L)],[lnT (T.getD (j+1) tk0)],1,?_,rfl,Nat.le_refl _,by omega,fun i hi=>?_,rfl,fun hq=>?_⟩
    · rw [he,hR,hstep_new t S _ _ hw,e2]
    · obtain rfl:i=0:=by omega
      rfl
    · rw [e2]
      exact hw
def houseAt (s w:Int) (S:List Stp) (j:Nat):Bool:=(decide (j=0) || decide ((S.getD (j-1) (0,0,[])).2.1<(S.getD j (0,0,[])).2.1)) && goodS s w (S.getD j (0,0,[])).1 (S.getD j (0,0,[])).2.1 (S.getD j (0,0,[])).2.2
def HouseOk (s w:Int) (S:List Stp):Prop:=∀ j,j<S.length→houseAt s w S j=true
theorem house_left (s w:Int) (S M:List Stp) (j:Nat) (h:j<S.length):houseAt s w (S++M) j=houseAt s w S j:=by
 unfold houseAt
 rw [getD_left S M _ j h,getD_left S M _ (j-1) (by omega)]
theorem house_snoc (s w:Int) (S:List Stp) (l:Stp):HouseOk s w (S ++ [l]) ↔ HouseOk s w S∧(S=[]∨((S.getD (S.length-1) (0,0,[])).2.1<l.2.1))∧goodS s w l.1 l.2.1 l.2.2=true:=by
 have hl:houseAt s w (S ++ [l]) S.length=((decide (S=[]) || decide ((S.getD (S.length-1) (0,0,[])).2.1<l.2.1)) && goodS s w l.1 l.2.1 l.2.2):=by
  unfold houseAt
  rw [getD_snoc]
  by_cases h0:S=[]
  · subst h0;simp
  · have:S.length≠0:=fun h=>h0 (List.eq_nil_of_length_eq_zero h)
    rw [getD_left S [l] _ (S.length-1) (by omega)]
    simp [h0]
 constructor
 · intro h
   have h2:=h S.length (by simp)
   rw [hl] at h2
   simp only [Bool.and_eq_true,Bool.or_eq_true,decide_eq_true_eq] at h2
   exact⟨fun j hj=>by rw [← house_left s w S [l] j hj];exact h j (by simp;omega),h2.1,h2.2⟩
 · rintro ⟨h1,h2,h3⟩ j hj
   by_cases hjl:j<S.length
   · rw [house_left s w S [l] j hjl];exact h1 j hjl
   · obtain rfl:j=S.length:=by simp at hj;omega
     rw [hl]
     simp only [Bool.and_eq_true,Bool.or_eq_true,decide_eq_true_eq]
     exact⟨h2,h3⟩
def TakeOk (s w:Int) (T:List Tk) (j:Nat):Prop :=
 (T.getD j tk0).2.1<s∧(T.getD j tk0).2.2.1<w∧1≤(T.getD j tk0).2.2.2 ∧
 (j=0∨(T.getD (j-1) tk0).2.2.1<(T.getD j tk0).2.2.1∨((T.getD (j-1) tk0).2.2.1=(T.getD j tk0).2.2.1∧(T.getD (j-1) tk0).2.1<(T.getD j tk0).2.1)) ∧
 (j<3∨(T.getD (j-3) tk0).2.2.1≠(T.getD j tk0).2.2.1)
theorem rise_back {s w:Int} {T:List Tk} {j:Nat} (h:∀ i,i<j→TakeOk s w T i):∀ k,k<j→(T.getD (j-1-k) tk0).2.2.1≤(T.getD (j-1) tk0).2.2.1
 | 0,_=>Int.le_refl _
 | k+1,hk=>by
  have h1:=rise_back h k (by omega)
  have h2:=(h (j-1-k) (by omega)).2.2.2.1
  have e:j-1-k-1=j-1-(k+1):=by omega
  rw [e] at h2
  omega
theorem good_one (s w t r:Int) (x:Ln) (hs:z0o s w=true) (ht:1≤t∧t≤6):goodS s w t r [x]=true ↔ x.1<s∧1≤x.2∧r<w:=by
 unfold goodS
 rw [hs,decide_eq_true (show 1≤t∧t≤8 by omega),if_neg (show ¬ 7≤t by omega)]
 simp [z0l,z1t,List.range_succ]
 omega
theorem lines_snoc (s:Int) (L:List Ln) (x:Ln) (h1:1≤L.length):z0l s (L ++ [x])=true ↔ z0l s L=true∧x.1<s∧1≤x.2∧(L.getD (L.length-1) l0).1<x.1∧L.length+1≤3:=by
 have hl:∀ j,j<L.length→z1t s (L ++ [x]) j=z1t s L j:=fun j hj=>by
  unfold z1t
  rw [getD_left L [x] _ j hj,getD_left L [x] _ (j-1) (by omega)]
 have hx:z1t s (L ++ [x]) L.length=(decide (x.1<s) && decide (1≤x.2) && decide ((L.getD (L.length-1) l0).1<x.1)):=by
  unfold z1t
  rw [getD_snoc,getD_left L [x] _ (L.length-1) (by omega),decide_eq_false (show ¬ L.length=0 by omega),Bool.false_or]
 have hall:(List.range (L ++ [x]).length).all (z1t s (L ++ [x]))=((List.range L.length).all (z1t s L) && z1t s (L ++ [x]) L.length):=by
  rw [List.length_append,List.length_singleton,List.range_succ,List.all_append]
  congr 1
  · rw [Bool.eq_iff_iff,List.all_eq_true,List.all_eq_true]
    constructor
    · intro h j hj;rw [← hl j (List.mem_range.1 hj)];exact h j hj
    · intro h j hj;rw [hl j (List.mem_range.1 hj)];exact h j hj
  · simp
 unfold z0l
 rw [hall,hx]
 simp only [Bool.and_eq_true,decide_eq_true_eq,List.length_append,List.length_singleton]
 constructor
 · rintro ⟨⟨h1,⟨h2,h3⟩,h4⟩,h5⟩;exact⟨⟨h1,by omega⟩,h2,h3,h4,h5⟩
 · rintro ⟨⟨h1,_⟩,h2,h3,h4,h5⟩;exact⟨⟨h1,⟨h2,h3⟩,h4⟩,h5⟩
theorem good_snoc (s w t r:Int) (L:List Ln) (x:Ln) (h1:1≤L.length):goodS s w t r (L ++ [x])=true ↔ goodS s w t r L=true∧x.1<s∧1≤x.2∧(L.getD (L.length-1) l0).1<x.1∧L.length+1≤3:=by
 have h:=lines_snoc s L x h1
 unfold goodS
 simp only [Bool.and_eq_true,decide_eq_true_eq,List.length_append,List.length_singleton]
 rw [h]
 constructor
 · rintro ⟨⟨⟨⟨a,b⟩,c⟩,d,e⟩,f⟩;exact⟨⟨⟨⟨⟨a,b⟩,h1⟩,d⟩,f⟩,e⟩
 · rintro ⟨⟨⟨⟨⟨a,b⟩,c⟩,d⟩,f⟩,e⟩;exact⟨⟨⟨⟨a,b⟩,by omega⟩,d,e⟩,f⟩
theorem house_takes (s w t:Int) (T:List Tk) (hs:z0o s w=true) (ht:1≤t∧t≤6):∀ j,j≤T.length→(HouseOk s w (z0q t (T.take j)) ↔ ∀ i,i<j→TakeOk s w T i)
 | 0,_=>by
  constructor
  · intro _ i hi;omega
  · intro _ i hi
    simp [z0q] at hi
 | 1,h=>by
  rw [z2h t T 0 h]
  have e:hstep t (z0q t (T.take 0)) (T.getD 0 tk0)=[] ++ [(t,(T.getD 0 tk0).2.2.1,[lnT (T.getD 0 tk0)])]:=rfl
  rw [e,house_snoc]
  dsimp only
  rw [good_one s w t _ _ hs ht]
  constructor
  · rintro ⟨_,_,h1,h2,h3⟩ i hi
    obtain rfl:i=0:=by omega
    exact⟨h1,h3,h2,.inl rfl,.inl (by omega)⟩
  · intro h
    obtain⟨h1,h2,h3,_⟩:=h 0 (by omega)
    exact⟨fun i hi=>absurd hi (Nat.not_lt_zero i),.inl rfl,h1,h3,h2⟩
 | j+2,h=>by
  have ih:=house_takes s w t T hs ht (j+1) (by omega)
  obtain⟨S,L,q,R⟩:=run_all t T (j+1) (by omega) (by omega)
  have hR:=R.eq
  have hsame:=R.same
  have hlast:=R.last
  have hstop:=R.stop
  have hlen:=R.len
  have hle:=R.le
  have hone:=R.one
  have e1:j+1-1=j:=rfl
  rw [e1] at hR hsame hlast hstop
  rw [z2h t T (j+1) (by omega)]
  rw [hR] at ih
  have hsplit:(∀ i,i<j+2→TakeOk s w T i) ↔ (∀ i,i<j+1→TakeOk s w T i)∧TakeOk s w T (j+1):=by
   constructor
   · intro h;exact⟨fun i hi=>h i (by omega),h (j+1) (by omega)⟩
   · rintro ⟨h1,h2⟩ i hi
     by_cases hij:i<j+1
     · exact h1 i hij
     · obtain rfl:i=j+1:=by omega
       exact h2
  rw [hsplit,← ih,hR]
  by_cases hw:(T.getD j tk0).2.2.1=(T.getD (j+1) tk0).2.2.1
  · rw [hstep_same t S _ _ hw]
    dsimp only
    rw [house_snoc,house_snoc]
    dsimp only
    rw [good_snoc s w t _ L _ (by omega),hlen,hlast]
    unfold lnT TakeOk
    dsimp only
    have e3:j+1-3=j-2:=by omega
    try simp only [e1,e3]
    constructor
    · rintro ⟨a,b,c,d,e,f,g⟩
      refine⟨⟨a,b,c⟩,d,?_,e,.inr (.inr ⟨hw,f⟩),?_⟩
      · have:=(good_parts c).2.2.2.2.2
        rw [if_neg (by omega)] at this
        omega
      · by_cases h3:j+1<3
        · exact .inl h3
        · refine .inr fun hc=>?_
          have hall:=ih.1 ((house_snoc s w S _).2 ⟨a,b,c⟩)
          have r1:=rise_back hall 1 (by omega)
          have r2:=(hall (j-1) (by omega)).2.2.2.1
          rw [e1] at r1
          have e2:j-1-1=j-2:=by omega
          rw [e2] at r2
          rcases (by omega:q=1∨q=2) with rfl | rfl
          · exact hstop (by omega) (by omega)
          · exact hstop (by omega) (by omega)
    · rintro ⟨⟨a,b,c⟩,d,d2,e,f,g⟩
      refine⟨a,b,c,d,e,by omega,?_⟩
      by_cases hq:q+1≤3
      · exact hq
      · have:=hsame 2 (by omega)
        omega
  · rw [hstep_new t S _ _ hw,house_snoc]
    dsimp only
    rw [good_one s w t _ _ hs ht]
    have hg:(S ++ [((t,(T.getD j tk0).2.2.1,L):Stp)]).getD ((S ++ [((t,(T.getD j tk0).2.2.1,L):Stp)]).length-1) (0,0,[])=(t,(T.getD j tk0).2.2.1,L):=by
     rw [List.length_append,List.length_singleton,Nat.add_sub_cancel,getD_snoc]
    rw [hg]
    unfold lnT TakeOk
    dsimp only
    have e3:j+1-3=j-2:=by omega
    try simp only [e1,e3]
    constructor
    · rintro ⟨a,b,c,d,e⟩
      have hb:(T.getD j tk0).2.2.1<(T.getD (j+1) tk0).2.2.1:=by
       rcases b with b | b
       · simp at b
       · exact b
      refine⟨a,c,e,d,.inr (.inl hb),?_⟩
      by_cases h3:j+1<3
      · exact .inl h3
      · have hall:=ih.1 a
        have r1:=rise_back hall 2 (by omega)
        rw [e1] at r1
        exact .inr (by omega)
    · rintro ⟨a,c,e,d,f,_⟩
      exact⟨a,.inr (by omega),c,d,e⟩
theorem takes_iff (s w o:Int) (T:List Tk):z0p s w o T=true ↔ T.length≤12∧(∀ j,j<T.length→(T.getD j tk0).1=o)∧∀ j,j<T.length→TakeOk s w T j:=by
 unfold z0p
 rw [Bool.and_eq_true,List.all_eq_true]
 simp only [List.mem_range,decide_eq_true_eq]
 have:∀ j,takeAt s w o T j=true ↔ (T.getD j tk0).1=o∧TakeOk s w T j:=fun j=>by
  unfold takeAt TakeOk
  simp only [Bool.and_eq_true,Bool.or_eq_true,decide_eq_true_eq]
  constructor
  · rintro ⟨⟨⟨⟨⟨a,b⟩,c⟩,d⟩,e⟩,f⟩
    refine⟨a,b,c,d,?_,f⟩
    rcases e with (e | e) | e
    · exact .inl e
    · exact .inr (.inl e)
    · exact .inr (.inr e)
  · rintro ⟨a,b,c,d,e,f⟩
    refine⟨⟨⟨⟨⟨a,b⟩,c⟩,d⟩,?_⟩,f⟩
    rcases e with e | e | e
    · exact .inl (.inl e)
    · exact .inl (.inr e)
    · exact .inr e
 constructor
 · rintro ⟨h1,h2⟩
   exact⟨h2,fun j hj=>((this j).1 (h1 j hj)).1,fun j hj=>((this j).1 (h1 j hj)).2⟩
 · rintro ⟨h1,h2,h3⟩
   exact⟨fun j hj=>(this j).2 ⟨h2 j hj,h3 j hj⟩,h1⟩
theorem house_all (s w o:Int) (T:List Tk) (hs:z0o s w=true):z0p s w o T=true ↔ T.length≤12∧(∀ j,j<T.length→(T.getD j tk0).1=o)∧HouseOk s w (z0q 1 T):=by
 rw [takes_iff]
 have:=house_takes s w 1 T hs (by omega) T.length (Nat.le_refl _)
 rw [List.take_length] at this
 rw [this]
theorem atP_none (v:Int) (T:List Tk) (j:Nat) (h:∀ i,i<j→(T.getD i tk0).2.2.1≠v):j≤T.length→atP v (T.take j)=[]:=by
 induction j with
 | zero=>intro _;simp [atP]
 | succ j ih =>
  intro hj
  rw [atP_take v T j (by omega),ih (fun i hi=>h i (by omega)) (by omega),if_neg (h j (by omega))]
  rfl
theorem atS_none (t v:Int) (T:List Tk) (h:atP v T=[]):atS t v T=[]:=by unfold atS;rw [h];rfl
theorem atS_ware (t v:Int) (T:List Tk) (x:Stp) (h:x∈atS t v T):x.2.1=v:=by
 unfold atS at h
 split at h
 · simp at h;rw [h]
 · cases h
theorem atS_keep (t v:Int) (T:List Tk) (j:Nat) (hj:j<T.length) (h:(T.getD j tk0).2.2.1≠v):atS t v (T.take (j+1))=atS t v (T.take j):=by
 unfold atS
 rw [atP_take v T j hj,if_neg h,List.append_nil]
theorem hstep_at (t:Int) (X:List Stp) (T:List Tk) (j:Nat) (hj:j<T.length) (hX:∀ x∈X,x.2.1≠(T.getD j tk0).2.2.1):hstep t (X++atS t (T.getD j tk0).2.2.1 (T.take j)) (T.getD j tk0)=X++atS t (T.getD j tk0).2.2.1 (T.take (j+1)):=by
 have h1:=atP_take (T.getD j tk0).2.2.1 T j hj
 rw [if_pos rfl] at h1
 unfold atS
 rw [h1]
 rw [if_pos (show 1≤(atP (T.getD j tk0).2.2.1 (T.take j) ++ [((T.getD j tk0).2.1,(T.getD j tk0).2.2.2)]).length by simp)]
 by_cases h0:1≤(atP (T.getD j tk0).2.2.1 (T.take j)).length
 · rw [if_pos h0,hstep_same t X _ _ rfl]
   rfl
 · rw [if_neg h0,List.append_nil,List.eq_nil_of_length_eq_zero (show (atP (T.getD j tk0).2.2.1 (T.take j)).length=0 by omega)]
   cases hl:X.getLast? with
   | none =>
    obtain rfl:=List.getLast?_eq_none_iff.1 hl
    rfl
   | some l =>
    have hm:=List.mem_of_getLast? hl
    have hs:X=X.dropLast ++ [l]:=by
     rw [List.getLast?_eq_some_iff] at hl
     obtain⟨ys,rfl⟩:=hl
     simp
    rw [hs,hstep_new t _ l _ (hX l hm)]
    simp [lnT]
theorem house_at (t o:Int) (T:List Tk) (hw:∀ x∈T,0≤x.2.2.1) (h:z0p 4 4 o T=true):∀ j,j≤T.length→z0q t (T.take j)=(List.range 4).flatMap (fun w:Nat=>atS t (w:Int) (T.take j))
 | 0,_=>by simp [z0q,atS,atP]
 | j+1,hj=>by
  have ih:=house_at t o T hw h j (by omega)
  obtain⟨_,_,hT⟩:=(takes_iff 4 4 o T).1 h
  have hv:=(hT j (by omega)).2.1
  have hv0:0≤(T.getD j tk0).2.2.1:=by
   rw [List.getD,List.getElem?_eq_getElem (by omega)]
   exact hw _ (List.getElem_mem _)
  have hrise:∀ i,i<j→(T.getD i tk0).2.2.1≤(T.getD j tk0).2.2.1:=fun i hi=>by
   have:=rise_back (s:=4) (w:=4) (T:=T) (j:=j+1) (fun i hi=>hT i (by omega)) (j-i) (by omega)
   have e:j+1-1-(j-i)=i:=by omega
   rw [e] at this
   exact this
  have habove:∀ v:Int,(T.getD j tk0).2.2.1<v→atS t v (T.take j)=[]∧atS t v (T.take (j+1))=[]:=fun v hv=>by
   have h1:=atS_none t v _ (atP_none v T j (fun i hi=>by have:=hrise i hi;omega) (by omega))
   exact⟨h1,by rw [atS_keep t v T j (by omega) (by omega)];exact h1⟩
  have hbelow:∀ v:Int,v<(T.getD j tk0).2.2.1→atS t v (T.take (j+1))=atS t v (T.take j):=fun v hv=>atS_keep t v T j (by omega) (by omega)
  rw [z2h t T j (by omega),ih]
  have hflat:∀ f:Nat→List Stp,(List.range 4).flatMap f=f 0++f 1++f 2++f 3:=fun f=>by simp [List.range_succ]
  rw [hflat,hflat]
  have hx:=fun X hX=>hstep_at t X T j (by omega) hX
  have hmem:=fun v T' x hx=>atS_ware t v T' x hx
  have c0:((0:Nat):Int)=0:=rfl
  have c1:((1:Nat):Int)=1:=rfl
  have c2:((2:Nat):Int)=2:=rfl
  have c3:((3:Nat):Int)=3:=rfl
  rw [c0,c1,c2,c3]
  rcases (by omega:(T.getD j tk0).2.2.1=0∨(T.getD j tk0).2.2.1=1∨(T.getD j tk0).2.2.1=2∨(T.getD j tk0).2.2.1=3) with e | e | e | e
  · obtain⟨a1,b1⟩:=habove 1 (by omega)
    obtain⟨a2,b2⟩:=habove 2 (by omega)
    obtain⟨a3,b3⟩:=habove 3 (by omega)
    rw [a1,b1,a2,b2,a3,b3]
    have:=hx [] (fun x hx=>by cases hx)
    rw [e] at this
    simpa using this
  · obtain⟨a2,b2⟩:=habove 2 (by omega)
    obtain⟨a3,b3⟩:=habove 3 (by omega)
    rw [a2,b2,a3,b3,hbelow 0 (by omega)]
    have:=hx (atS t 0 (T.take j)) (fun x hx=>by rw [hmem _ _ x hx];omega)
    rw [e] at this
    simpa using this
  · obtain⟨a3,b3⟩:=habove 3 (by omega)
    rw [a3,b3,hbelow 0 (by omega),hbelow 1 (by omega)]
    have:=hx (atS t 0 (T.take j)++atS t 1 (T.take j)) (fun x hx=>by
     rcases List.mem_append.1 hx with hx | hx <;> rw [hmem _ _ x hx] <;> omega)
    rw [e] at this
    simpa using this
  · rw [hbelow 0 (by omega),hbelow 1 (by omega),hbelow 2 (by omega)]
    have:=hx (atS t 0 (T.take j)++atS t 1 (T.take j)++atS t 2 (T.take j)) (fun x hx=>by
     rcases List.mem_append.1 hx with hx | hx
     · rcases List.mem_append.1 hx with hx | hx <;> rw [hmem _ _ x hx] <;> omega
     · rw [hmem _ _ x hx];omega)
    rw [e] at this
    simpa using this
theorem tkparts_none (T:List Tk) (s:Int) (h:∀ x∈T,x.2.1≠s):z1g T s=[]:=by
 unfold z1g
 rw [List.map_eq_nil_iff,List.filter_eq_nil_iff]
 intro x hx
 simpa using h x hx
theorem lnparts_none (M:List Ln) (s:Int) (h:∀ x∈M,x.1≠s):z0w M s=[]:=by
 unfold z0w
 rw [List.map_eq_nil_iff,List.filter_eq_nil_iff]
 intro x hx
 simpa using h x hx
theorem lnok_mem {L:List Ln} (h:∀ x∈L,Lnok x) {j:Nat} (hj:j<L.length):Lnok (L.getD j l0):=by
 rw [List.getD,List.getElem?_eq_getElem hj]
 exact h _ (List.getElem_mem _)
theorem mem_getD {α:Type} {L:List α} {x:α} (d:α) (h:x∈L):∃ j,j<L.length∧L.getD j d=x:=by
 obtain⟨j,hj,rfl⟩:=List.mem_iff_getElem.1 h
 exact⟨j,hj,by simp [List.getD,List.getElem?_eq_getElem hj]⟩
theorem z2g {s:Int} {L:List Ln} (h:z0l s L=true):L.length≤3∧∀ j,j<L.length→z1t s L j=true:=by
 unfold z0l at h
 rw [Bool.and_eq_true,List.all_eq_true] at h
 exact⟨by simpa using h.2,fun j hj=>h.1 j (List.mem_range.2 hj)⟩
theorem lines_sku {s:Int} {L:List Ln} (h:z0l s L=true):∀ x∈L,x.1<s:=by
 intro x hx
 obtain⟨j,hj,rfl⟩:=mem_getD l0 hx
 have:=(z2g h).2 j hj
 unfold z1t at this
 simp only [Bool.and_eq_true,decide_eq_true_eq] at this
 exact this.1.1
theorem lines_rise {s:Int} {L:List Ln} (h:z0l s L=true):∀ j k,j<k→k<L.length→(L.getD j l0).1<(L.getD k l0).1
 | j,0,h1,_=>by omega
 | j,k+1,h1,h2=>by
  have hk:=(z2g h).2 (k+1) h2
  unfold z1t at hk
  simp only [Bool.and_eq_true,Bool.or_eq_true,decide_eq_true_eq] at hk
  have h3:(L.getD k l0).1<(L.getD (k+1) l0).1:=by
   rcases hk.2 with h | h
   · omega
   · exact h
  rcases (by omega:j=k∨j<k) with rfl | hjk
  · exact h3
  · exact Int.lt_trans (lines_rise h j k hjk (by omega)) h3
theorem parts_one {s:Int} {L:List Ln} (h:z0l s L=true) (a:Int):∀ j,j≤L.length→(z0w (L.take j) a=[]∧∀ i,i<j→(L.getD i l0).1≠a)∨∃ i,i<j∧(L.getD i l0).1=a∧z0w (L.take j) a=[(L.getD i l0).2]
 | 0,_=>.inl ⟨by simp [z0w],fun i hi=>by omega⟩
 | j+1,hj=>by
  rw [lnparts_take L a j (by omega)]
  rcases parts_one h a j (by omega) with ⟨h1,h2⟩ | ⟨i,h1,h2,h3⟩
  · by_cases hc:(L.getD j l0).1=a
    · rw [if_pos hc,h1]
      exact .inr ⟨j,by omega,hc,rfl⟩
    · rw [if_neg hc,h1]
      refine .inl ⟨rfl,fun i hi=>?_⟩
      by_cases hij:i<j
      · exact h2 i hij
      · obtain rfl:i=j:=by omega
        exact hc
  · have:=lines_rise h i j h1 (by omega)
    rw [if_neg (by omega),h3]
    exact .inr ⟨i,by omega,h2,rfl⟩
theorem named_lines_ok {s:Int} {L:List Ln} (h:z0l s L=true) (hok:∀ x∈L,Lnok x) (a:Int):okB (z1b [] L a)=true:=by
 unfold z1b
 have e:z1g [] a=[]:=rfl
 rw [e,List.nil_append]
 have:=parts_one h a L.length (Nat.le_refl _)
 rw [List.take_length] at this
 rcases this with ⟨h1,_⟩ | ⟨i,h1,_,h3⟩
 · rw [h1];rfl
 · rw [h3]
   have:=(lnok_mem hok h1).2
   rw [okB_iff]
   simpa [z1a] using this
def servedAt (T:List Tk) (M L:List Ln) (a:Nat):Bool:=okB (z1b T M a) && decide (z1b T M a=z1b [] L a)
theorem served_cover {s o:Int} {T:List Tk} {M L:List Ln} (h0:0≤s) (h4:s≤4) (hL:z0l s L=true) (hM:z0l s M=true) (hT:∀ x∈T,x.2.1<s) (hok:∀ x∈L,Lnok x):(∀ a:Nat,(a:Int)<s→servedAt T M L a=true) ↔ coverB T M L=true:=by
 have hc:∀ a:Nat,coverAt T M L a=servedAt T M L a:=fun a=>by
  unfold coverAt servedAt
  rw [named_lines_ok hL hok,Bool.and_true]
 unfold coverB
 rw [List.all_eq_true]
 constructor
 · intro h a ha
   rw [hc]
   by_cases hs:(a:Int)<s
   · exact h a hs
   · have z1:z1g T a=[]:=tkparts_none T a fun x hx=>by have:=hT x hx;omega
     have z2:z0w M a=[]:=lnparts_none M a fun x hx=>by have:=lines_sku hM x hx;omega
     have z3:z0w L a=[]:=lnparts_none L a fun x hx=>by have:=lines_sku hL x hx;omega
     unfold servedAt z1b
     rw [z1,z2,z3]
     rfl
 · intro h a ha
   rw [← hc]
   exact h a (List.mem_range.2 (by omega))
theorem takes_sku {s w o:Int} {T:List Tk} (h:z0p s w o T=true):∀ x∈T,x.2.1<s:=by
 intro x hx
 obtain⟨j,hj,rfl⟩:=mem_getD tk0 hx
 exact (((takes_iff s w o T).1 h).2.2 j hj).1
def allT (T:List Tk):List Int:=T.map (·.2.2.2)
theorem allT_take (T:List Tk) (j:Nat) (h:j<T.length):allT (T.take (j+1))=allT (T.take j) ++ [(T.getD j tk0).2.2.2]:=by
 unfold allT
 rw [List.take_add_one,List.getElem?_eq_getElem h,List.map_append]
 simp [List.getD,List.getElem?_eq_getElem h]
theorem named_all (T:List Tk) (s:Int) (h:∀ x∈T,x.2.1=s):z1b T [] s=z1a (allT T):=by
 unfold z1b
 have e:z0w [] s=[]:=rfl
 rw [e,List.append_nil]
 unfold z1g allT
 rw [List.filter_eq_self.2 (fun x hx=>by simpa using h x hx)]
theorem fills_sku {sk to q:Int} {T:List Tk} (h:z1x sk to q T=true):∀ x∈T,x.2.1=sk:=by
 intro x hx
 obtain⟨j,hj,rfl⟩:=mem_getD tk0 hx
 unfold z1x at h
 rw [Bool.and_eq_true,List.all_eq_true] at h
 have:=h.1 j (List.mem_range.2 hj)
 unfold fillAt at this
 simp only [Bool.and_eq_true,decide_eq_true_eq] at this
 exact this.1.1.1.2
end Go.Proofs.YtclbkfpbdidaiaaDoor
