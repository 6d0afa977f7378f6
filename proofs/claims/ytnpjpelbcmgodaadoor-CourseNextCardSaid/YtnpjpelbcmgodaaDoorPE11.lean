import Derived.Test.YtnpjpelbcmgodaaDoorPE03
import Derived.Test.YtnpjpelbcmgodaaDoorPE10
namespace Go.Proofs.YtnpjpelbcmgodaaDoor
open Go.RowKit
set_option linter.unusedVariables false
set_option maxRecDepth 10000
abbrev O:=K × Int
abbrev o0:O:=((0,0,0),0)
def In64 (z:Int):Prop:=-9223372036854775808≤z∧z≤9223372036854775807
def Ook (o:O):Prop:=Kok o.1∧In64 o.2
def negO (o:O):O:=(o.1,-o.2)
def negF (L:List O):List O:=(L.map negO).reverse
def negB (L:List O):Bool:=L.all fun o=>okB (-o.2)
def negV (L:List O):List O:=if negB L=true then negF L else []
theorem z3g (z:Int):okB z=true ↔ In64 z:=by unfold okB In64;exact decide_eq_true_iff
def z6p (L:List O) (j:Nat):List O:=negF (L.drop j)
theorem gathN_start (L:List O) (n:Nat) (h:L.length=n):z6p L n=[]:=by subst h;simp [z6p,negF]
theorem gathN_end (L:List O):z6p L 0=negF L:=by simp [z6p]
theorem gathN_step (L:List O) (t:Nat) (h:t<L.length):z6p L t=z6p L (t+1) ++ [((L.getD t o0).1,-(L.getD t o0).2)]:=by
 unfold z6p negF
 rw [List.drop_eq_getElem_cons h,List.map_cons,List.reverse_cons,List.getD,List.getElem?_eq_getElem h]
 rfl
theorem gathN_len (L:List O) (j:Nat):(z6p L j).length=L.length-j:=by simp [z6p,negF]
theorem negB_false (L:List O) (j:Nat) (h:j<L.length) (hf:okB (-(L.getD j o0).2)=false):negB L=false:=by
 have e:L.getD j o0=L[j]:=by simp [List.getD,List.getElem?_eq_getElem h]
 rw [e] at hf
 cases hc:negB L with
 | false=>rfl
 | true =>
  have:=List.all_eq_true.1 hc L[j] (List.getElem_mem h)
  rw [hf] at this
  cases this
theorem negB_true (L:List O) (h:∀ j,j<L.length→okB (-(L.getD j o0).2)=true):negB L=true:=by
 unfold negB
 rw [List.all_eq_true]
 intro o ho
 obtain⟨j,hj,rfl⟩:=List.getElem_of_mem ho
 have:=h j hj
 simpa [List.getD,List.getElem?_eq_getElem hj] using this
abbrev Ln:=Int × Int
abbrev l0:Ln:=(0,0)
def Lnok (x:Ln):Prop:=(0≤x.1∧x.1≤255)∧In64 x.2
def oneS (t w:Int) (x:Ln):List O :=
 if t=1 then [((1,x.1,w),-x.2),((2,x.1,w),x.2)] else
 if t=2 then [((2,x.1,w),-x.2),((1,x.1,w),x.2)] else
 if t=3 then [((2,x.1,w),-x.2),((3,x.1,0),x.2)] else
 if t=4 then [((3,x.1,0),-x.2),((1,x.1,w),x.2)] else
 if t=5 then [((1,x.1,w),x.2)] else
 if t=6 then [((1,x.1,w),-x.2)] else
 if t=7 then [((4,x.1,0),x.2)] else
 if t=8 then [((4,x.1,0),-x.2)] else []
theorem z5f (t w:Int) (x:Ln) :
 (t=1∧oneS t w x=[((1,x.1,w),-x.2),((2,x.1,w),x.2)])∨(t=2∧oneS t w x=[((2,x.1,w),-x.2),((1,x.1,w),x.2)]) ∨
 (t=3∧oneS t w x=[((2,x.1,w),-x.2),((3,x.1,0),x.2)])∨(t=4∧oneS t w x=[((3,x.1,0),-x.2),((1,x.1,w),x.2)]) ∨
 (t=5∧oneS t w x=[((1,x.1,w),x.2)])∨(t=6∧oneS t w x=[((1,x.1,w),-x.2)]) ∨
 (t=7∧oneS t w x=[((4,x.1,0),x.2)])∨(t=8∧oneS t w x=[((4,x.1,0),-x.2)]) ∨
 ((t≠1∧t≠2∧t≠3∧t≠4∧t≠5∧t≠6∧t≠7∧t≠8)∧oneS t w x=[]):=by
 by_cases h1:t=1
 · subst h1;exact .inl ⟨rfl,rfl⟩
 by_cases h2:t=2
 · subst h2;exact .inr (.inl ⟨rfl,rfl⟩)
 by_cases h3:t=3
 · subst h3;exact .inr (.inr (.inl ⟨rfl,rfl⟩))
 by_cases h4:t=4
 · subst h4;exact .inr (.inr (.inr (.inl ⟨rfl,rfl⟩)))
 by_cases h5:t=5
 · subst h5;exact .inr (.inr (.inr (.inr (.inl ⟨rfl,rfl⟩))))
 by_cases h6:t=6
 · subst h6;exact .inr (.inr (.inr (.inr (.inr (.inl ⟨rfl,rfl⟩)))))
 by_cases h7:t=7
 · subst h7;exact .inr (.inr (.inr (.inr (.inr (.inr (.inl ⟨rfl,rfl⟩))))))
 by_cases h8:t=8
 · subst h8;exact .inr (.inr (.inr (.inr (.inr (.inr (.inr (.inl ⟨rfl,rfl⟩)))))))
 refine .inr (.inr (.inr (.inr (.inr (.inr (.inr (.inr ⟨⟨h1,h2,h3,h4,h5,h6,h7,h8⟩,?_⟩)))))))
 simp only [oneS,if_neg h1,if_neg h2,if_neg h3,if_neg h4,if_neg h5,if_neg h6,if_neg h7,if_neg h8]
def z5u (t w:Int) (x:Ln):List O:=if 1≤x.2 then oneS t w x else []
def opsS (t w:Int) (L:List Ln):List O:=L.flatMap (z5u t w)
theorem z6m (t w:Int) (x:Ln) (L:List Ln):opsS t w (x::L)=z5u t w x++opsS t w L:=List.flatMap_cons ..
theorem opsS_take (t w:Int) (L:List Ln) (j:Nat) (h:j<L.length):opsS t w (L.take (j+1))=opsS t w (L.take j)++z5u t w (L.getD j l0):=by
 unfold opsS
 rw [List.take_add_one,List.getElem?_eq_getElem h,List.flatMap_append]
 simp [List.getD,List.getElem?_eq_getElem h]
theorem opsS_nil (t w:Int) (L:List Ln):opsS t w (L.take 0)=[]:=by simp [opsS]
theorem z7h (t w:Int) (x:Ln):(oneS t w x).length≤2:=by
 rcases z5f t w x with ⟨_,h⟩ | ⟨_,h⟩ | ⟨_,h⟩ | ⟨_,h⟩ | ⟨_,h⟩ | ⟨_,h⟩ | ⟨_,h⟩ | ⟨_,h⟩ | ⟨_,h⟩ <;> rw [h] <;> simp
theorem item_len (t w:Int) (x:Ln):(z5u t w x).length≤2:=by
 unfold z5u
 split
 · exact z7h t w x
 · simp
theorem z7g (t w:Int):∀ L:List Ln,(opsS t w L).length≤2*L.length
 | []=>by simp [opsS]
 | x::L=>by
  have:=z7g t w L
  have:=item_len t w x
  rw [z6m,List.length_append,List.length_cons]
  omega
def Ook2 (o:O):Prop:=Ook o∧In64 (-o.2)∧o.2≠0
theorem item_ok (t w:Int) (x:Ln) (hw:0≤w∧w≤255) (hx:Lnok x):∀ o∈z5u t w x,Ook2 o:=by
 obtain⟨s,q⟩:=x
 obtain⟨⟨h0,h1⟩,h2,h3⟩:=hx
 dsimp only at h0 h1 h2 h3
 unfold z5u
 split
 · next hq =>
   dsimp only at hq
   have hb:∀ k d,Kok k→(d=q∨d = -q)→Ook2 (k,d):=fun k d hk hd=>⟨⟨hk,by dsimp only [In64];omega⟩,by dsimp only [In64];omega,by dsimp only;omega⟩
   have hk1:∀ a:Int,0≤a→a≤255→Kok (a,s,w):=fun a ha hb=>⟨⟨ha,hb⟩,⟨h0,h1⟩,hw⟩
   have hk0:∀ a:Int,0≤a→a≤255→Kok (a,s,0):=fun a ha hb=>⟨⟨ha,hb⟩,⟨h0,h1⟩,by dsimp only;omega⟩
   rcases z5f t w (s,q) with ⟨_,h⟩ | ⟨_,h⟩ | ⟨_,h⟩ | ⟨_,h⟩ | ⟨_,h⟩ | ⟨_,h⟩ | ⟨_,h⟩ | ⟨_,h⟩ | ⟨_,h⟩ <;> rw [h] <;> intro o ho <;> simp only [List.mem_cons,List.not_mem_nil,or_false] at ho
   all_goals (try rcases ho with rfl | rfl)
   all_goals (first | (subst ho) | skip)
   all_goals (refine hb _ _ ?_ (by first | exact .inl rfl | exact .inr rfl))
   all_goals (first | (apply hk1 <;> omega) | (apply hk0 <;> omega))
 · intro o ho;cases ho
theorem z7z (t w:Int) (L:List Ln) (hw:0≤w∧w≤255) (hL:∀ x∈L,Lnok x):∀ o∈opsS t w L,Ook2 o:=by
 intro o ho
 obtain⟨x,hx,hox⟩:=List.mem_flatMap.1 ho
 exact item_ok t w x hw (hL x hx) o hox
theorem negB_ops (t w:Int) (L:List Ln) (hw:0≤w∧w≤255) (hL:∀ x∈L,Lnok x):negB (opsS t w L)=true:=by
 unfold negB
 rw [List.all_eq_true]
 exact fun o ho=>(z3g _).2 (z7z t w L hw hL o ho).2.1
def z2g (s:Int) (L:List Ln) (j:Nat):Bool:=decide ((L.getD j l0).1<s) && decide (1≤(L.getD j l0).2) && (decide (j=0) || decide ((L.getD (j-1) l0).1<(L.getD j l0).1))
def z0n (s:Int) (L:List Ln):Bool:=(List.range L.length).all (z2g s L) && decide (L.length≤3)
def z2z (s w t r:Int) (L:List Ln):Bool:=z0i s w && decide (1≤t∧t≤8) && decide (1≤L.length) && z0n s L && (if 7≤t then decide (r=0) else decide (r<w))
theorem lines_false (s:Int) (L:List Ln) (j:Nat) (h:j<L.length) (hf:z2g s L j=false):z0n s L=false:=by
 unfold z0n
 cases hc:(List.range L.length).all (z2g s L) with
 | false=>rfl
 | true =>
  have:=List.all_eq_true.1 hc j (List.mem_range.2 h)
  rw [hf] at this
  cases this
theorem lines_true (s:Int) (L:List Ln) (h:∀ j,j<L.length→z2g s L j=true):z0n s L=decide (L.length≤3):=by
 unfold z0n
 have:(List.range L.length).all (z2g s L)=true:=by
  rw [List.all_eq_true]
  exact fun j hj=>h j (List.mem_range.1 hj)
 rw [this];rfl
def z8m (t:Int):Int:=if t=7∨t=8 then 4 else 1
theorem named_good (s w t r:Int) (x:Ln) (hr:0≤r) (ht:1≤t∧t≤8):z5y s w (z8m t) x.1 r=(z0i s w && decide (x.1<s) && (if 7≤t then decide (r=0) else decide (r<w))):=by
 unfold z5y z8m z6f
 by_cases h:t=7∨t=8
 · have h7:7≤t:=by omega
   rw [if_pos h,if_pos h7]
   congr 1
   simp
   omega
 · have h7:¬ 7≤t:=by omega
   rw [if_neg h,if_neg h7]
   simp
theorem good_parts {s w t r:Int} {L:List Ln} (h:z2z s w t r L=true):z0i s w=true∧(1≤t∧t≤8)∧1≤L.length∧L.length≤3∧(∀ j,j<L.length→z2g s L j=true)∧(if 7≤t then r=0 else r<w):=by
 unfold z2z z0n at h
 simp only [Bool.and_eq_true,decide_eq_true_eq] at h
 obtain⟨⟨⟨⟨h1,h2⟩,h3⟩,h4,h5⟩,h6⟩:=h
 refine⟨h1,h2,h3,h5,fun j hj=>List.all_eq_true.1 h4 j (List.mem_range.2 hj),?_⟩
 split
 · next h7=>rw [if_pos h7] at h6;simpa using h6
 · next h7=>rw [if_neg h7] at h6;simpa using h6
abbrev Tk:=Int × Int × Int × Int
abbrev tk0:Tk:=(0,0,0,0)
def Tkok (x:Tk):Prop:=(0≤x.1∧x.1≤4294967295)∧(0≤x.2.1∧x.2.1≤255)∧(0≤x.2.2.1∧x.2.2.1≤255)∧In64 x.2.2.2
structure Pg where
 kind:Int
 order:Int
 policy:Int
 lines:List Ln
 takes:List Tk
 owes:List Ln
 sku:Int
 frm:Int
 to:Int
 qty:Int
deriving DecidableEq
structure Pgok (P:Pg):Prop where
 kind:0≤P.kind∧P.kind≤255
 order:0≤P.order∧P.order≤4294967295
 policy:0≤P.policy∧P.policy≤255
 lines:∀ x∈P.lines,Lnok x
 takes:∀ x∈P.takes,Tkok x
 owes:∀ x∈P.owes,Lnok x
 sku:0≤P.sku∧P.sku≤255
 frm:0≤P.frm∧P.frm≤255
 to:0≤P.to∧P.to≤255
 qty:In64 P.qty
def z1c (T:List Tk) (s:Int):List Int:=(T.filter fun x=>decide (x.2.1=s)).map (·.2.2.2)
def z0w (M:List Ln) (s:Int):List Int:=(M.filter fun x=>decide (x.1=s)).map (·.2)
def z0x (T:List Tk) (M:List Ln) (s:Int):Int:=z1d (z1c T s++z0w M s)
theorem tkparts_take (T:List Tk) (s:Int) (j:Nat) (h:j<T.length):z1c (T.take (j+1)) s=z1c (T.take j) s++(if (T.getD j tk0).2.1=s then [(T.getD j tk0).2.2.2] else []):=by
 unfold z1c
 rw [List.take_add_one,List.getElem?_eq_getElem h,List.filter_append,List.map_append]
 have e:T.getD j tk0=T[j]:=by simp [List.getD,List.getElem?_eq_getElem h]
 rw [e]
 by_cases hk:T[j].2.1=s <;> simp [hk]
theorem z3n (M:List Ln) (s:Int) (j:Nat) (h:j<M.length):z0w (M.take (j+1)) s=z0w (M.take j) s++(if (M.getD j l0).1=s then [(M.getD j l0).2] else []):=by
 unfold z0w
 rw [List.take_add_one,List.getElem?_eq_getElem h,List.filter_append,List.map_append]
 have e:M.getD j l0=M[j]:=by simp [List.getD,List.getElem?_eq_getElem h]
 rw [e]
 by_cases hk:M[j].1=s <;> simp [hk]
theorem tkparts_in {T:List Tk} (h:∀ x∈T,Tkok x) (s:Int):∀ z∈z1c T s,In64 z:=by
 intro z hz
 obtain⟨x,hx,rfl⟩:=List.mem_map.1 hz
 exact (h x (List.mem_filter.1 hx).1).2.2.2
theorem z5t {M:List Ln} (h:∀ x∈M,Lnok x) (s:Int):∀ z∈z0w M s,In64 z:=by
 intro z hz
 obtain⟨x,hx,rfl⟩:=List.mem_map.1 hz
 exact (h x (List.mem_filter.1 hx).1).2
def z5b (s w o:Int) (T:List Tk) (j:Nat):Bool :=
 decide ((T.getD j tk0).1=o) && decide ((T.getD j tk0).2.1<s) && decide ((T.getD j tk0).2.2.1<w) && decide (1≤(T.getD j tk0).2.2.2) &&
 (decide (j=0) || decide ((T.getD (j-1) tk0).2.2.1<(T.getD j tk0).2.2.1) || (decide ((T.getD (j-1) tk0).2.2.1=(T.getD j tk0).2.2.1) && decide ((T.getD (j-1) tk0).2.1<(T.getD j tk0).2.1))) &&
 (decide (j<3) || decide ((T.getD (j-3) tk0).2.2.1≠(T.getD j tk0).2.2.1))
def z0r (s w o:Int) (T:List Tk):Bool:=(List.range T.length).all (z5b s w o T) && decide (T.length≤12)
theorem takes_false (s w o:Int) (T:List Tk) (j:Nat) (h:j<T.length) (hf:z5b s w o T j=false):z0r s w o T=false:=by
 unfold z0r
 cases hc:(List.range T.length).all (z5b s w o T) with
 | false=>rfl
 | true =>
  have:=List.all_eq_true.1 hc j (List.mem_range.2 h)
  rw [hf] at this
  cases this
theorem takes_true (s w o:Int) (T:List Tk) (h:∀ j,j<T.length→z5b s w o T j=true):z0r s w o T=decide (T.length≤12):=by
 unfold z0r
 have:(List.range T.length).all (z5b s w o T)=true:=by
  rw [List.all_eq_true]
  exact fun j hj=>h j (List.mem_range.1 hj)
 rw [this];rfl
def z3j (T:List Tk) (M L:List Ln) (s:Nat):Bool:=okB (z0x T M s) && okB (z0x [] L s) && decide (z0x T M s=z0x [] L s)
def z2a (T:List Tk) (M L:List Ln):Bool:=(List.range 4).all (z3j T M L)
theorem cover_false (T:List Tk) (M L:List Ln) (j:Nat) (h:j<4) (hf:z3j T M L j=false):z2a T M L=false:=by
 unfold z2a
 cases hc:(List.range 4).all (z3j T M L) with
 | false=>rfl
 | true =>
  have:=List.all_eq_true.1 hc j (List.mem_range.2 h)
  rw [hf] at this
  cases this
theorem cover_true (T:List Tk) (M L:List Ln) (h:∀ j,j<4→z3j T M L j=true):z2a T M L=true:=by
 unfold z2a
 rw [List.all_eq_true]
 exact fun j hj=>h j (List.mem_range.1 hj)
def z3o (sk to:Int) (T:List Tk) (j:Nat):Bool :=
 decide ((T.getD j tk0).1≠0) && decide ((T.getD j tk0).2.1=sk) && decide ((T.getD j tk0).2.2.1=to) && decide (1≤(T.getD j tk0).2.2.2) && (List.range j).all fun k=>decide ((T.getD k tk0).1≠(T.getD j tk0).1)
def z1w (sk to q:Int) (T:List Tk):Bool:=(List.range T.length).all (z3o sk to T) && (decide (T.length≤12) && okB (z0x T [] sk) && decide (z0x T [] sk≤q))
theorem fills_false (sk to q:Int) (T:List Tk) (j:Nat) (h:j<T.length) (hf:z3o sk to T j=false):z1w sk to q T=false:=by
 unfold z1w
 cases hc:(List.range T.length).all (z3o sk to T) with
 | false=>rfl
 | true =>
  have:=List.all_eq_true.1 hc j (List.mem_range.2 h)
  rw [hf] at this
  cases this
theorem fills_true (sk to q:Int) (T:List Tk) (h:∀ j,j<T.length→z3o sk to T j=true):z1w sk to q T=(decide (T.length≤12) && okB (z0x T [] sk) && decide (z0x T [] sk≤q)):=by
 unfold z1w
 have:(List.range T.length).all (z3o sk to T)=true:=by
  rw [List.all_eq_true]
  exact fun j hj=>h j (List.mem_range.1 hj)
 rw [this];rfl
def qofP (P:Pg):Pg :=
 if P.kind=1 then { P with sku:=0,frm:=0,to:=0,qty:=0 } else
 if P.kind=2 then { P with policy:=0,lines:=[],sku:=0,frm:=0,to:=0,qty:=0 } else
 if P.kind=3∨P.kind=4 then { P with policy:=0,lines:=[],owes:=[],sku:=0,frm:=0,to:=0,qty:=0 } else
 if P.kind=5 then { P with order:=0,policy:=0,lines:=[],owes:=[],frm:=0 } else
 { P with order:=0,policy:=0,lines:=[],takes:=[],owes:=[] }
def askP (s w:Int) (P:Pg):Bool :=
 if P.kind=1 then decide (P.order≠0) && decide (P.policy≤1) && decide (1≤P.lines.length) && z0n s P.lines && z0r s w P.order P.takes && z0n s P.owes && z2a P.takes P.owes P.lines && (decide (P.policy=0) || decide (P.owes.length=0)) else
 if P.kind=2 then decide (P.order≠0) && z0r s w P.order P.takes && z0n s P.owes && decide (1≤P.takes.length+P.owes.length) else
 if P.kind=3∨P.kind=4 then decide (P.order≠0) && z0r s w P.order P.takes && decide (1≤P.takes.length) else
 if P.kind=5 then decide (P.sku<s) && decide (P.to<w) && decide (1≤P.qty) && z1w P.sku P.to P.qty P.takes else
 if P.kind=6 then decide (P.sku<s) && decide (P.frm<w) && decide (P.to<w) && decide (P.frm≠P.to) && decide (1≤P.qty) else false
def z0o (s w:Int) (P:Pg):Bool:=z0i s w && askP s w P && decide (P=qofP P)
abbrev Stp:=Int × Int × List Ln
def atP (w:Int) (T:List Tk):List Ln:=(T.filter fun x=>decide (x.2.2.1=w)).map fun x=>(x.2.1,x.2.2.2)
theorem z6e (w:Int) (T:List Tk) (j:Nat) (h:j<T.length):atP w (T.take (j+1))=atP w (T.take j)++(if (T.getD j tk0).2.2.1=w then [((T.getD j tk0).2.1,(T.getD j tk0).2.2.2)] else []):=by
 unfold atP
 rw [List.take_add_one,List.getElem?_eq_getElem h,List.filter_append,List.map_append]
 have e:T.getD j tk0=T[j]:=by simp [List.getD,List.getElem?_eq_getElem h]
 rw [e]
 by_cases hk:T[j].2.2.1=w <;> simp [hk]
def atS (t w:Int) (T:List Tk):List Stp:=if 1≤(atP w T).length then [(t,w,atP w T)] else []
def z3s (k:Int) (M:List Ln):List Stp:=if 1≤M.length∧k=1 then [(7,0,M)] else if 1≤M.length∧k=2 then [(8,0,M)] else []
def z0l (P:Pg):List Stp :=
 if z0o 4 4 P=true then
  if P.kind=5 then (5,P.to,[(P.sku,P.qty)])::(if 1≤P.takes.length then [(1,P.to,[(P.sku,z0x P.takes [] P.sku)]),(8,0,[(P.sku,z0x P.takes [] P.sku)])] else []) else
  if P.kind=6 then [(6,P.frm,[(P.sku,P.qty)]),(5,P.to,[(P.sku,P.qty)])] else
  (List.range 4).flatMap (fun w:Nat=>atS P.kind (w:Int) P.takes)++z3s P.kind P.owes
 else []
def lnT (x:Tk):Ln:=(x.2.1,x.2.2.2)
def z4y (t:Int) (S:List Stp) (x:Tk):List Stp :=
 match S.getLast? with
 | some l=>if l.2.1=x.2.2.1 then S.dropLast ++ [(l.1,l.2.1,l.2.2 ++ [lnT x])] else S ++ [(t,x.2.2.1,[lnT x])]
 | none=>[(t,x.2.2.1,[lnT x])]
def z0y (t:Int) (T:List Tk):List Stp:=T.foldl (z4y t) []
theorem z4n (t:Int) (S:List Stp) (l:Stp) (x:Tk) (h:l.2.1=x.2.2.1):z4y t (S ++ [l]) x=S ++ [(l.1,l.2.1,l.2.2 ++ [lnT x])]:=by
 unfold z4y
 rw [List.getLast?_concat]
 simp [h]
theorem z5i (t:Int) (S:List Stp) (l:Stp) (x:Tk) (h:l.2.1≠x.2.2.1):z4y t (S ++ [l]) x=S ++ [l] ++ [(t,x.2.2.1,[lnT x])]:=by
 unfold z4y
 rw [List.getLast?_concat]
 simp [h]
theorem z2t (t:Int) (T:List Tk) (j:Nat) (h:j<T.length):z0y t (T.take (j+1))=z4y t (z0y t (T.take j)) (T.getD j tk0):=by
 unfold z0y
 rw [List.take_add_one,List.getElem?_eq_getElem h,List.foldl_append]
 simp [List.getD,List.getElem?_eq_getElem h]
structure Run (t:Int) (T:List Tk) (j:Nat) (S:List Stp) (L:List Ln) (q:Nat):Prop where
 eq:z0y t (T.take j)=S ++ [(t,(T.getD (j-1) tk0).2.2.1,L)]
 len:L.length=q
 one:1≤q
 le:q≤j
 same:∀ i,i<q→(T.getD (j-1-i) tk0).2.2.1=(T.getD (j-1) tk0).2.2.1
 last:L.getD (q-1) l0=lnT (T.getD (j-1) tk0)
 stop:q<j→(T.getD (j-1-q) tk0).2.2.1≠(T.getD (j-1) tk0).2.2.1
theorem z5k {α:Type} (L:List α) (x d:α):(L ++ [x]).getD L.length d=x:=by simp [List.getD]
theorem z3y {α:Type} (L M:List α) (d:α) (j:Nat) (h:j<L.length):(L++M).getD j d=L.getD j d:=by
 simp [List.getD,List.getElem?_append_left h]
theorem z7c (t:Int) (T:List Tk):∀ j,1≤j→j≤T.length→∃ S L q,Run t T j S L q
 | 0,h,_=>by omega
 | 1,_,h=>by
  refine⟨[],[lnT (T.getD 0 tk0)],1,?_,rfl,Nat.le_refl _,Nat.le_refl _,fun i hi=>?_,rfl,fun h=>by omega⟩
  · rw [z2t t T 0 h];rfl
  · obtain rfl:i=0:=by omega
    rfl
 | j+2,_,h=>by
  obtain⟨S,L,q,R⟩:=z7c t T (j+1) (by omega) (by omega)
  have he:=z2t t T (j+1) (by omega)
  have e1:j+1-1=j:=rfl
  have e2:j+2-1=j+1:=rfl
  have hR:=R.eq
  have hsame:=R.same
  have hlast:=R.last
  have hstop:=R.stop
  have hlen:=R.len
  have hle:=R.le
  have hone:=R.one
  rw [e1] at hR hsame hlast hstop
  by_cases hw:(T.getD j tk0).2.2.1=(T.getD (j+1) tk0).2.2.1
  · refine⟨S,L ++ [lnT (T.getD (j+1) tk0)],q+1,?_,by simp [hlen],by omega,by omega,fun i hi=>?_,?_,fun hq=>?_⟩
    · rw [he,hR,z4n t S _ _ hw,e2,← hw]
    · rw [e2]
      cases i with
      | zero=>rfl
      | succ i =>
       have:j+1-(i+1)=j-i:=by omega
       rw [this,← hw]
       exact hsame i (by omega)
    · rw [e2,Nat.add_sub_cancel,← hlen,z5k]
    · rw [e2]
      have:j+1-(q+1)=j-q:=by omega
      rw [this,← hw]
      exact hstop (by omega)
  · refine⟨S ++ [(t,(T.getD j tk0).2.2.1,L)],[lnT (T.getD (j+1) tk0)],1,?_,rfl,Nat.le_refl _,by omega,fun i hi=>?_,rfl,fun hq=>?_⟩
    · rw [he,hR,z5i t S _ _ hw,e2]
    · obtain rfl:i=0:=by omega
      rfl
    · rw [e2]
      exact hw
def z2u (s w:Int) (S:List Stp) (j:Nat):Bool:=(decide (j=0) || decide ((S.getD (j-1) (0,0,[])).2.1<(S.getD j (0,0,[])).2.1)) && z2z s w (S.getD j (0,0,[])).1 (S.getD j (0,0,[])).2.1 (S.getD j (0,0,[])).2.2
def z6s (s w:Int) (S:List Stp):Prop:=∀ j,j<S.length→z2u s w S j=true
theorem house_left (s w:Int) (S M:List Stp) (j:Nat) (h:j<S.length):z2u s w (S++M) j=z2u s w S j:=by
 unfold z2u
 rw [z3y S M _ j h,z3y S M _ (j-1) (by omega)]
theorem z3x (s w:Int) (S:List Stp) (l:Stp):z6s s w (S ++ [l]) ↔ z6s s w S∧(S=[]∨((S.getD (S.length-1) (0,0,[])).2.1<l.2.1))∧z2z s w l.1 l.2.1 l.2.2=true:=by
 have hl:z2u s w (S ++ [l]) S.length=((decide (S=[]) || decide ((S.getD (S.length-1) (0,0,[])).2.1<l.2.1)) && z2z s w l.1 l.2.1 l.2.2):=by
  unfold z2u
  rw [z5k]
  by_cases h0:S=[]
  · subst h0;simp
  · have:S.length≠0:=fun h=>h0 (List.eq_nil_of_length_eq_zero h)
    rw [z3y S [l] _ (S.length-1) (by omega)]
    simp [h0]
 constructor
 · intro h
   have h2:=h S.length (by simp)
   rw [hl] at h2
   simp only [Bool.and_eq_true,Bool.or_eq_true,decide_eq_true_eq] at h2
   exact⟨fun j hj=>by rw [← house_left s w S [l] j hj];exact h j (by simp;omega),h2.1,h2.2⟩
 · rintro ⟨h1,h2,h3⟩ j hj
   by_cases hjl:j<S.length
   · rw [house_left s w S [l] j hjl];exact h1 j hjl
   · obtain rfl:j=S.length:=by simp at hj;omega
     rw [hl]
     simp only [Bool.and_eq_true,Bool.or_eq_true,decide_eq_true_eq]
     exact⟨h2,h3⟩
def z4u (s w:Int) (T:List Tk) (j:Nat):Prop :=
 (T.getD j tk0).2.1<s∧(T.getD j tk0).2.2.1<w∧1≤(T.getD j tk0).2.2.2 ∧
 (j=0∨(T.getD (j-1) tk0).2.2.1<(T.getD j tk0).2.2.1∨((T.getD (j-1) tk0).2.2.1=(T.getD j tk0).2.2.1∧(T.getD (j-1) tk0).2.1<(T.getD j tk0).2.1)) ∧
 (j<3∨(T.getD (j-3) tk0).2.2.1≠(T.getD j tk0).2.2.1)
theorem z5d {s w:Int} {T:List Tk} {j:Nat} (h:∀ i,i<j→z4u s w T i):∀ k,k<j→(T.getD (j-1-k) tk0).2.2.1≤(T.getD (j-1) tk0).2.2.1
 | 0,_=>Int.le_refl _
 | k+1,hk=>by
  have h1:=z5d h k (by omega)
  have h2:=(h (j-1-k) (by omega)).2.2.2.1
  have e:j-1-k-1=j-1-(k+1):=by omega
  rw [e] at h2
  omega
theorem z7l (s w t r:Int) (x:Ln) (hs:z0i s w=true) (ht:1≤t∧t≤6):z2z s w t r [x]=true ↔ x.1<s∧1≤x.2∧r<w:=by
 unfold z2z
 rw [hs,decide_eq_true (show 1≤t∧t≤8 by omega),if_neg (show ¬ 7≤t by omega)]
 simp [z0n,z2g,List.range_succ]
 omega
theorem lines_snoc (s:Int) (L:List Ln) (x:Ln) (h1:1≤L.length):z0n s (L ++ [x])=true ↔ z0n s L=true∧x.1<s∧1≤x.2∧(L.getD (L.length-1) l0).1<x.1∧L.length+1≤3:=by
 have hl:∀ j,j<L.length→z2g s (L ++ [x]) j=z2g s L j:=fun j hj=>by
  unfold z2g
  rw [z3y L [x] _ j hj,z3y L [x] _ (j-1) (by omega)]
 have hx:z2g s (L ++ [x]) L.length=(decide (x.1<s) && decide (1≤x.2) && decide ((L.getD (L.length-1) l0).1<x.1)):=by
  unfold z2g
  rw [z5k,z3y L [x] _ (L.length-1) (by omega),decide_eq_false (show ¬ L.length=0 by omega),Bool.false_or]
 have hall:(List.range (L ++ [x]).length).all (z2g s (L ++ [x]))=((List.range L.length).all (z2g s L) && z2g s (L ++ [x]) L.length):=by
  rw [List.length_append,List.length_singleton,List.range_succ,List.all_append]
  congr 1
  · rw [Bool.eq_iff_iff,List.all_eq_true,List.all_eq_true]
    constructor
    · intro h j hj;rw [← hl j (List.mem_range.1 hj)];exact h j hj
    · intro h j hj;rw [hl j (List.mem_range.1 hj)];exact h j hj
  · simp
 unfold z0n
 rw [hall,hx]
 simp only [Bool.and_eq_true,decide_eq_true_eq,List.length_append,List.length_singleton]
 constructor
 · rintro ⟨⟨h1,⟨h2,h3⟩,h4⟩,h5⟩;exact⟨⟨h1,by omega⟩,h2,h3,h4,h5⟩
 · rintro ⟨⟨h1,_⟩,h2,h3,h4,h5⟩;exact⟨⟨h1,⟨h2,h3⟩,h4⟩,h5⟩
theorem good_snoc (s w t r:Int) (L:List Ln) (x:Ln) (h1:1≤L.length):z2z s w t r (L ++ [x])=true ↔ z2z s w t r L=true∧x.1<s∧1≤x.2∧(L.getD (L.length-1) l0).1<x.1∧L.length+1≤3:=by
 have h:=lines_snoc s L x h1
 unfold z2z
 simp only [Bool.and_eq_true,decide_eq_true_eq,List.length_append,List.length_singleton]
 rw [h]
 constructor
 · rintro ⟨⟨⟨⟨a,b⟩,c⟩,d,e⟩,f⟩;exact⟨⟨⟨⟨⟨a,b⟩,h1⟩,d⟩,f⟩,e⟩
 · rintro ⟨⟨⟨⟨⟨a,b⟩,c⟩,d⟩,f⟩,e⟩;exact⟨⟨⟨⟨a,b⟩,by omega⟩,d,e⟩,f⟩
theorem z4z (s w t:Int) (T:List Tk) (hs:z0i s w=true) (ht:1≤t∧t≤6):∀ j,j≤T.length→(z6s s w (z0y t (T.take j)) ↔ ∀ i,i<j→z4u s w T i)
 | 0,_=>by
  constructor
  · intro _ i hi;omega
  · intro _ i hi
    simp [z0y] at hi
 | 1,h=>by
  rw [z2t t T 0 h]
  have e:z4y t (z0y t (T.take 0)) (T.getD 0 tk0)=[] ++ [(t,(T.getD 0 tk0).2.2.1,[lnT (T.getD 0 tk0)])]:=rfl
  rw [e,z3x]
  dsimp only
  rw [z7l s w t _ _ hs ht]
  constructor
  · rintro ⟨_,_,h1,h2,h3⟩ i hi
    obtain rfl:i=0:=by omega
    exact⟨h1,h3,h2,.inl rfl,.inl (by omega)⟩
  · intro h
    obtain⟨h1,h2,h3,_⟩:=h 0 (by omega)
    exact⟨fun i hi=>absurd hi (Nat.not_lt_zero i),.inl rfl,h1,h3,h2⟩
 | j+2,h=>by
  have ih:=z4z s w t T hs ht (j+1) (by omega)
  obtain⟨S,L,q,R⟩:=z7c t T (j+1) (by omega) (by omega)
  have hR:=R.eq
  have hsame:=R.same
  have hlast:=R.last
  have hstop:=R.stop
  have hlen:=R.len
  have hle:=R.le
  have hone:=R.one
  have e1:j+1-1=j:=rfl
  rw [e1] at hR hsame hlast hstop
  rw [z2t t T (j+1) (by omega)]
  rw [hR] at ih
  have hsplit:(∀ i,i<j+2→z4u s w T i) ↔ (∀ i,i<j+1→z4u s w T i)∧z4u s w T (j+1):=by
   constructor
   · intro h;exact⟨fun i hi=>h i (by omega),h (j+1) (by omega)⟩
   · rintro ⟨h1,h2⟩ i hi
     by_cases hij:i<j+1
     · exact h1 i hij
     · obtain rfl:i=j+1:=by omega
       exact h2
  rw [hsplit,← ih,hR]
  by_cases hw:(T.getD j tk0).2.2.1=(T.getD (j+1) tk0).2.2.1
  · rw [z4n t S _ _ hw]
    dsimp only
    rw [z3x,z3x]
    dsimp only
    rw [good_snoc s w t _ L _ (by omega),hlen,hlast]
    unfold lnT z4u
    dsimp only
    have e3:j+1-3=j-2:=by omega
    try simp only [e1,e3]
    constructor
    · rintro ⟨a,b,c,d,e,f,g⟩
      refine⟨⟨a,b,c⟩,d,?_,e,.inr (.inr ⟨hw,f⟩),?_⟩
      · have:=(good_parts c).2.2.2.2.2
        rw [if_neg (by omega)] at this
        omega
      · by_cases h3:j+1<3
        · exact .inl h3
        · refine .inr fun hc=>?_
          have hall:=ih.1 ((z3x s w S _).2 ⟨a,b,c⟩)
          have r1:=z5d hall 1 (by omega)
          have r2:=(hall (j-1) (by omega)).2.2.2.1
          rw [e1] at r1
          have e2:j-1-1=j-2:=by omega
          rw [e2] at r2
          rcases (by omega:q=1∨q=2) with rfl | rfl
          · exact hstop (by omega) (by omega)
          · exact hstop (by omega) (by omega)
    · rintro ⟨⟨a,b,c⟩,d,d2,e,f,g⟩
      refine⟨a,b,c,d,e,by omega,?_⟩
      by_cases hq:q+1≤3
      · exact hq
      · have:=hsame 2 (by omega)
        omega
  · rw [z5i t S _ _ hw,z3x]
    dsimp only
    rw [z7l s w t _ _ hs ht]
    have hg:(S ++ [((t,(T.getD j tk0).2.2.1,L):Stp)]).getD ((S ++ [((t,(T.getD j tk0).2.2.1,L):Stp)]).length-1) (0,0,[])=(t,(T.getD j tk0).2.2.1,L):=by
     rw [List.length_append,List.length_singleton,Nat.add_sub_cancel,z5k]
    rw [hg]
    unfold lnT z4u
    dsimp only
    have e3:j+1-3=j-2:=by omega
    try simp only [e1,e3]
    constructor
    · rintro ⟨a,b,c,d,e⟩
      have hb:(T.getD j tk0).2.2.1<(T.getD (j+1) tk0).2.2.1:=by
       rcases b with b | b
       · simp at b
       · exact b
      refine⟨a,c,e,d,.inr (.inl hb),?_⟩
      by_cases h3:j+1<3
      · exact .inl h3
      · have hall:=ih.1 a
        have r1:=z5d hall 2 (by omega)
        rw [e1] at r1
        exact .inr (by omega)
    · rintro ⟨a,c,e,d,f,_⟩
      exact⟨a,.inr (by omega),c,d,e⟩
theorem z3p (s w o:Int) (T:List Tk):z0r s w o T=true ↔ T.length≤12∧(∀ j,j<T.length→(T.getD j tk0).1=o)∧∀ j,j<T.length→z4u s w T j:=by
 unfold z0r
 rw [Bool.and_eq_true,List.all_eq_true]
 simp only [List.mem_range,decide_eq_true_eq]
 have:∀ j,z5b s w o T j=true ↔ (T.getD j tk0).1=o∧z4u s w T j:=fun j=>by
  unfold z5b z4u
  simp only [Bool.and_eq_true,Bool.or_eq_true,decide_eq_true_eq]
  constructor
  · rintro ⟨⟨⟨⟨⟨a,b⟩,c⟩,d⟩,e⟩,f⟩
    refine⟨a,b,c,d,?_,f⟩
    rcases e with (e | e) | e
    · exact .inl e
    · exact .inr (.inl e)
    · exact .inr (.inr e)
  · rintro ⟨a,b,c,d,e,f⟩
    refine⟨⟨⟨⟨⟨a,b⟩,c⟩,d⟩,?_⟩,f⟩
    rcases e with e | e | e
    · exact .inl (.inl e)
    · exact .inl (.inr e)
    · exact .inr e
 constructor
 · rintro ⟨h1,h2⟩
   exact⟨h2,fun j hj=>((this j).1 (h1 j hj)).1,fun j hj=>((this j).1 (h1 j hj)).2⟩
 · rintro ⟨h1,h2,h3⟩
   exact⟨fun j hj=>(this j).2 ⟨h2 j hj,h3 j hj⟩,h1⟩
theorem house_all (s w o:Int) (T:List Tk) (hs:z0i s w=true):z0r s w o T=true ↔ T.length≤12∧(∀ j,j<T.length→(T.getD j tk0).1=o)∧z6s s w (z0y 1 T):=by
 rw [z3p]
 have:=z4z s w 1 T hs (by omega) T.length (Nat.le_refl _)
 rw [List.take_length] at this
 rw [this]
theorem atP_none (v:Int) (T:List Tk) (j:Nat) (h:∀ i,i<j→(T.getD i tk0).2.2.1≠v):j≤T.length→atP v (T.take j)=[]:=by
 induction j with
 | zero=>intro _;simp [atP]
 | succ j ih =>
  intro hj
  rw [z6e v T j (by omega),ih (fun i hi=>h i (by omega)) (by omega),if_neg (h j (by omega))]
  rfl
theorem atS_none (t v:Int) (T:List Tk) (h:atP v T=[]):atS t v T=[]:=by unfold atS;rw [h];rfl
theorem atS_ware (t v:Int) (T:List Tk) (x:Stp) (h:x∈atS t v T):x.2.1=v:=by
 unfold atS at h
 split at h
 · simp at h;rw [h]
 · cases h
theorem atS_keep (t v:Int) (T:List Tk) (j:Nat) (hj:j<T.length) (h:(T.getD j tk0).2.2.1≠v):atS t v (T.take (j+1))=atS t v (T.take j):=by
 unfold atS
 rw [z6e v T j hj,if_neg h,List.append_nil]
theorem hstep_at (t:Int) (X:List Stp) (T:List Tk) (j:Nat) (hj:j<T.length) (hX:∀ x∈X,x.2.1≠(T.getD j tk0).2.2.1):z4y t (X++atS t (T.getD j tk0).2.2.1 (T.take j)) (T.getD j tk0)=X++atS t (T.getD j tk0).2.2.1 (T.take (j+1)):=by
 have h1:=z6e (T.getD j tk0).2.2.1 T j hj
 rw [if_pos rfl] at h1
 unfold atS
 rw [h1]
 rw [if_pos (show 1≤(atP (T.getD j tk0).2.2.1 (T.take j) ++ [((T.getD j tk0).2.1,(T.getD j tk0).2.2.2)]).length by simp)]
 by_cases h0:1≤(atP (T.getD j tk0).2.2.1 (T.take j)).length
 · rw [if_pos h0,z4n t X _ _ rfl]
   rfl
 · rw [if_neg h0,List.append_nil,List.eq_nil_of_length_eq_zero (show (atP (T.getD j tk0).2.2.1 (T.take j)).length=0 by omega)]
   cases hl:X.getLast? with
   | none =>
    obtain rfl:=List.getLast?_eq_none_iff.1 hl
    rfl
   | some l =>
    have hm:=List.mem_of_getLast? hl
    have hs:X=X.dropLast ++ [l]:=by
     rw [List.getLast?_eq_some_iff] at hl
     obtain⟨ys,rfl⟩:=hl
     simp
    rw [hs,z5i t _ l _ (hX l hm)]
    simp [lnT]
theorem z7k (t o:Int) (T:List Tk) (hw:∀ x∈T,0≤x.2.2.1) (h:z0r 4 4 o T=true):∀ j,j≤T.length→z0y t (T.take j)=(List.range 4).flatMap (fun w:Nat=>atS t (w:Int) (T.take j))
 | 0,_=>by simp [z0y,atS,atP]
 | j+1,hj=>by
  have ih:=z7k t o T hw h j (by omega)
  obtain⟨_,_,hT⟩:=(z3p 4 4 o T).1 h
  have hv:=(hT j (by omega)).2.1
  have hv0:0≤(T.getD j tk0).2.2.1:=by
   rw [List.getD,List.getElem?_eq_getElem (by omega)]
   exact hw _ (List.getElem_mem _)
  have hrise:∀ i,i<j→(T.getD i tk0).2.2.1≤(T.getD j tk0).2.2.1:=fun i hi=>by
   have:=z5d (s:=4) (w:=4) (T:=T) (j:=j+1) (fun i hi=>hT i (by omega)) (j-i) (by omega)
   have e:j+1-1-(j-i)=i:=by omega
   rw [e] at this
   exact this
  have habove:∀ v:Int,(T.getD j tk0).2.2.1<v→atS t v (T.take j)=[]∧atS t v (T.take (j+1))=[]:=fun v hv=>by
   have h1:=atS_none t v _ (atP_none v T j (fun i hi=>by have:=hrise i hi;omega) (by omega))
   exact⟨h1,by rw [atS_keep t v T j (by omega) (by omega)];exact h1⟩
  have hbelow:∀ v:Int,v<(T.getD j tk0).2.2.1→atS t v (T.take (j+1))=atS t v (T.take j):=fun v hv=>atS_keep t v T j (by omega) (by omega)
  rw [z2t t T j (by omega),ih]
  have hflat:∀ f:Nat→List Stp,(List.range 4).flatMap f=f 0++f 1++f 2++f 3:=fun f=>by simp [List.range_succ]
  rw [hflat,hflat]
  have hx:=fun X hX=>hstep_at t X T j (by omega) hX
  have hmem:=fun v T' x hx=>atS_ware t v T' x hx
  have c0:((0:Nat):Int)=0:=rfl
  have c1:((1:Nat):Int)=1:=rfl
  have c2:((2:Nat):Int)=2:=rfl
  have c3:((3:Nat):Int)=3:=rfl
  rw [c0,c1,c2,c3]
  rcases (by omega:(T.getD j tk0).2.2.1=0∨(T.getD j tk0).2.2.1=1∨(T.getD j tk0).2.2.1=2∨(T.getD j tk0).2.2.1=3) with e | e | e | e
  · obtain⟨a1,b1⟩:=habove 1 (by omega)
    obtain⟨a2,b2⟩:=habove 2 (by omega)
    obtain⟨a3,b3⟩:=habove 3 (by omega)
    rw [a1,b1,a2,b2,a3,b3]
    have:=hx [] (fun x hx=>by cases hx)
    rw [e] at this
    simpa using this
  · obtain⟨a2,b2⟩:=habove 2 (by omega)
    obtain⟨a3,b3⟩:=habove 3 (by omega)
    rw [a2,b2,a3,b3,hbelow 0 (by omega)]
    have:=hx (atS t 0 (T.take j)) (fun x hx=>by rw [hmem _ _ x hx];omega)
    rw [e] at this
    simpa using this
  · obtain⟨a3,b3⟩:=habove 3 (by omega)
    rw [a3,b3,hbelow 0 (by omega),hbelow 1 (by omega)]
    have:=hx (atS t 0 (T.take j)++atS t 1 (T.take j)) (fun x hx=>by
     rcases List.mem_append.1 hx with hx | hx <;> rw [hmem _ _ x hx] <;> omega)
    rw [e] at this
    simpa using this
  · rw [hbelow 0 (by omega),hbelow 1 (by omega),hbelow 2 (by omega)]
    have:=hx (atS t 0 (T.take j)++atS t 1 (T.take j)++atS t 2 (T.take j)) (fun x hx=>by
     rcases List.mem_append.1 hx with hx | hx
     · rcases List.mem_append.1 hx with hx | hx <;> rw [hmem _ _ x hx] <;> omega
     · rw [hmem _ _ x hx];omega)
    rw [e] at this
    simpa using this
theorem tkparts_none (T:List Tk) (s:Int) (h:∀ x∈T,x.2.1≠s):z1c T s=[]:=by
 unfold z1c
 rw [List.map_eq_nil_iff,List.filter_eq_nil_iff]
 intro x hx
 simpa using h x hx
theorem lnparts_none (M:List Ln) (s:Int) (h:∀ x∈M,x.1≠s):z0w M s=[]:=by
 unfold z0w
 rw [List.map_eq_nil_iff,List.filter_eq_nil_iff]
 intro x hx
 simpa using h x hx
theorem z6b {L:List Ln} (h:∀ x∈L,Lnok x) {j:Nat} (hj:j<L.length):Lnok (L.getD j l0):=by
 rw [List.getD,List.getElem?_eq_getElem hj]
 exact h _ (List.getElem_mem _)
theorem z3c {α:Type} {L:List α} {x:α} (d:α) (h:x∈L):∃ j,j<L.length∧L.getD j d=x:=by
 obtain⟨j,hj,rfl⟩:=List.mem_iff_getElem.1 h
 exact⟨j,hj,by simp [List.getD,List.getElem?_eq_getElem hj]⟩
theorem z3h {s:Int} {L:List Ln} (h:z0n s L=true):L.length≤3∧∀ j,j<L.length→z2g s L j=true:=by
 unfold z0n at h
 rw [Bool.and_eq_true,List.all_eq_true] at h
 exact⟨by simpa using h.2,fun j hj=>h.1 j (List.mem_range.2 hj)⟩
theorem lines_sku {s:Int} {L:List Ln} (h:z0n s L=true):∀ x∈L,x.1<s:=by
 intro x hx
 obtain⟨j,hj,rfl⟩:=z3c l0 hx
 have:=(z3h h).2 j hj
 unfold z2g at this
 simp only [Bool.and_eq_true,decide_eq_true_eq] at this
 exact this.1.1
theorem lines_rise {s:Int} {L:List Ln} (h:z0n s L=true):∀ j k,j<k→k<L.length→(L.getD j l0).1<(L.getD k l0).1
 | j,0,h1,_=>by omega
 | j,k+1,h1,h2=>by
  have hk:=(z3h h).2 (k+1) h2
  unfold z2g at hk
  simp only [Bool.and_eq_true,Bool.or_eq_true,decide_eq_true_eq] at hk
  have h3:(L.getD k l0).1<(L.getD (k+1) l0).1:=by
   rcases hk.2 with h | h
   · omega
   · exact h
  rcases (by omega:j=k∨j<k) with rfl | hjk
  · exact h3
  · exact Int.lt_trans (lines_rise h j k hjk (by omega)) h3
theorem parts_one {s:Int} {L:List Ln} (h:z0n s L=true) (a:Int):∀ j,j≤L.length→(z0w (L.take j) a=[]∧∀ i,i<j→(L.getD i l0).1≠a)∨∃ i,i<j∧(L.getD i l0).1=a∧z0w (L.take j) a=[(L.getD i l0).2]
 | 0,_=>.inl ⟨by simp [z0w],fun i hi=>by omega⟩
 | j+1,hj=>by
  rw [z3n L a j (by omega)]
  rcases parts_one h a j (by omega) with ⟨h1,h2⟩ | ⟨i,h1,h2,h3⟩
  · by_cases hc:(L.getD j l0).1=a
    · rw [if_pos hc,h1]
      exact .inr ⟨j,by omega,hc,rfl⟩
    · rw [if_neg hc,h1]
      refine .inl ⟨rfl,fun i hi=>?_⟩
      by_cases hij:i<j
      · exact h2 i hij
      · obtain rfl:i=j:=by omega
        exact hc
  · have:=lines_rise h i j h1 (by omega)
    rw [if_neg (by omega),h3]
    exact .inr ⟨i,by omega,h2,rfl⟩
theorem named_lines_ok {s:Int} {L:List Ln} (h:z0n s L=true) (hok:∀ x∈L,Lnok x) (a:Int):okB (z0x [] L a)=true:=by
 unfold z0x
 have e:z1c [] a=[]:=rfl
 rw [e,List.nil_append]
 have:=parts_one h a L.length (Nat.le_refl _)
 rw [List.take_length] at this
 rcases this with ⟨h1,_⟩ | ⟨i,h1,_,h3⟩
 · rw [h1];rfl
 · rw [h3]
   have:=(z6b hok h1).2
   rw [z3g]
   simpa [z1d] using this
def z3b (T:List Tk) (M L:List Ln) (a:Nat):Bool:=okB (z0x T M a) && decide (z0x T M a=z0x [] L a)
theorem served_cover {s o:Int} {T:List Tk} {M L:List Ln} (h0:0≤s) (h4:s≤4) (hL:z0n s L=true) (hM:z0n s M=true) (hT:∀ x∈T,x.2.1<s) (hok:∀ x∈L,Lnok x):(∀ a:Nat,(a:Int)<s→z3b T M L a=true) ↔ z2a T M L=true:=by
 have hc:∀ a:Nat,z3j T M L a=z3b T M L a:=fun a=>by
  unfold z3j z3b
  rw [named_lines_ok hL hok,Bool.and_true]
 unfold z2a
 rw [List.all_eq_true]
 constructor
 · intro h a ha
   rw [hc]
   by_cases hs:(a:Int)<s
   · exact h a hs
   · have z1:z1c T a=[]:=tkparts_none T a fun x hx=>by have:=hT x hx;omega
     have z2:z0w M a=[]:=lnparts_none M a fun x hx=>by have:=lines_sku hM x hx;omega
     have z3:z0w L a=[]:=lnparts_none L a fun x hx=>by have:=lines_sku hL x hx;omega
     unfold z3b z0x
     rw [z1,z2,z3]
     rfl
 · intro h a ha
   rw [← hc]
   exact h a (List.mem_range.2 (by omega))
theorem takes_sku {s w o:Int} {T:List Tk} (h:z0r s w o T=true):∀ x∈T,x.2.1<s:=by
 intro x hx
 obtain⟨j,hj,rfl⟩:=z3c tk0 hx
 exact (((z3p s w o T).1 h).2.2 j hj).1
def allT (T:List Tk):List Int:=T.map (·.2.2.2)
theorem allT_take (T:List Tk) (j:Nat) (h:j<T.length):allT (T.take (j+1))=allT (T.take j) ++ [(T.getD j tk0).2.2.2]:=by
 unfold allT
 rw [List.take_add_one,List.getElem?_eq_getElem h,List.map_append]
 simp [List.getD,List.getElem?_eq_getElem h]
theorem z6n (T:List Tk) (s:Int) (h:∀ x∈T,x.2.1=s):z0x T [] s=z1d (allT T):=by
 unfold z0x
 have e:z0w [] s=[]:=rfl
 rw [e,List.append_nil]
 unfold z1c allT
 rw [List.filter_eq_self.2 (fun x hx=>by simpa using h x hx)]
theorem fills_sku {sk to q:Int} {T:List Tk} (h:z1w sk to q T=true):∀ x∈T,x.2.1=sk:=by
 intro x hx
 obtain⟨j,hj,rfl⟩:=z3c tk0 hx
 unfold z1w at h
 rw [Bool.and_eq_true,List.all_eq_true] at h
 have:=h.1 j (List.mem_range.2 hj)
 unfold z3o at this
 simp only [Bool.and_eq_true,decide_eq_true_eq] at this
 exact this.1.1.1.2
end Go.Proofs.YtnpjpelbcmgodaaDoor
namespace Go.Proofs.YtnpjpelbcmgodaaDoor
open Go.RowKit Go.ChangeShapes Go.WideShapes
set_option linter.unusedVariables false
set_option maxRecDepth 10000
section
variable {α β:Type} (ix:α→Int)
variable {ix}
end
structure Tc where
 id:Int
 sg:Int
 st:Int
 cp:Bool
 dd:Bool
 dn:List O
 fs:Int
 sz:Int
deriving DecidableEq
def tc0:Tc:=⟨0,0,0,false,false,[],0,0⟩
def z2s (t:Tc):O × Bool:=match t.dn.getLast? with
 | none=>(o0,false)
 | some o=>if o.2 < -9223372036854775807 then (o0,false) else ((o.1,-o.2),true)
structure Tcok (t:Tc):Prop where
 id:0≤t.id∧t.id≤4294967295
 sg:0≤t.sg∧t.sg≤4294967295
 st:0≤t.st∧t.st≤255
 dn:∀ o∈t.dn,Ook o
 fs:In64 t.fs
 sz:In64 t.sz
end Go.Proofs.YtnpjpelbcmgodaaDoor
