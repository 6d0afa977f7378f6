import Derived.Test.YtclbkfpbdidaiaaDoorPA03
import Derived.Test.YtclbkfpbdidaiaaDoorPA10
namespace Go.Proofs.YtclbkfpbdidaiaaDoor
open Go.RowKit
set_option linter.unusedVariables false
set_option maxRecDepth 10000
abbrev O:=K × Int
abbrev o0:O:=((0,0,0),0)
def In64 (z:Int):Prop:=-9223372036854775808≤z∧z≤9223372036854775807
def Ook (o:O):Prop:=Kok o.1∧In64 o.2
def dsL (L:List O) (k:K):List Int:=(L.filter fun o=>decide (o.1=k)).map (·.2)
def keysO (L:List O):List K:=setL (L.map (·.1))
def sumO (L:List O) (k:K):Int:=z1a (dsL L k)
def netF (L:List O) (S:List K):List O:=(S.filter fun k=>decide (sumO L k≠0)).map fun k=>(k,sumO L k)
def netOk (L:List O) (S:List K):Bool:=S.all fun k=>okB (sumO L k)
def netB (L:List O):Bool:=netOk L (keysO L)
def netV (L:List O):List O:=if netB L=true then netF L (keysO L) else []
theorem okB_iff (z:Int):okB z=true ↔ In64 z:=by unfold okB In64;exact decide_eq_true_iff
theorem dsL_append (L M:List O) (k:K):dsL (L++M) k=dsL L k++dsL M k:=by simp [dsL]
theorem dsL_one (o:O) (k:K):dsL [o] k=if o.1=k then [o.2] else []:=by
 by_cases h:o.1=k <;> simp [dsL,h]
theorem dsL_nil {L:List O} {k:K} (h:k ∉ L.map (·.1)):dsL L k=[]:=by
 unfold dsL
 rw [List.map_eq_nil_iff,List.filter_eq_nil_iff]
 intro o ho he
 exact h (List.mem_map.2 ⟨o,ho,by simpa using he⟩)
abbrev Ln:=Int × Int
abbrev l0:Ln:=(0,0)
def Lnok (x:Ln):Prop:=(0≤x.1∧x.1≤255)∧In64 x.2
def oneS (t w:Int) (x:Ln):List O :=
 if t=1 then [((1,x.1,w),-x.2),((2,x.1,w),x.2)] else
 if t=2 then [((2,x.1,w),-x.2),((1,x.1,w),x.2)] else
 if t=3 then [((2,x.1,w),-x.2),((3,x.1,0),x.2)] else
 if t=4 then [((3,x.1,0),-x.2),((1,x.1,w),x.2)] else
 if t=5 then [((1,x.1,w),x.2)] else
 if t=6 then [((1,x.1,w),-x.2)] else
 if t=7 then [((4,x.1,0),x.2)] else
 if t=8 then [((4,x.1,0),-x.2)] else []
theorem one_cases (t w:Int) (x:Ln) :
 (t=1∧oneS t w x=[((1,x.1,w),-x.2),((2,x.1,w),x.2)])∨(t=2∧oneS t w x=[((2,x.1,w),-x.2),((1,x.1,w),x.2)]) ∨
 (t=3∧oneS t w x=[((2,x.1,w),-x.2),((3,x.1,0),x.2)])∨(t=4∧oneS t w x=[((3,x.1,0),-x.2),((1,x.1,w),x.2)]) ∨
 (t=5∧oneS t w x=[((1,x.1,w),x.2)])∨(t=6∧oneS t w x=[((1,x.1,w),-x.2)]) ∨
 (t=7∧oneS t w x=[((4,x.1,0),x.2)])∨(t=8∧oneS t w x=[((4,x.1,0),-x.2)]) ∨
 ((t≠1∧t≠2∧t≠3∧t≠4∧t≠5∧t≠6∧t≠7∧t≠8)∧oneS t w x=[]):=by
 by_cases h1:t=1
 · subst h1;exact .inl ⟨rfl,rfl⟩
 by_cases h2:t=2
 · subst h2;exact .inr (.inl ⟨rfl,rfl⟩)
 by_cases h3:t=3
 · subst h3;exact .inr (.inr (.inl ⟨rfl,rfl⟩))
 by_cases h4:t=4
 · subst h4;exact .inr (.inr (.inr (.inl ⟨rfl,rfl⟩)))
 by_cases h5:t=5
 · subst h5;exact .inr (.inr (.inr (.inr (.inl ⟨rfl,rfl⟩))))
 by_cases h6:t=6
 · subst h6;exact .inr (.inr (.inr (.inr (.inr (.inl ⟨rfl,rfl⟩)))))
 by_cases h7:t=7
 · subst h7;exact .inr (.inr (.inr (.inr (.inr (.inr (.inl ⟨rfl,rfl⟩))))))
 by_cases h8:t=8
 · subst h8;exact .inr (.inr (.inr (.inr (.inr (.inr (.inr (.inl ⟨rfl,rfl⟩)))))))
 refine .inr (.inr (.inr (.inr (.inr (.inr (.inr (.inr ⟨⟨h1,h2,h3,h4,h5,h6,h7,h8⟩,?_⟩)))))))
 simp only [oneS,if_neg h1,if_neg h2,if_neg h3,if_neg h4,if_neg h5,if_neg h6,if_neg h7,if_neg h8]
def itemS (t w:Int) (x:Ln):List O:=if 1≤x.2 then oneS t w x else []
def opsS (t w:Int) (L:List Ln):List O:=L.flatMap (itemS t w)
theorem opsS_cons (t w:Int) (x:Ln) (L:List Ln):opsS t w (x::L)=itemS t w x++opsS t w L:=List.flatMap_cons ..
theorem opsS_take (t w:Int) (L:List Ln) (j:Nat) (h:j<L.length):opsS t w (L.take (j+1))=opsS t w (L.take j)++itemS t w (L.getD j l0):=by
 unfold opsS
 rw [List.take_add_one,List.getElem?_eq_getElem h,List.flatMap_append]
 simp [List.getD,List.getElem?_eq_getElem h]
theorem opsS_nil (t w:Int) (L:List Ln):opsS t w (L.take 0)=[]:=by simp [opsS]
theorem one_len (t w:Int) (x:Ln):(oneS t w x).length≤2:=by
 rcases one_cases t w x with ⟨_,h⟩ | ⟨_,h⟩ | ⟨_,h⟩ | ⟨_,h⟩ | ⟨_,h⟩ | ⟨_,h⟩ | ⟨_,h⟩ | ⟨_,h⟩ | ⟨_,h⟩ <;> rw [h] <;> simp
theorem item_len (t w:Int) (x:Ln):(itemS t w x).length≤2:=by
 unfold itemS
 split
 · exact one_len t w x
 · simp
theorem opsS_len (t w:Int):∀ L:List Ln,(opsS t w L).length≤2*L.length
 | []=>by simp [opsS]
 | x::L=>by
  have:=opsS_len t w L
  have:=item_len t w x
  rw [opsS_cons,List.length_append,List.length_cons]
  omega
def Ook2 (o:O):Prop:=Ook o∧In64 (-o.2)∧o.2≠0
theorem item_ok (t w:Int) (x:Ln) (hw:0≤w∧w≤255) (hx:Lnok x):∀ o∈itemS t w x,Ook2 o:=by
 obtain⟨s,q⟩:=x
 obtain⟨⟨h0,h1⟩,h2,h3⟩:=hx
 dsimp only at h0 h1 h2 h3
 unfold itemS
 split
 · next hq =>
   dsimp only at hq
   have hb:∀ k d,Kok k→(d=q∨d = -q)→Ook2 (k,d):=fun k d hk hd=>⟨⟨hk,by dsimp only [In64];omega⟩,by dsimp only [In64];omega,by dsimp only;omega⟩
   have hk1:∀ a:Int,0≤a→a≤255→Kok (a,s,w):=fun a ha hb=>⟨⟨ha,hb⟩,⟨h0,h1⟩,hw⟩
   have hk0:∀ a:Int,0≤a→a≤255→Kok (a,s,0):=fun a ha hb=>⟨⟨ha,hb⟩,⟨h0,h1⟩,by dsimp only;omega⟩
   rcases one_cases t w (s,q) with ⟨_,h⟩ | ⟨_,h⟩ | ⟨_,h⟩ | ⟨_,h⟩ | ⟨_,h⟩ | ⟨_,h⟩ | ⟨_,h⟩ | ⟨_,h⟩ | ⟨_,h⟩ <;> rw [h] <;> intro o ho <;> simp only [List.mem_cons,List.not_mem_nil,or_false] at ho
   all_goals (try rcases ho with rfl | rfl)
   all_goals (first | (subst ho) | skip)
   all_goals (refine hb _ _ ?_ (by first | exact .inl rfl | exact .inr rfl))
   all_goals (first | (apply hk1 <;> omega) | (apply hk0 <;> omega))
 · intro o ho;cases ho
theorem opsS_ok (t w:Int) (L:List Ln) (hw:0≤w∧w≤255) (hL:∀ x∈L,Lnok x):∀ o∈opsS t w L,Ook2 o:=by
 intro o ho
 obtain⟨x,hx,hox⟩:=List.mem_flatMap.1 ho
 exact item_ok t w x hw (hL x hx) o hox
theorem ds_nodup:∀ L:List O,(L.map (·.1)).Nodup→∀ o∈L,dsL L o.1=[o.2]
 | [],_,o,ho=>by cases ho
 | x::T,h,o,ho=>by
  rw [List.map_cons] at h
  obtain⟨h1,h2⟩:=List.nodup_cons.1 h
  have e:x::T=[x]++T:=rfl
  rw [e,dsL_append,dsL_one]
  rcases List.mem_cons.1 ho with rfl | ho
  · rw [if_pos rfl,dsL_nil h1];rfl
  · have hne:x.1≠o.1:=fun e=>h1 (e ▸ List.mem_map.2 ⟨o,ho,rfl⟩)
    rw [if_neg hne,ds_nodup T h2 o ho];rfl
theorem ins_new (k:K):∀ L:List K,k ∉ L→(insK L k).length=L.length+1
 | [],_=>by simp [insK]
 | x::L,h=>by
  have ih:=ins_new k L (fun hk=>h (List.mem_cons.2 (.inr hk)))
  have hf:((x::L).filter fun y=>decide (y≠k))=x::L:=by
   rw [List.filter_eq_self]
   intro y hy
   simp only [decide_eq_true_eq]
   exact fun e=>h (e ▸ hy)
  unfold insK
  split
  · rw [List.length_cons,ih,List.length_cons]
  · rw [hf];simp
theorem set_nodup_to:∀ (L acc:List K),L.Nodup→(∀ x∈L,x ∉ acc)→(L.foldl insK acc).length=acc.length+L.length
 | [],acc,_,_=>by simp
 | k::L,acc,h,hd=>by
  obtain⟨h1,h2⟩:=List.nodup_cons.1 h
  have hk:=ins_new k acc (hd k (List.mem_cons.2 (.inl rfl)))
  have:=set_nodup_to L (insK acc k) h2 (fun x hx hi=>by
   rcases (ins_mem k x acc).1 hi with rfl | hi
   · exact h1 hx
   · exact hd x (List.mem_cons.2 (.inr hx)) hi)
  rw [List.foldl_cons,this,hk,List.length_cons]
  omega
theorem net_count {L:List O} (hn:(L.map (·.1)).Nodup) (hok:∀ o∈L,In64 o.2∧o.2≠0):netB L=true∧(netV L).length=L.length:=by
 have hsum:∀ o∈L,sumO L o.1=o.2:=fun o ho=>by unfold sumO;rw [ds_nodup L hn o ho];simp [z1a]
 have hkey:∀ k∈keysO L,∃ o∈L,o.1=k:=fun k hk=>by
  obtain⟨o,ho,h⟩:=List.mem_map.1 ((set_mem _ _).1 hk)
  exact⟨o,ho,h⟩
 have hb:netB L=true:=by
  unfold netB netOk
  rw [List.all_eq_true]
  intro k hk
  obtain⟨o,ho,rfl⟩:=hkey k hk
  rw [hsum o ho]
  exact (okB_iff _).2 (hok o ho).1
 refine⟨hb,?_⟩
 unfold netV
 rw [if_pos hb]
 unfold netF
 rw [List.length_map]
 have hf:((keysO L).filter fun k=>decide (sumO L k≠0))=keysO L:=by
  rw [List.filter_eq_self]
  intro k hk
  obtain⟨o,ho,rfl⟩:=hkey k hk
  rw [hsum o ho]
  simpa using (hok o ho).2
 rw [hf]
 have:=set_nodup_to (L.map (·.1)) [] hn (fun _ _ h=>by cases h)
 simpa [keysO,setL] using this
def z1t (s:Int) (L:List Ln) (j:Nat):Bool:=decide ((L.getD j l0).1<s) && decide (1≤(L.getD j l0).2) && (decide (j=0) || decide ((L.getD (j-1) l0).1<(L.getD j l0).1))
def z0l (s:Int) (L:List Ln):Bool:=(List.range L.length).all (z1t s L) && decide (L.length≤3)
def goodS (s w t r:Int) (L:List Ln):Bool:=z0o s w && decide (1≤t∧t≤8) && decide (1≤L.length) && z0l s L && (if 7≤t then decide (r=0) else decide (r<w))
theorem lines_false (s:Int) (L:List Ln) (j:Nat) (h:j<L.length) (hf:z1t s L j=false):z0l s L=false:=by
 unfold z0l
 cases hc:(List.range L.length).all (z1t s L) with
 | false=>rfl
 | true =>
  have:=List.all_eq_true.1 hc j (List.mem_range.2 h)
  rw [hf] at this
  cases this
theorem lines_true (s:Int) (L:List Ln) (h:∀ j,j<L.length→z1t s L j=true):z0l s L=decide (L.length≤3):=by
 unfold z0l
 have:(List.range L.length).all (z1t s L)=true:=by
  rw [List.all_eq_true]
  exact fun j hj=>h j (List.mem_range.1 hj)
 rw [this];rfl
def kindS (t:Int):Int:=if t=7∨t=8 then 4 else 1
theorem named_good (s w t r:Int) (x:Ln) (hr:0≤r) (ht:1≤t∧t≤8):goodB s w (kindS t) x.1 r=(z0o s w && decide (x.1<s) && (if 7≤t then decide (r=0) else decide (r<w))):=by
 unfold goodB kindS widthI
 by_cases h:t=7∨t=8
 · have h7:7≤t:=by omega
   rw [if_pos h,if_pos h7]
   congr 1
   simp
   omega
 · have h7:¬ 7≤t:=by omega
   rw [if_neg h,if_neg h7]
   simp
theorem good_parts {s w t r:Int} {L:List Ln} (h:goodS s w t r L=true):z0o s w=true∧(1≤t∧t≤8)∧1≤L.length∧L.length≤3∧(∀ j,j<L.length→z1t s L j=true)∧(if 7≤t then r=0 else r<w):=by
 unfold goodS z0l at h
 simp only [Bool.and_eq_true,decide_eq_true_eq] at h
 obtain⟨⟨⟨⟨h1,h2⟩,h3⟩,h4,h5⟩,h6⟩:=h
 refine⟨h1,h2,h3,h5,fun j hj=>List.all_eq_true.1 h4 j (List.mem_range.2 hj),?_⟩
 split
 · next h7=>rw [if_pos h7] at h6;simpa using h6
 · next h7=>rw [if_neg h7] at h6;simpa using h6
theorem good_rise {s w t r:Int} {L:List Ln} (h:goodS s w t r L=true):(∀ x∈L,1≤x.2)∧(L.map (·.1)).Pairwise (· < ·):=by
 obtain⟨hs,ht,h1,h3,hj,hw⟩:=good_parts h
 have hat:∀ j (hjl:j<L.length),1≤L[j].2:=fun j hjl=>by
  have e:L.getD j l0=L[j]:=by simp [List.getD,List.getElem?_eq_getElem hjl]
  have hlb:=hj j hjl
  unfold z1t at hlb
  rw [e] at hlb
  simp only [Bool.and_eq_true,decide_eq_true_eq] at hlb
  obtain⟨⟨_,h2⟩,_⟩:=hlb
  exact h2
 have hup:∀ j (hjl:j+1<L.length),L[j].1<L[j+1].1:=fun j hjl=>by
  have e:L.getD (j+1) l0=L[j+1]:=by simp [List.getD,List.getElem?_eq_getElem hjl]
  have e2:L.getD j l0=L[j]:=by simp [List.getD,List.getElem?_eq_getElem (show j<L.length by omega)]
  have hlb:=hj (j+1) hjl
  unfold z1t at hlb
  rw [show j+1-1=j from rfl,e,e2] at hlb
  simp only [Bool.and_eq_true,Bool.or_eq_true,decide_eq_true_eq] at hlb
  omega
 refine⟨fun x hx=>?_,?_⟩
 · obtain⟨j,hjl,rfl⟩:=List.getElem_of_mem hx
   exact hat j hjl
 · clear hat hj h
   match L,h1,h3,hup with
   | [a],_,_,_=>simp
   | [a,b],_,_,hup =>
    have:=hup 0 (by simp)
    simpa using this
   | [a,b,c],_,_,hup =>
    have h01:=hup 0 (by simp)
    have h12:=hup 1 (by simp)
    simp at h01 h12
    simp
    omega
theorem one_keys (t r:Int) (x:Ln):(((oneS t r x).map (·.1)).Nodup)∧(∀ o∈oneS t r x,o.1.2.1=x.1)∧((1≤t∧t≤8)→1≤(oneS t r x).length):=by
 rcases one_cases t r x with ⟨h8,h⟩ | ⟨h8,h⟩ | ⟨h8,h⟩ | ⟨h8,h⟩ | ⟨h8,h⟩ | ⟨h8,h⟩ | ⟨h8,h⟩ | ⟨h8,h⟩ | ⟨h8,h⟩ <;> rw [h] <;> refine⟨by simp,?_,?_⟩
 all_goals (try (intro o ho;simp only [List.mem_cons,List.not_mem_nil,or_false] at ho))
 all_goals (try (rcases ho with rfl | rfl))
 all_goals (try rfl)
 all_goals (try (subst ho;rfl))
 all_goals (intro h9;first | (simp;done) | (exfalso;omega))
theorem ops_nodup (t r:Int):∀ L:List Ln,(L.map (·.1)).Pairwise (· < ·)→((opsS t r L).map (·.1)).Nodup
 | [],_=>by simp [opsS]
 | x::L,h=>by
  rw [List.map_cons,List.pairwise_cons] at h
  have ih:=ops_nodup t r L h.2
  rw [opsS_cons,List.map_append]
  refine List.nodup_append.2 ⟨?_,ih,?_⟩
  · unfold itemS
    split
    · exact (one_keys t r x).1
    · simp
  · intro a ha b hb e
    subst e
    obtain⟨o,ho,rfl⟩:=List.mem_map.1 ha
    obtain⟨u,hu,he⟩:=List.mem_map.1 hb
    obtain⟨y,hy,huy⟩:=List.mem_flatMap.1 hu
    have e1:o.1.2.1=x.1:=by
     unfold itemS at ho
     split at ho
     · exact (one_keys t r x).2.1 o ho
     · cases ho
    have e2:u.1.2.1=y.1:=by
     unfold itemS at huy
     split at huy
     · exact (one_keys t r y).2.1 u huy
     · cases huy
    have:=h.1 y.1 (List.mem_map.2 ⟨y,hy,rfl⟩)
    rw [← e1,← e2,he] at this
    omega
theorem ops_least (t r:Int) (ht:1≤t∧t≤8):∀ L:List Ln,(∀ x∈L,1≤x.2)→L.length≤(opsS t r L).length
 | [],_=>by simp
 | x::L,h=>by
  have ih:=ops_least t r ht L fun y hy=>h y (List.mem_cons.2 (.inr hy))
  have h1:=(one_keys t r x).2.2 ht
  have h2:itemS t r x=oneS t r x:=if_pos (h x (List.mem_cons.2 (.inl rfl)))
  rw [opsS_cons,List.length_append,h2,List.length_cons]
  omega
theorem good_counts {s w t r:Int} {L:List Ln} (h:goodS s w t r L=true) (hr:0≤r∧r≤255) (hL:∀ x∈L,Lnok x):netB (opsS t r L)=true∧(netV (opsS t r L)).length=(opsS t r L).length∧L.length≤(opsS t r L).length∧(opsS t r L).length≤6:=by
 obtain⟨hs,ht,h1,h3,hj,hw⟩:=good_parts h
 obtain⟨g1,g2⟩:=good_rise h
 have hn:=net_count (ops_nodup t r L g2) (fun o ho=>⟨(opsS_ok t r L hr hL o ho).1.2,(opsS_ok t r L hr hL o ho).2.2⟩)
 have:=opsS_len t r L
 exact⟨hn.1,hn.2,ops_least t r ht L g1,by omega⟩
abbrev Tk:=Int × Int × Int × Int
abbrev tk0:Tk:=(0,0,0,0)
def Tkok (x:Tk):Prop:=(0≤x.1∧x.1≤4294967295)∧(0≤x.2.1∧x.2.1≤255)∧(0≤x.2.2.1∧x.2.2.1≤255)∧In64 x.2.2.2
structure Pg where
 kind:Int
 order:Int
 policy:Int
 lines:List Ln
 takes:List Tk
 owes:List Ln
 sku:Int
 frm:Int
 to:Int
 qty:Int
deriving DecidableEq
structure Pgok (P:Pg):Prop where
 kind:0≤P.kind∧P.kind≤255
 order:0≤P.order∧P.order≤4294967295
 policy:0≤P.policy∧P.policy≤255
 lines:∀ x∈P.lines,Lnok x
 takes:∀ x∈P.takes,Tkok x
 owes:∀ x∈P.owes,Lnok x
 sku:0≤P.sku∧P.sku≤255
 frm:0≤P.frm∧P.frm≤255
 to:0≤P.to∧P.to≤255
 qty:In64 P.qty
def z1g (T:List Tk) (s:Int):List Int:=(T.filter fun x=>decide (x.2.1=s)).map (·.2.2.2)
def z0w (M:List Ln) (s:Int):List Int:=(M.filter fun x=>decide (x.1=s)).map (·.2)
def z1b (T:List Tk) (M:List Ln) (s:Int):Int:=z1a (z1g T s++z0w M s)
theorem tkparts_take (T:List Tk) (s:Int) (j:Nat) (h:j<T.length):z1g (T.take (j+1)) s=z1g (T.take j) s++(if (T.getD j tk0).2.1=s then [(T.getD j tk0).2.2.2] else []):=by
 unfold z1g
 rw [List.take_add_one,List.getElem?_eq_getElem h,List.filter_append,List.map_append]
 have e:T.getD j tk0=T[j]:=by simp [List.getD,List.getElem?_eq_getElem h]
 rw [e]
 by_cases hk:T[j].2.1=s <;> simp [hk]
theorem lnparts_take (M:List Ln) (s:Int) (j:Nat) (h:j<M.length):z0w (M.take (j+1)) s=z0w (M.take j) s++(if (M.getD j l0).1=s then [(M.getD j l0).2] else []):=by
 unfold z0w
 rw [List.take_add_one,List.getElem?_eq_getElem h,List.filter_append,List.map_append]
 have e:M.getD j l0=M[j]:=by simp [List.getD,List.getElem?_eq_getElem h]
 rw [e]
 by_cases hk:M[j].1=s <;> simp [hk]
theorem tkparts_in {T:List Tk} (h:∀ x∈T,Tkok x) (s:Int):∀ z∈z1g T s,In64 z:=by
 intro z hz
 obtain⟨x,hx,rfl⟩:=List.mem_map.1 hz
 exact (h x (List.mem_filter.1 hx).1).2.2.2
theorem lnparts_in {M:List Ln} (h:∀ x∈M,Lnok x) (s:Int):∀ z∈z0w M s,In64 z:=by
 intro z hz
 obtain⟨x,hx,rfl⟩:=List.mem_map.1 hz
 exact (h x (List.mem_filter.1 hx).1).2
def takeAt (s w o:Int) (T:List Tk) (j:Nat):Bool :=
 decide ((T.getD j tk0).1=o) && decide ((T.getD j tk0).2.1<s) && decide ((T.getD j tk0).2.2.1<w) && decide (1≤(T.getD j tk0).2.2.2) &&
 (decide (j=0) || decide ((T.getD (j-1) tk0).2.2.1<(T.getD j tk0).2.2.1) || (decide ((T.getD (j-1) tk0).2.2.1=(T.getD j tk0).2.2.1) && decide ((T.getD (j-1) tk0).2.1<(T.getD j tk0).2.1))) &&
 (decide (j<3) || decide ((T.getD (j-3) tk0).2.2.1≠(T.getD j tk0).2.2.1))
def z0p (s w o:Int) (T:List Tk):Bool:=(List.range T.length).all (takeAt s w o T) && decide (T.length≤12)
def coverAt (T:List Tk) (M L:List Ln) (s:Nat):Bool:=okB (z1b T M s) && okB (z1b [] L s) && decide (z1b T M s=z1b [] L s)
def coverB (T:List Tk) (M L:List Ln):Bool:=(List.range 4).all (coverAt T M L)
def fillAt (sk to:Int) (T:List Tk) (j:Nat):Bool :=
 decide ((T.getD j tk0).1≠0) && decide ((T.getD j tk0).2.1=sk) && decide ((T.getD j tk0).2.2.1=to) && decide (1≤(T.getD j tk0).2.2.2) && (List.range j).all fun k=>decide ((T.getD k tk0).1≠(T.getD j tk0).1)
def z1x (sk to q:Int) (T:List Tk):Bool:=(List.range T.length).all (fillAt sk to T) && (decide (T.length≤12) && okB (z1b T [] sk) && decide (z1b T [] sk≤q))
theorem fills_false (sk to q:Int) (T:List Tk) (j:Nat) (h:j<T.length) (hf:fillAt sk to T j=false):z1x sk to q T=false:=by
 unfold z1x
 cases hc:(List.range T.length).all (fillAt sk to T) with
 | false=>rfl
 | true =>
  have:=List.all_eq_true.1 hc j (List.mem_range.2 h)
  rw [hf] at this
  cases this
theorem fills_true (sk to q:Int) (T:List Tk) (h:∀ j,j<T.length→fillAt sk to T j=true):z1x sk to q T=(decide (T.length≤12) && okB (z1b T [] sk) && decide (z1b T [] sk≤q)):=by
 unfold z1x
 have:(List.range T.length).all (fillAt sk to T)=true:=by
  rw [List.all_eq_true]
  exact fun j hj=>h j (List.mem_range.1 hj)
 rw [this];rfl
def qofP (P:Pg):Pg :=
 if P.kind=1 then { P with sku:=0,frm:=0,to:=0,qty:=0 } else
 if P.kind=2 then { P with policy:=0,lines:=[],sku:=0,frm:=0,to:=0,qty:=0 } else
 if P.kind=3∨P.kind=4 then { P with policy:=0,lines:=[],owes:=[],sku:=0,frm:=0,to:=0,qty:=0 } else
 if P.kind=5 then { P with order:=0,policy:=0,lines:=[],owes:=[],frm:=0 } else
 { P with order:=0,policy:=0,lines:=[],takes:=[],owes:=[] }
def askP (s w:Int) (P:Pg):Bool :=
 if P.kind=1 then decide (P.order≠0) && decide (P.policy≤1) && decide (1≤P.lines.length) && z0l s P.lines && z0p s w P.order P.takes && z0l s P.owes && coverB P.takes P.owes P.lines && (decide (P.policy=0) || decide (P.owes.length=0)) else
 if P.kind=2 then decide (P.order≠0) && z0p s w P.order P.takes && z0l s P.owes && decide (1≤P.takes.length+P.owes.length) else
 if P.kind=3∨P.kind=4 then decide (P.order≠0) && z0p s w P.order P.takes && decide (1≤P.takes.length) else
 if P.kind=5 then decide (P.sku<s) && decide (P.to<w) && decide (1≤P.qty) && z1x P.sku P.to P.qty P.takes else
 if P.kind=6 then decide (P.sku<s) && decide (P.frm<w) && decide (P.to<w) && decide (P.frm≠P.to) && decide (1≤P.qty) else false
def z0s (s w:Int) (P:Pg):Bool:=z0o s w && askP s w P && decide (P=qofP P)
abbrev Stp:=Int × Int × List Ln
def atP (w:Int) (T:List Tk):List Ln:=(T.filter fun x=>decide (x.2.2.1=w)).map fun x=>(x.2.1,x.2.2.2)
theorem atP_take (w:Int) (T:List Tk) (j:Nat) (h:j<T.length):atP w (T.take (j+1))=atP w (T.take j)++(if (T.getD j tk0).2.2.1=w then [((T.getD j tk0).2.1,(T.getD j tk0).2.2.2)] else []):=by
 unfold atP
 rw [List.take_add_one,List.getElem?_eq_getElem h,List.filter_append,List.map_append]
 have e:T.getD j tk0=T[j]:=by simp [List.getD,List.getElem?_eq_getElem h]
 rw [e]
 by_cases hk:T[j].2.2.1=w <;> simp [hk]
def atS (t w:Int) (T:List Tk):List Stp:=if 1≤(atP w T).length then [(t,w,atP w T)] else []
def owesS (k:Int) (M:List Ln):List Stp:=if 1≤M.length∧k=1 then [(7,0,M)] else if 1≤M.length∧k=2 then [(8,0,M)] else []
def z0k (P:Pg):List Stp :=
 if z0s 4 4 P=true then
  if P.kind=5 then (5,P.to,[(P.sku,P.qty)])::(if 1≤P.takes.length then [(1,P.to,[(P.sku,z1b P.takes [] P.sku)]),(8,0,[(P.sku,z1b P.takes [] P.sku)])] else []) else
  if P.kind=6 then [(6,P.frm,[(P.sku,P.qty)]),(5,P.to,[(P.sku,P.qty)])] else
  (List.range 4).flatMap (fun w:Nat=>atS P.kind (w:Int) P.takes)++owesS P.kind P.owes
 else []
end Go.Proofs.YtclbkfpbdidaiaaDoor
