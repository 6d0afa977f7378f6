import Derived.Test.YtclbkfpbdidaiaaGreatDoorPC03
import Derived.Test.YtclbkfpbdidaiaaGreatDoorPC10
namespace Go.Proofs.YtclbkfpbdidaiaaGreatDoor
open Go.RowKit
set_option linter.unusedVariables false
set_option maxRecDepth 10000
abbrev O:=K × Int
abbrev o0:O:=((0,0,0),0)
def In64 (z:Int):Prop:=-9223372036854775808≤z∧z≤9223372036854775807
def Ook (o:O):Prop:=Kok o.1∧In64 o.2
def dsL (L:List O) (k:K):List Int:=(L.filter fun o=>decide (o.1=k)).map (·.2)
def q2b (L:List O):List K:=setL (L.map (·.1))
def sumO (L:List O) (k:K):Int:=z1h (dsL L k)
def netF (L:List O) (S:List K):List O:=(S.filter fun k=>decide (sumO L k≠0)).map fun k=>(k,sumO L k)
def netOk (L:List O) (S:List K):Bool:=S.all fun k=>okB (sumO L k)
def netB (L:List O):Bool:=netOk L (q2b L)
def netV (L:List O):List O:=if netB L=true then netF L (q2b L) else []
def negO (o:O):O:=(o.1,-o.2)
def negF (L:List O):List O:=(L.map negO).reverse
def negB (L:List O):Bool:=L.all fun o=>okB (-o.2)
def negV (L:List O):List O:=if negB L=true then negF L else []
theorem z3x (z:Int):okB z=true ↔ In64 z:=by unfold okB In64;exact decide_eq_true_iff
theorem dsL_append (L M:List O) (k:K):dsL (L++M) k=dsL L k++dsL M k:=by simp [dsL]
theorem dsL_one (o:O) (k:K):dsL [o] k=if o.1=k then [o.2] else []:=by
 by_cases h:o.1=k <;> simp [dsL,h]
theorem dsL_nil {L:List O} {k:K} (h:k ∉ L.map (·.1)):dsL L k=[]:=by
 unfold dsL
 rw [List.map_eq_nil_iff,List.filter_eq_nil_iff]
 intro o ho he
 exact h (List.mem_map.2 ⟨o,ho,by simpa using he⟩)
def q2q (L:List O) (j:Nat):List O:=negF (L.drop j)
theorem gathN_end (L:List O):q2q L 0=negF L:=by simp [q2q]
theorem gathN_len (L:List O) (j:Nat):(q2q L j).length=L.length-j:=by simp [q2q,negF]
theorem negB_false (L:List O) (j:Nat) (h:j<L.length) (hf:okB (-(L.getD j o0).2)=false):negB L=false:=by
 have e:L.getD j o0=L[j]:=by simp [List.getD,List.getElem?_eq_getElem h]
 rw [e] at hf
 cases hc:negB L with
 | false=>rfl
 | true =>
  have:=List.all_eq_true.1 hc L[j] (List.getElem_mem h)
  rw [hf] at this
  cases this
theorem negB_true (L:List O) (h:∀ j,j<L.length→okB (-(L.getD j o0).2)=true):negB L=true:=by
 unfold negB
 rw [List.all_eq_true]
 intro o ho
 obtain⟨j,hj,rfl⟩:=List.getElem_of_mem ho
 have:=h j hj
 simpa [List.getD,List.getElem?_eq_getElem hj] using this
abbrev Ln:=Int × Int
abbrev l0:Ln:=(0,0)
def Lnok (x:Ln):Prop:=(0≤x.1∧x.1≤255)∧In64 x.2
def oneS (t w:Int) (x:Ln):List O :=
 if t=1 then [((1,x.1,w),-x.2),((2,x.1,w),x.2)] else
 if t=2 then [((2,x.1,w),-x.2),((1,x.1,w),x.2)] else
 if t=3 then [((2,x.1,w),-x.2),((3,x.1,0),x.2)] else
 if t=4 then [((3,x.1,0),-x.2),((1,x.1,w),x.2)] else
 if t=5 then [((1,x.1,w),x.2)] else
 if t=6 then [((1,x.1,w),-x.2)] else
 if t=7 then [((4,x.1,0),x.2)] else
 if t=8 then [((4,x.1,0),-x.2)] else []
theorem z4n (t w:Int) (x:Ln) :
 (t=1∧oneS t w x=[((1,x.1,w),-x.2),((2,x.1,w),x.2)])∨(t=2∧oneS t w x=[((2,x.1,w),-x.2),((1,x.1,w),x.2)]) ∨
 (t=3∧oneS t w x=[((2,x.1,w),-x.2),((3,x.1,0),x.2)])∨(t=4∧oneS t w x=[((3,x.1,0),-x.2),((1,x.1,w),x.2)]) ∨
 (t=5∧oneS t w x=[((1,x.1,w),x.2)])∨(t=6∧oneS t w x=[((1,x.1,w),-x.2)]) ∨
 (t=7∧oneS t w x=[((4,x.1,0),x.2)])∨(t=8∧oneS t w x=[((4,x.1,0),-x.2)]) ∨
 ((t≠1∧t≠2∧t≠3∧t≠4∧t≠5∧t≠6∧t≠7∧t≠8)∧oneS t w x=[]):=by
 by_cases h1:t=1
 · subst h1;exact .inl ⟨rfl,rfl⟩
 by_cases h2:t=2
 · subst h2;exact .inr (.inl ⟨rfl,rfl⟩)
 by_cases h3:t=3
 · subst h3;exact .inr (.inr (.inl ⟨rfl,rfl⟩))
 by_cases h4:t=4
 · subst h4;exact .inr (.inr (.inr (.inl ⟨rfl,rfl⟩)))
 by_cases h5:t=5
 · subst h5;exact .inr (.inr (.inr (.inr (.inl ⟨rfl,rfl⟩))))
 by_cases h6:t=6
 · subst h6;exact .inr (.inr (.inr (.inr (.inr (.inl ⟨rfl,rfl⟩)))))
 by_cases h7:t=7
 · subst h7;exact .inr (.inr (.inr (.inr (.inr (.inr (.inl ⟨rfl,rfl⟩))))))
 by_cases h8:t=8
 · subst h8;exact .inr (.inr (.inr (.inr (.inr (.inr (.inr (.inl ⟨rfl,rfl⟩)))))))
 refine .inr (.inr (.inr (.inr (.inr (.inr (.inr (.inr ⟨⟨h1,h2,h3,h4,h5,h6,h7,h8⟩,?_⟩)))))))
 simp only [oneS,if_neg h1,if_neg h2,if_neg h3,if_neg h4,if_neg h5,if_neg h6,if_neg h7,if_neg h8]
def z6o (t w:Int) (x:Ln):List O:=if 1≤x.2 then oneS t w x else []
def opsS (t w:Int) (L:List Ln):List O:=L.flatMap (z6o t w)
theorem z8x (t w:Int) (x:Ln) (L:List Ln):opsS t w (x::L)=z6o t w x++opsS t w L:=List.flatMap_cons ..
theorem opsS_take (t w:Int) (L:List Ln) (j:Nat) (h:j<L.length):opsS t w (L.take (j+1))=opsS t w (L.take j)++z6o t w (L.getD j l0):=by
 unfold opsS
 rw [List.take_add_one,List.getElem?_eq_getElem h,List.flatMap_append]
 simp [List.getD,List.getElem?_eq_getElem h]
theorem opsS_nil (t w:Int) (L:List Ln):opsS t w (L.take 0)=[]:=by simp [opsS]
theorem one_len (t w:Int) (x:Ln):(oneS t w x).length≤2:=by
 rcases z4n t w x with ⟨_,h⟩ | ⟨_,h⟩ | ⟨_,h⟩ | ⟨_,h⟩ | ⟨_,h⟩ | ⟨_,h⟩ | ⟨_,h⟩ | ⟨_,h⟩ | ⟨_,h⟩ <;> rw [h] <;> simp
theorem item_len (t w:Int) (x:Ln):(z6o t w x).length≤2:=by
 unfold z6o
 split
 · exact one_len t w x
 · simp
theorem z9y (t w:Int):∀ L:List Ln,(opsS t w L).length≤2*L.length
 | []=>by simp [opsS]
 | x::L=>by
  have:=z9y t w L
  have:=item_len t w x
  rw [z8x,List.length_append,List.length_cons]
  omega
def Ook2 (o:O):Prop:=Ook o∧In64 (-o.2)∧o.2≠0
theorem item_ok (t w:Int) (x:Ln) (hw:0≤w∧w≤255) (hx:Lnok x):∀ o∈z6o t w x,Ook2 o:=by
 obtain⟨s,q⟩:=x
 obtain⟨⟨h0,h1⟩,h2,h3⟩:=hx
 dsimp only at h0 h1 h2 h3
 unfold z6o
 split
 · next hq =>
   dsimp only at hq
   have hb:∀ k d,Kok k→(d=q∨d = -q)→Ook2 (k,d):=fun k d hk hd=>⟨⟨hk,by dsimp only [In64];omega⟩,by dsimp only [In64];omega,by dsimp only;omega⟩
   have hk1:∀ a:Int,0≤a→a≤255→Kok (a,s,w):=fun a ha hb=>⟨⟨ha,hb⟩,⟨h0,h1⟩,hw⟩
   have hk0:∀ a:Int,0≤a→a≤255→Kok (a,s,0):=fun a ha hb=>⟨⟨ha,hb⟩,⟨h0,h1⟩,by dsimp only;omega⟩
   rcases z4n t w (s,q) with ⟨_,h⟩ | ⟨_,h⟩ | ⟨_,h⟩ | ⟨_,h⟩ | ⟨_,h⟩ | ⟨_,h⟩ | ⟨_,h⟩ | ⟨_,h⟩ | ⟨_,h⟩ <;> rw [h] <;> intro o ho <;> simp only [List.mem_cons,List.not_mem_nil,or_false] at ho
   all_goals (try rcases ho with rfl | rfl)
   all_goals (first | (subst ho) | skip)
   all_goals (refine hb _ _ ?_ (by first | exact .inl rfl | exact .inr rfl))
   all_goals (first | (apply hk1 <;> omega) | (apply hk0 <;> omega))
 · intro o ho;cases ho
theorem z8w (t w:Int) (L:List Ln) (hw:0≤w∧w≤255) (hL:∀ x∈L,Lnok x):∀ o∈opsS t w L,Ook2 o:=by
 intro o ho
 obtain⟨x,hx,hox⟩:=List.mem_flatMap.1 ho
 exact item_ok t w x hw (hL x hx) o hox
theorem negB_ops (t w:Int) (L:List Ln) (hw:0≤w∧w≤255) (hL:∀ x∈L,Lnok x):negB (opsS t w L)=true:=by
 unfold negB
 rw [List.all_eq_true]
 exact fun o ho=>(z3x _).2 (z8w t w L hw hL o ho).2.1
theorem ds_nodup:∀ L:List O,(L.map (·.1)).Nodup→∀ o∈L,dsL L o.1=[o.2]
 | [],_,o,ho=>by cases ho
 | x::T,h,o,ho=>by
  rw [List.map_cons] at h
  obtain⟨h1,h2⟩:=List.nodup_cons.1 h
  have e:x::T=[x]++T:=rfl
  rw [e,dsL_append,dsL_one]
  rcases List.mem_cons.1 ho with rfl | ho
  · rw [if_pos rfl,dsL_nil h1];rfl
  · have hne:x.1≠o.1:=fun e=>h1 (e ▸ List.mem_map.2 ⟨o,ho,rfl⟩)
    rw [if_neg hne,ds_nodup T h2 o ho];rfl
theorem ins_new (k:K):∀ L:List K,k ∉ L→(insK L k).length=L.length+1
 | [],_=>by simp [insK]
 | x::L,h=>by
  have ih:=ins_new k L (fun hk=>h (List.mem_cons.2 (.inr hk)))
  have hf:((x::L).filter fun y=>decide (y≠k))=x::L:=by
   rw [List.filter_eq_self]
   intro y hy
   simp only [decide_eq_true_eq]
   exact fun e=>h (e ▸ hy)
  unfold insK
  split
  · rw [List.length_cons,ih,List.length_cons]
  · rw [hf];simp
theorem set_nodup_to:∀ (L acc:List K),L.Nodup→(∀ x∈L,x ∉ acc)→(L.foldl insK acc).length=acc.length+L.length
 | [],acc,_,_=>by simp
 | k::L,acc,h,hd=>by
  obtain⟨h1,h2⟩:=List.nodup_cons.1 h
  have hk:=ins_new k acc (hd k (List.mem_cons.2 (.inl rfl)))
  have:=set_nodup_to L (insK acc k) h2 (fun x hx hi=>by
   rcases (q0d k x acc).1 hi with rfl | hi
   · exact h1 hx
   · exact hd x (List.mem_cons.2 (.inr hx)) hi)
  rw [List.foldl_cons,this,hk,List.length_cons]
  omega
theorem net_count {L:List O} (hn:(L.map (·.1)).Nodup) (hok:∀ o∈L,In64 o.2∧o.2≠0):netB L=true∧(netV L).length=L.length:=by
 have hsum:∀ o∈L,sumO L o.1=o.2:=fun o ho=>by unfold sumO;rw [ds_nodup L hn o ho];simp [z1h]
 have hkey:∀ k∈q2b L,∃ o∈L,o.1=k:=fun k hk=>by
  obtain⟨o,ho,h⟩:=List.mem_map.1 ((set_mem _ _).1 hk)
  exact⟨o,ho,h⟩
 have hb:netB L=true:=by
  unfold netB netOk
  rw [List.all_eq_true]
  intro k hk
  obtain⟨o,ho,rfl⟩:=hkey k hk
  rw [hsum o ho]
  exact (z3x _).2 (hok o ho).1
 refine⟨hb,?_⟩
 unfold netV
 rw [if_pos hb]
 unfold netF
 rw [List.length_map]
 have hf:((q2b L).filter fun k=>decide (sumO L k≠0))=q2b L:=by
  rw [List.filter_eq_self]
  intro k hk
  obtain⟨o,ho,rfl⟩:=hkey k hk
  rw [hsum o ho]
  simpa using (hok o ho).2
 rw [hf]
 have:=set_nodup_to (L.map (·.1)) [] hn (fun _ _ h=>by cases h)
 simpa [q2b,setL] using this
def z2e (s:Int) (L:List Ln) (j:Nat):Bool:=decide ((L.getD j l0).1<s) && decide (1≤(L.getD j l0).2) && (decide (j=0) || decide ((L.getD (j-1) l0).1<(L.getD j l0).1))
def z0q (s:Int) (L:List Ln):Bool:=(List.range L.length).all (z2e s L) && decide (L.length≤3)
def z3i (s w t r:Int) (L:List Ln):Bool:=z0m s w && decide (1≤t∧t≤8) && decide (1≤L.length) && z0q s L && (if 7≤t then decide (r=0) else decide (r<w))
theorem lines_false (s:Int) (L:List Ln) (j:Nat) (h:j<L.length) (hf:z2e s L j=false):z0q s L=false:=by
 unfold z0q
 cases hc:(List.range L.length).all (z2e s L) with
 | false=>rfl
 | true =>
  have:=List.all_eq_true.1 hc j (List.mem_range.2 h)
  rw [hf] at this
  cases this
theorem lines_true (s:Int) (L:List Ln) (h:∀ j,j<L.length→z2e s L j=true):z0q s L=decide (L.length≤3):=by
 unfold z0q
 have:(List.range L.length).all (z2e s L)=true:=by
  rw [List.all_eq_true]
  exact fun j hj=>h j (List.mem_range.1 hj)
 rw [this];rfl
def q2a (t:Int):Int:=if t=7∨t=8 then 4 else 1
theorem named_good (s w t r:Int) (x:Ln) (hr:0≤r) (ht:1≤t∧t≤8):z5o s w (q2a t) x.1 r=(z0m s w && decide (x.1<s) && (if 7≤t then decide (r=0) else decide (r<w))):=by
 unfold z5o q2a z6s
 by_cases h:t=7∨t=8
 · have h7:7≤t:=by omega
   rw [if_pos h,if_pos h7]
   congr 1
   simp
   omega
 · have h7:¬ 7≤t:=by omega
   rw [if_neg h,if_neg h7]
   simp
theorem z4v {s w t r:Int} {L:List Ln} (h:z3i s w t r L=true):z0m s w=true∧(1≤t∧t≤8)∧1≤L.length∧L.length≤3∧(∀ j,j<L.length→z2e s L j=true)∧(if 7≤t then r=0 else r<w):=by
 unfold z3i z0q at h
 simp only [Bool.and_eq_true,decide_eq_true_eq] at h
 obtain⟨⟨⟨⟨h1,h2⟩,h3⟩,h4,h5⟩,h6⟩:=h
 refine⟨h1,h2,h3,h5,fun j hj=>List.all_eq_true.1 h4 j (List.mem_range.2 hj),?_⟩
 split
 · next h7=>rw [if_pos h7] at h6;simpa using h6
 · next h7=>rw [if_neg h7] at h6;simpa using h6
theorem good_item {s w t r:Int} {L:List Ln} (h:z3i s w t r L=true) (hr:0≤r) (hL:∀ x∈L,Lnok x):∀ o∈opsS t r L,z5o s w o.1.1 o.1.2.1 o.1.2.2=true:=by
 obtain⟨hs,ht,h1,h3,hj,hw⟩:=z4v h
 intro o ho
 obtain⟨x,hx,hox⟩:=List.mem_flatMap.1 ho
 obtain⟨j,hjl,rfl⟩:=List.getElem_of_mem hx
 have e:L.getD j l0=L[j]:=by simp [List.getD,List.getElem?_eq_getElem hjl]
 have hlb:=hj j hjl
 unfold z2e at hlb
 rw [e] at hlb
 simp only [Bool.and_eq_true,decide_eq_true_eq] at hlb
 obtain⟨⟨hb1,hb2⟩,_⟩:=hlb
 unfold z6o at hox
 rw [if_pos hb2] at hox
 have hsz:1≤s∧s≤4∧1≤w∧w≤4:=by
  unfold z0m at hs
  simp only [Bool.and_eq_true,decide_eq_true_eq] at hs
  omega
 have hin:∀ a:Int,(a=1∨a=2)→t≤6→z5o s w a L[j].1 r=true:=fun a ha h6=>by
  rw [if_neg (by omega)] at hw
  unfold z5o z6s
  rw [hs,if_pos ha,decide_eq_true hb1,decide_eq_true hw];rfl
 have hout:∀ a:Int,(a=3∨a=4)→z5o s w a L[j].1 0=true:=fun a ha=>by
  unfold z5o z6s
  rw [hs,if_neg (by omega),if_pos ha,decide_eq_true hb1];rfl
 generalize L[j]=y at *
 rcases z4n t r y with ⟨h8,h⟩ | ⟨h8,h⟩ | ⟨h8,h⟩ | ⟨h8,h⟩ | ⟨h8,h⟩ | ⟨h8,h⟩ | ⟨h8,h⟩ | ⟨h8,h⟩ | ⟨h8,h⟩ <;> rw [h] at hox <;> simp only [List.mem_cons,List.not_mem_nil,or_false] at hox
 all_goals (try rcases hox with rfl | rfl)
 all_goals (first | (subst hox) | skip)
 all_goals dsimp only
 all_goals (first | (refine hin _ ?_ ?_ <;> omega) | (refine hout _ ?_;omega))
theorem good_rise {s w t r:Int} {L:List Ln} (h:z3i s w t r L=true):(∀ x∈L,1≤x.2)∧(L.map (·.1)).Pairwise (· < ·):=by
 obtain⟨hs,ht,h1,h3,hj,hw⟩:=z4v h
 have hat:∀ j (hjl:j<L.length),1≤L[j].2:=fun j hjl=>by
  have e:L.getD j l0=L[j]:=by simp [List.getD,List.getElem?_eq_getElem hjl]
  have hlb:=hj j hjl
  unfold z2e at hlb
  rw [e] at hlb
  simp only [Bool.and_eq_true,decide_eq_true_eq] at hlb
  obtain⟨⟨_,h2⟩,_⟩:=hlb
  exact h2
 have hup:∀ j (hjl:j+1<L.length),L[j].1<L[j+1].1:=fun j hjl=>by
  have e:L.getD (j+1) l0=L[j+1]:=by simp [List.getD,List.getElem?_eq_getElem hjl]
  have e2:L.getD j l0=L[j]:=by simp [List.getD,List.getElem?_eq_getElem (show j<L.length by omega)]
  have hlb:=hj (j+1) hjl
  unfold z2e at hlb
  rw [show j+1-1=j from rfl,e,e2] at hlb
  simp only [Bool.and_eq_true,Bool.or_eq_true,decide_eq_true_eq] at hlb
  omega
 refine⟨fun x hx=>?_,?_⟩
 · obtain⟨j,hjl,rfl⟩:=List.getElem_of_mem hx
   exact hat j hjl
 · clear hat hj h
   match L,h1,h3,hup with
   | [a],_,_,_=>simp
   | [a,b],_,_,hup =>
    have:=hup 0 (by simp)
    simpa using this
   | [a,b,c],_,_,hup =>
    have h01:=hup 0 (by simp)
    have h12:=hup 1 (by simp)
    simp at h01 h12
    simp
    omega
theorem z8m (t r:Int) (x:Ln):(((oneS t r x).map (·.1)).Nodup)∧(∀ o∈oneS t r x,o.1.2.1=x.1)∧((1≤t∧t≤8)→1≤(oneS t r x).length):=by
 rcases z4n t r x with ⟨h8,h⟩ | ⟨h8,h⟩ | ⟨h8,h⟩ | ⟨h8,h⟩ | ⟨h8,h⟩ | ⟨h8,h⟩ | ⟨h8,h⟩ | ⟨h8,h⟩ | ⟨h8,h⟩ <;> rw [h] <;> refine⟨by simp,?_,?_⟩
 all_goals (try (intro o ho;simp only [List.mem_cons,List.not_mem_nil,or_false] at ho))
 all_goals (try (rcases ho with rfl | rfl))
 all_goals (try rfl)
 all_goals (try (subst ho;rfl))
 all_goals (intro h9;first | (simp;done) | (exfalso;omega))
theorem ops_nodup (t r:Int):∀ L:List Ln,(L.map (·.1)).Pairwise (· < ·)→((opsS t r L).map (·.1)).Nodup
 | [],_=>by simp [opsS]
 | x::L,h=>by
  rw [List.map_cons,List.pairwise_cons] at h
  have ih:=ops_nodup t r L h.2
  rw [z8x,List.map_append]
  refine List.nodup_append.2 ⟨?_,ih,?_⟩
  · unfold z6o
    split
    · exact (z8m t r x).1
    · simp
  · intro a ha b hb e
    subst e
    obtain⟨o,ho,rfl⟩:=List.mem_map.1 ha
    obtain⟨u,hu,he⟩:=List.mem_map.1 hb
    obtain⟨y,hy,huy⟩:=List.mem_flatMap.1 hu
    have e1:o.1.2.1=x.1:=by
     unfold z6o at ho
     split at ho
     · exact (z8m t r x).2.1 o ho
     · cases ho
    have e2:u.1.2.1=y.1:=by
     unfold z6o at huy
     split at huy
     · exact (z8m t r y).2.1 u huy
     · cases huy
    have:=h.1 y.1 (List.mem_map.2 ⟨y,hy,rfl⟩)
    rw [← e1,← e2,he] at this
    omega
theorem ops_least (t r:Int) (ht:1≤t∧t≤8):∀ L:List Ln,(∀ x∈L,1≤x.2)→L.length≤(opsS t r L).length
 | [],_=>by simp
 | x::L,h=>by
  have ih:=ops_least t r ht L fun y hy=>h y (List.mem_cons.2 (.inr hy))
  have h1:=(z8m t r x).2.2 ht
  have h2:z6o t r x=oneS t r x:=if_pos (h x (List.mem_cons.2 (.inl rfl)))
  rw [z8x,List.length_append,h2,List.length_cons]
  omega
theorem good_counts {s w t r:Int} {L:List Ln} (h:z3i s w t r L=true) (hr:0≤r∧r≤255) (hL:∀ x∈L,Lnok x):netB (opsS t r L)=true∧(netV (opsS t r L)).length=(opsS t r L).length∧L.length≤(opsS t r L).length∧(opsS t r L).length≤6:=by
 obtain⟨hs,ht,h1,h3,hj,hw⟩:=z4v h
 obtain⟨g1,g2⟩:=good_rise h
 have hn:=net_count (ops_nodup t r L g2) (fun o ho=>⟨(z8w t r L hr hL o ho).1.2,(z8w t r L hr hL o ho).2.2⟩)
 have:=z9y t r L
 exact⟨hn.1,hn.2,ops_least t r ht L g1,by omega⟩
abbrev Tk:=Int × Int × Int × Int
abbrev tk0:Tk:=(0,0,0,0)
def Tkok (x:Tk):Prop:=(0≤x.1∧x.1≤4294967295)∧(0≤x.2.1∧x.2.1≤255)∧(0≤x.2.2.1∧x.2.2.1≤255)∧In64 x.2.2.2
structure Pg where
 kind:Int
 order:Int
 policy:Int
 lines:List Ln
 takes:List Tk
 owes:List Ln
 sku:Int
 frm:Int
 to:Int
 qty:Int
deriving DecidableEq
structure Pgok (P:Pg):Prop where
 kind:0≤P.kind∧P.kind≤255
 order:0≤P.order∧P.order≤4294967295
 policy:0≤P.policy∧P.policy≤255
 lines:∀ x∈P.lines,Lnok x
 takes:∀ x∈P.takes,Tkok x
 owes:∀ x∈P.owes,Lnok x
 sku:0≤P.sku∧P.sku≤255
 frm:0≤P.frm∧P.frm≤255
 to:0≤P.to∧P.to≤255
 qty:In64 P.qty
def z1f (T:List Tk) (s:Int):List Int:=(T.filter fun x=>decide (x.2.1=s)).map (·.2.2.2)
def z0z (M:List Ln) (s:Int):List Int:=(M.filter fun x=>decide (x.1=s)).map (·.2)
def z1c (T:List Tk) (M:List Ln) (s:Int):Int:=z1h (z1f T s++z0z M s)
theorem tkparts_take (T:List Tk) (s:Int) (j:Nat) (h:j<T.length):z1f (T.take (j+1)) s=z1f (T.take j) s++(if (T.getD j tk0).2.1=s then [(T.getD j tk0).2.2.2] else []):=by
 unfold z1f
 rw [List.take_add_one,List.getElem?_eq_getElem h,List.filter_append,List.map_append]
 have e:T.getD j tk0=T[j]:=by simp [List.getD,List.getElem?_eq_getElem h]
 rw [e]
 by_cases hk:T[j].2.1=s <;> simp [hk]
theorem z4c (M:List Ln) (s:Int) (j:Nat) (h:j<M.length):z0z (M.take (j+1)) s=z0z (M.take j) s++(if (M.getD j l0).1=s then [(M.getD j l0).2] else []):=by
 unfold z0z
 rw [List.take_add_one,List.getElem?_eq_getElem h,List.filter_append,List.map_append]
 have e:M.getD j l0=M[j]:=by simp [List.getD,List.getElem?_eq_getElem h]
 rw [e]
 by_cases hk:M[j].1=s <;> simp [hk]
theorem tkparts_in {T:List Tk} (h:∀ x∈T,Tkok x) (s:Int):∀ z∈z1f T s,In64 z:=by
 intro z hz
 obtain⟨x,hx,rfl⟩:=List.mem_map.1 hz
 exact (h x (List.mem_filter.1 hx).1).2.2.2
theorem z7x {M:List Ln} (h:∀ x∈M,Lnok x) (s:Int):∀ z∈z0z M s,In64 z:=by
 intro z hz
 obtain⟨x,hx,rfl⟩:=List.mem_map.1 hz
 exact (h x (List.mem_filter.1 hx).1).2
def z6v (s w o:Int) (T:List Tk) (j:Nat):Bool :=
 decide ((T.getD j tk0).1=o) && decide ((T.getD j tk0).2.1<s) && decide ((T.getD j tk0).2.2.1<w) && decide (1≤(T.getD j tk0).2.2.2) &&
 (decide (j=0) || decide ((T.getD (j-1) tk0).2.2.1<(T.getD j tk0).2.2.1) || (decide ((T.getD (j-1) tk0).2.2.1=(T.getD j tk0).2.2.1) && decide ((T.getD (j-1) tk0).2.1<(T.getD j tk0).2.1))) &&
 (decide (j<3) || decide ((T.getD (j-3) tk0).2.2.1≠(T.getD j tk0).2.2.1))
def z0s (s w o:Int) (T:List Tk):Bool:=(List.range T.length).all (z6v s w o T) && decide (T.length≤12)
theorem takes_false (s w o:Int) (T:List Tk) (j:Nat) (h:j<T.length) (hf:z6v s w o T j=false):z0s s w o T=false:=by
 unfold z0s
 cases hc:(List.range T.length).all (z6v s w o T) with
 | false=>rfl
 | true =>
  have:=List.all_eq_true.1 hc j (List.mem_range.2 h)
  rw [hf] at this
  cases this
theorem takes_true (s w o:Int) (T:List Tk) (h:∀ j,j<T.length→z6v s w o T j=true):z0s s w o T=decide (T.length≤12):=by
 unfold z0s
 have:(List.range T.length).all (z6v s w o T)=true:=by
  rw [List.all_eq_true]
  exact fun j hj=>h j (List.mem_range.1 hj)
 rw [this];rfl
def z3y (T:List Tk) (M L:List Ln) (s:Nat):Bool:=okB (z1c T M s) && okB (z1c [] L s) && decide (z1c T M s=z1c [] L s)
def z2i (T:List Tk) (M L:List Ln):Bool:=(List.range 4).all (z3y T M L)
theorem cover_false (T:List Tk) (M L:List Ln) (j:Nat) (h:j<4) (hf:z3y T M L j=false):z2i T M L=false:=by
 unfold z2i
 cases hc:(List.range 4).all (z3y T M L) with
 | false=>rfl
 | true =>
  have:=List.all_eq_true.1 hc j (List.mem_range.2 h)
  rw [hf] at this
  cases this
theorem cover_true (T:List Tk) (M L:List Ln) (h:∀ j,j<4→z3y T M L j=true):z2i T M L=true:=by
 unfold z2i
 rw [List.all_eq_true]
 exact fun j hj=>h j (List.mem_range.1 hj)
def z4f (sk to:Int) (T:List Tk) (j:Nat):Bool :=
 decide ((T.getD j tk0).1≠0) && decide ((T.getD j tk0).2.1=sk) && decide ((T.getD j tk0).2.2.1=to) && decide (1≤(T.getD j tk0).2.2.2) && (List.range j).all fun k=>decide ((T.getD k tk0).1≠(T.getD j tk0).1)
def z2c (sk to q:Int) (T:List Tk):Bool:=(List.range T.length).all (z4f sk to T) && (decide (T.length≤12) && okB (z1c T [] sk) && decide (z1c T [] sk≤q))
theorem fills_false (sk to q:Int) (T:List Tk) (j:Nat) (h:j<T.length) (hf:z4f sk to T j=false):z2c sk to q T=false:=by
 unfold z2c
 cases hc:(List.range T.length).all (z4f sk to T) with
 | false=>rfl
 | true =>
  have:=List.all_eq_true.1 hc j (List.mem_range.2 h)
  rw [hf] at this
  cases this
theorem fills_true (sk to q:Int) (T:List Tk) (h:∀ j,j<T.length→z4f sk to T j=true):z2c sk to q T=(decide (T.length≤12) && okB (z1c T [] sk) && decide (z1c T [] sk≤q)):=by
 unfold z2c
 have:(List.range T.length).all (z4f sk to T)=true:=by
  rw [List.all_eq_true]
  exact fun j hj=>h j (List.mem_range.1 hj)
 rw [this];rfl
def qofP (P:Pg):Pg :=
 if P.kind=1 then { P with sku:=0,frm:=0,to:=0,qty:=0 } else
 if P.kind=2 then { P with policy:=0,lines:=[],sku:=0,frm:=0,to:=0,qty:=0 } else
 if P.kind=3∨P.kind=4 then { P with policy:=0,lines:=[],owes:=[],sku:=0,frm:=0,to:=0,qty:=0 } else
 if P.kind=5 then { P with order:=0,policy:=0,lines:=[],owes:=[],frm:=0 } else
 { P with order:=0,policy:=0,lines:=[],takes:=[],owes:=[] }
def askP (s w:Int) (P:Pg):Bool :=
 if P.kind=1 then decide (P.order≠0) && decide (P.policy≤1) && decide (1≤P.lines.length) && z0q s P.lines && z0s s w P.order P.takes && z0q s P.owes && z2i P.takes P.owes P.lines && (decide (P.policy=0) || decide (P.owes.length=0)) else
 if P.kind=2 then decide (P.order≠0) && z0s s w P.order P.takes && z0q s P.owes && decide (1≤P.takes.length+P.owes.length) else
 if P.kind=3∨P.kind=4 then decide (P.order≠0) && z0s s w P.order P.takes && decide (1≤P.takes.length) else
 if P.kind=5 then decide (P.sku<s) && decide (P.to<w) && decide (1≤P.qty) && z2c P.sku P.to P.qty P.takes else
 if P.kind=6 then decide (P.sku<s) && decide (P.frm<w) && decide (P.to<w) && decide (P.frm≠P.to) && decide (1≤P.qty) else false
def z0l (s w:Int) (P:Pg):Bool:=z0m s w && askP s w P && decide (P=qofP P)
abbrev Stp:=Int × Int × List Ln
def atP (w:Int) (T:List Tk):List Ln:=(T.filter fun x=>decide (x.2.2.1=w)).map fun x=>(x.2.1,x.2.2.2)
theorem q0m (w:Int) (T:List Tk) (j:Nat) (h:j<T.length):atP w (T.take (j+1))=atP w (T.take j)++(if (T.getD j tk0).2.2.1=w then [((T.getD j tk0).2.1,(T.getD j tk0).2.2.2)] else []):=by
 unfold atP
 rw [List.take_add_one,List.getElem?_eq_getElem h,List.filter_append,List.map_append]
 have e:T.getD j tk0=T[j]:=by simp [List.getD,List.getElem?_eq_getElem h]
 rw [e]
 by_cases hk:T[j].2.2.1=w <;> simp [hk]
def atS (t w:Int) (T:List Tk):List Stp:=if 1≤(atP w T).length then [(t,w,atP w T)] else []
def z7a (k:Int) (M:List Ln):List Stp:=if 1≤M.length∧k=1 then [(7,0,M)] else if 1≤M.length∧k=2 then [(8,0,M)] else []
def z0k (P:Pg):List Stp :=
 if z0l 4 4 P=true then
  if P.kind=5 then (5,P.to,[(P.sku,P.qty)])::(if 1≤P.takes.length then [(1,P.to,[(P.sku,z1c P.takes [] P.sku)]),(8,0,[(P.sku,z1c P.takes [] P.sku)])] else []) else
  if P.kind=6 then [(6,P.frm,[(P.sku,P.qty)]),(5,P.to,[(P.sku,P.qty)])] else
  (List.range 4).flatMap (fun w:Nat=>atS P.kind (w:Int) P.takes)++z7a P.kind P.owes
 else []
def lnT (x:Tk):Ln:=(x.2.1,x.2.2.2)
def z6p (t:Int) (S:List Stp) (x:Tk):List Stp :=
 match S.getLast? with
 | some l=>if l.2.1=x.2.2.1 then S.dropLast ++ [(l.1,l.2.1,l.2.2 ++ [lnT x])] else S ++ [(t,x.2.2.1,[lnT x])]
 | none=>[(t,x.2.2.1,[lnT x])]
def z1a (t:Int) (T:List Tk):List Stp:=T.foldl (z6p t) []
theorem z6d (t:Int) (S:List Stp) (l:Stp) (x:Tk) (h:l.2.1=x.2.2.1):z6p t (S ++ [l]) x=S ++ [(l.1,l.2.1,l.2.2 ++ [lnT x])]:=by
 unfold z6p
 rw [List.getLast?_concat]
 simp [h]
theorem z7j (t:Int) (S:List Stp) (l:Stp) (x:Tk) (h:l.2.1≠x.2.2.1):z6p t (S ++ [l]) x=S ++ [l] ++ [(t,x.2.2.1,[lnT x])]:=by
 unfold z6p
 rw [List.getLast?_concat]
 simp [h]
theorem z3n (t:Int) (T:List Tk) (j:Nat) (h:j<T.length):z1a t (T.take (j+1))=z6p t (z1a t (T.take j)) (T.getD j tk0):=by
 unfold z1a
 rw [List.take_add_one,List.getElem?_eq_getElem h,List.foldl_append]
 simp [List.getD,List.getElem?_eq_getElem h]
structure Run (t:Int) (T:List Tk) (j:Nat) (S:List Stp) (L:List Ln) (q:Nat):Prop where
 eq:z1a t (T.take j)=S ++ [(t,(T.getD (j-1) tk0).2.2.1,L)]
 len:L.length=q
 one:1≤q
 le:q≤j
 same:∀ i,i<q→(T.getD (j-1-i) tk0).2.2.1=(T.getD (j-1) tk0).2.2.1
 last:L.getD (q-1) l0=lnT (T.getD (j-1) tk0)
 stop:q<j→(T.getD (j-1-q) tk0).2.2.1≠(T.getD (j-1) tk0).2.2.1
theorem z7l {α:Type} (L:List α) (x d:α):(L ++ [x]).getD L.length d=x:=by simp [List.getD]
theorem z4w {α:Type} (L M:List α) (d:α) (j:Nat) (h:j<L.length):(L++M).getD j d=L.getD j d:=by
 simp [List.getD,List.getElem?_append_left h]
theorem z9u (t:Int) (T:List Tk):∀ j,1≤j→j≤T.length→∃ S L q,Run t T j S L q
 | 0,h,_=>by omega
 | 1,_,h=>by
  refine⟨[],[lnT (T.getD 0 tk0)],1,?_,rfl,Nat.le_refl _,Nat.le_refl _,fun i hi=>?_,rfl,fun h=>by omega⟩
  · rw [z3n t T 0 h];rfl
  · obtain rfl:i=0:=by omega
    rfl
 | j+2,_,h=>by
  obtain⟨S,L,q,R⟩:=z9u t T (j+1) (by omega) (by omega)
  have he:=z3n t T (j+1) (by omega)
  have e1:j+1-1=j:=rfl
  have e2:j+2-1=j+1:=rfl
  have hR:=R.eq
  have hsame:=R.same
  have hlast:=R.last
  have hstop:=R.stop
  have hlen:=R.len
  have hle:=R.le
  have hone:=R.one
  rw [e1] at hR hsame hlast hstop
  by_cases hw:(T.getD j tk0).2.2.1=(T.getD (j+1) tk0).2.2.1
  · refine⟨S,L ++ [lnT (T.getD (j+1) tk0)],q+1,?_,by simp [hlen],by omega,by omega,fun i hi=>?_,?_,fun hq=>?_⟩
    · rw [he,hR,z6d t S _ _ hw,e2,← hw]
    · rw [e2]
      cases i with
      | zero=>rfl
      | succ i =>
       have:j+1-(i+1)=j-i:=by omega
       rw [this,← hw]
       exact hsame i (by omega)
    · rw [e2,Nat.add_sub_cancel,← hlen,z7l]
    · rw [e2]
      have:j+1-(q+1)=j-q:=by omega
      rw [this,← hw]
      exact hstop (by omega)
  · refine⟨S ++ [(t,(T.getD j tk0).2.2.1,L)],[lnT (T.getD (j+1) tk0)],1,?_,rfl,Nat.le_refl _,by omega,fun i hi=>?_,rfl,fun hq=>?_⟩
    · rw [he,hR,z7j t S _ _ hw,e2]
    · obtain rfl:i=0:=by omega
      rfl
    · rw [e2]
      exact hw
def z3o (s w:Int) (S:List Stp) (j:Nat):Bool:=(decide (j=0) || decide ((S.getD (j-1) (0,0,[])).2.1<(S.getD j (0,0,[])).2.1)) && z3i s w (S.getD j (0,0,[])).1 (S.getD j (0,0,[])).2.1 (S.getD j (0,0,[])).2.2
def z9h (s w:Int) (S:List Stp):Prop:=∀ j,j<S.length→z3o s w S j=true
theorem house_left (s w:Int) (S M:List Stp) (j:Nat) (h:j<S.length):z3o s w (S++M) j=z3o s w S j:=by
 unfold z3o
 rw [z4w S M _ j h,z4w S M _ (j-1) (by omega)]
theorem z4s (s w:Int) (S:List Stp) (l:Stp):z9h s w (S ++ [l]) ↔ z9h s w S∧(S=[]∨((S.getD (S.length-1) (0,0,[])).2.1<l.2.1))∧z3i s w l.1 l.2.1 l.2.2=true:=by
 have hl:z3o s w (S ++ [l]) S.length=((decide (S=[]) || decide ((S.getD (S.length-1) (0,0,[])).2.1<l.2.1)) && z3i s w l.1 l.2.1 l.2.2):=by
  unfold z3o
  rw [z7l]
  by_cases h0:S=[]
  · subst h0;simp
  · have:S.length≠0:=fun h=>h0 (List.eq_nil_of_length_eq_zero h)
    rw [z4w S [l] _ (S.length-1) (by omega)]
    simp [h0]
 constructor
 · intro h
   have h2:=h S.length (by simp)
   rw [hl] at h2
   simp only [Bool.and_eq_true,Bool.or_eq_true,decide_eq_true_eq] at h2
   exact⟨fun j hj=>by rw [← house_left s w S [l] j hj];exact h j (by simp;omega),h2.1,h2.2⟩
 · rintro ⟨h1,h2,h3⟩ j hj
   by_cases hjl:j<S.length
   · rw [house_left s w S [l] j hjl];exact h1 j hjl
   · obtain rfl:j=S.length:=by simp at hj;omega
     rw [hl]
     simp only [Bool.and_eq_true,Bool.or_eq_true,decide_eq_true_eq]
     exact⟨h2,h3⟩
def z6l (s w:Int) (T:List Tk) (j:Nat):Prop :=
 (T.getD j tk0).2.1<s∧(T.getD j tk0).2.2.1<w∧1≤(T.getD j tk0).2.2.2 ∧
 (j=0∨(T.getD (j-1) tk0).2.2.1<(T.getD j tk0).2.2.1∨((T.getD (j-1) tk0).2.2.1=(T.getD j tk0).2.2.1∧(T.getD (j-1) tk0).2.1<(T.getD j tk0).2.1)) ∧
 (j<3∨(T.getD (j-3) tk0).2.2.1≠(T.getD j tk0).2.2.1)
theorem z6x {s w:Int} {T:List Tk} {j:Nat} (h:∀ i,i<j→z6l s w T i):∀ k,k<j→(T.getD (j-1-k) tk0).2.2.1≤(T.getD (j-1) tk0).2.2.1
 | 0,_=>Int.le_refl _
 | k+1,hk=>by
  have h1:=z6x h k (by omega)
  have h2:=(h (j-1-k) (by omega)).2.2.2.1
  have e:j-1-k-1=j-1-(k+1):=by omega
  rw [e] at h2
  omega
theorem q0g (s w t r:Int) (x:Ln) (hs:z0m s w=true) (ht:1≤t∧t≤6):z3i s w t r [x]=true ↔ x.1<s∧1≤x.2∧r<w:=by
 unfold z3i
 rw [hs,decide_eq_true (show 1≤t∧t≤8 by omega),if_neg (show ¬ 7≤t by omega)]
 simp [z0q,z2e,List.range_succ]
 omega
theorem lines_snoc (s:Int) (L:List Ln) (x:Ln) (h1:1≤L.length):z0q s (L ++ [x])=true ↔ z0q s L=true∧x.1<s∧1≤x.2∧(L.getD (L.length-1) l0).1<x.1∧L.length+1≤3:=by
 have hl:∀ j,j<L.length→z2e s (L ++ [x]) j=z2e s L j:=fun j hj=>by
  unfold z2e
  rw [z4w L [x] _ j hj,z4w L [x] _ (j-1) (by omega)]
 have hx:z2e s (L ++ [x]) L.length=(decide (x.1<s) && decide (1≤x.2) && decide ((L.getD (L.length-1) l0).1<x.1)):=by
  unfold z2e
  rw [z7l,z4w L [x] _ (L.length-1) (by omega),decide_eq_false (show ¬ L.length=0 by omega),Bool.false_or]
 have hall:(List.range (L ++ [x]).length).all (z2e s (L ++ [x]))=((List.range L.length).all (z2e s L) && z2e s (L ++ [x]) L.length):=by
  rw [List.length_append,List.length_singleton,List.range_succ,List.all_append]
  congr 1
  · rw [Bool.eq_iff_iff,List.all_eq_true,List.all_eq_true]
    constructor
    · intro h j hj;rw [← hl j (List.mem_range.1 hj)];exact h j hj
    · intro h j hj;rw [hl j (List.mem_range.1 hj)];exact h j hj
  · simp
 unfold z0q
 rw [hall,hx]
 simp only [Bool.and_eq_true,decide_eq_true_eq,List.length_append,List.length_singleton]
 constructor
 · rintro ⟨⟨h1,⟨h2,h3⟩,h4⟩,h5⟩;exact⟨⟨h1,by omega⟩,h2,h3,h4,h5⟩
 · rintro ⟨⟨h1,_⟩,h2,h3,h4,h5⟩;exact⟨⟨h1,⟨h2,h3⟩,h4⟩,h5⟩
theorem good_snoc (s w t r:Int) (L:List Ln) (x:Ln) (h1:1≤L.length):z3i s w t r (L ++ [x])=true ↔ z3i s w t r L=true∧x.1<s∧1≤x.2∧(L.getD (L.length-1) l0).1<x.1∧L.length+1≤3:=by
 have h:=lines_snoc s L x h1
 unfold z3i
 simp only [Bool.and_eq_true,decide_eq_true_eq,List.length_append,List.length_singleton]
 rw [h]
 constructor
 · rintro ⟨⟨⟨⟨a,b⟩,c⟩,d,e⟩,f⟩;exact⟨⟨⟨⟨⟨a,b⟩,h1⟩,d⟩,f⟩,e⟩
 · rintro ⟨⟨⟨⟨⟨a,b⟩,c⟩,d⟩,f⟩,e⟩;exact⟨⟨⟨⟨a,b⟩,by omega⟩,d,e⟩,f⟩
theorem z6q (s w t:Int) (T:List Tk) (hs:z0m s w=true) (ht:1≤t∧t≤6):∀ j,j≤T.length→(z9h s w (z1a t (T.take j)) ↔ ∀ i,i<j→z6l s w T i)
 | 0,_=>by
  constructor
  · intro _ i hi;omega
  · intro _ i hi
    simp [z1a] at hi
 | 1,h=>by
  rw [z3n t T 0 h]
  have e:z6p t (z1a t (T.take 0)) (T.getD 0 tk0)=[] ++ [(t,(T.getD 0 tk0).2.2.1,[lnT (T.getD 0 tk0)])]:=rfl
  rw [e,z4s]
  dsimp only
  rw [q0g s w t _ _ hs ht]
  constructor
  · rintro ⟨_,_,h1,h2,h3⟩ i hi
    obtain rfl:i=0:=by omega
    exact⟨h1,h3,h2,.inl rfl,.inl (by omega)⟩
  · intro h
    obtain⟨h1,h2,h3,_⟩:=h 0 (by omega)
    exact⟨fun i hi=>absurd hi (Nat.not_lt_zero i),.inl rfl,h1,h3,h2⟩
 | j+2,h=>by
  have ih:=z6q s w t T hs ht (j+1) (by omega)
  obtain⟨S,L,q,R⟩:=z9u t T (j+1) (by omega) (by omega)
  have hR:=R.eq
  have hsame:=R.same
  have hlast:=R.last
  have hstop:=R.stop
  have hlen:=R.len
  have hle:=R.le
  have hone:=R.one
  have e1:j+1-1=j:=rfl
  rw [e1] at hR hsame hlast hstop
  rw [z3n t T (j+1) (by omega)]
  rw [hR] at ih
  have hsplit:(∀ i,i<j+2→z6l s w T i) ↔ (∀ i,i<j+1→z6l s w T i)∧z6l s w T (j+1):=by
   constructor
   · intro h;exact⟨fun i hi=>h i (by omega),h (j+1) (by omega)⟩
   · rintro ⟨h1,h2⟩ i hi
     by_cases hij:i<j+1
     · exact h1 i hij
     · obtain rfl:i=j+1:=by omega
       exact h2
  rw [hsplit,← ih,hR]
  by_cases hw:(T.getD j tk0).2.2.1=(T.getD (j+1) tk0).2.2.1
  · rw [z6d t S _ _ hw]
    dsimp only
    rw [z4s,z4s]
    dsimp only
    rw [good_snoc s w t _ L _ (by omega),hlen,hlast]
    unfold lnT z6l
    dsimp only
    have e3:j+1-3=j-2:=by omega
    try simp only [e1,e3]
    constructor
    · rintro ⟨a,b,c,d,e,f,g⟩
      refine⟨⟨a,b,c⟩,d,?_,e,.inr (.inr ⟨hw,f⟩),?_⟩
      · have:=(z4v c).2.2.2.2.2
        rw [if_neg (by omega)] at this
        omega
      · by_cases h3:j+1<3
        · exact .inl h3
        · refine .inr fun hc=>?_
          have hall:=ih.1 ((z4s s w S _).2 ⟨a,b,c⟩)
          have r1:=z6x hall 1 (by omega)
          have r2:=(hall (j-1) (by omega)).2.2.2.1
          rw [e1] at r1
          have e2:j-1-1=j-2:=by omega
          rw [e2] at r2
          rcases (by omega:q=1∨q=2) with rfl | rfl
          · exact hstop (by omega) (by omega)
          · exact hstop (by omega) (by omega)
    · rintro ⟨⟨a,b,c⟩,d,d2,e,f,g⟩
      refine⟨a,b,c,d,e,by omega,?_⟩
      by_cases hq:q+1≤3
      · exact hq
      · have:=hsame 2 (by omega)
        omega
  · rw [z7j t S _ _ hw,z4s]
    dsimp only
    rw [q0g s w t _ _ hs ht]
    have hg:(S ++ [((t,(T.getD j tk0).2.2.1,L):Stp)]).getD ((S ++ [((t,(T.getD j tk0).2.2.1,L):Stp)]).length-1) (0,0,[])=(t,(T.getD j tk0).2.2.1,L):=by
     rw [List.length_append,List.length_singleton,Nat.add_sub_cancel,z7l]
    rw [hg]
    unfold lnT z6l
    dsimp only
    have e3:j+1-3=j-2:=by omega
    try simp only [e1,e3]
    constructor
    · rintro ⟨a,b,c,d,e⟩
      have hb:(T.getD j tk0).2.2.1<(T.getD (j+1) tk0).2.2.1:=by
       rcases b with b | b
       · simp at b
       · exact b
      refine⟨a,c,e,d,.inr (.inl hb),?_⟩
      by_cases h3:j+1<3
      · exact .inl h3
      · have hall:=ih.1 a
        have r1:=z6x hall 2 (by omega)
        rw [e1] at r1
        exact .inr (by omega)
    · rintro ⟨a,c,e,d,f,_⟩
      exact⟨a,.inr (by omega),c,d,e⟩
theorem z3v (s w o:Int) (T:List Tk):z0s s w o T=true ↔ T.length≤12∧(∀ j,j<T.length→(T.getD j tk0).1=o)∧∀ j,j<T.length→z6l s w T j:=by
 unfold z0s
 rw [Bool.and_eq_true,List.all_eq_true]
 simp only [List.mem_range,decide_eq_true_eq]
 have:∀ j,z6v s w o T j=true ↔ (T.getD j tk0).1=o∧z6l s w T j:=fun j=>by
  unfold z6v z6l
  simp only [Bool.and_eq_true,Bool.or_eq_true,decide_eq_true_eq]
  constructor
  · rintro ⟨⟨⟨⟨⟨a,b⟩,c⟩,d⟩,e⟩,f⟩
    refine⟨a,b,c,d,?_,f⟩
    rcases e with (e | e) | e
    · exact .inl e
    · exact .inr (.inl e)
    · exact .inr (.inr e)
  · rintro ⟨a,b,c,d,e,f⟩
    refine⟨⟨⟨⟨⟨a,b⟩,c⟩,d⟩,?_⟩,f⟩
    rcases e with e | e | e
    · exact .inl (.inl e)
    · exact .inl (.inr e)
    · exact .inr e
 constructor
 · rintro ⟨h1,h2⟩
   exact⟨h2,fun j hj=>((this j).1 (h1 j hj)).1,fun j hj=>((this j).1 (h1 j hj)).2⟩
 · rintro ⟨h1,h2,h3⟩
   exact⟨fun j hj=>(this j).2 ⟨h2 j hj,h3 j hj⟩,h1⟩
theorem house_all (s w o:Int) (T:List Tk) (hs:z0m s w=true):z0s s w o T=true ↔ T.length≤12∧(∀ j,j<T.length→(T.getD j tk0).1=o)∧z9h s w (z1a 1 T):=by
 rw [z3v]
 have:=z6q s w 1 T hs (by omega) T.length (Nat.le_refl _)
 rw [List.take_length] at this
 rw [this]
theorem atP_none (v:Int) (T:List Tk) (j:Nat) (h:∀ i,i<j→(T.getD i tk0).2.2.1≠v):j≤T.length→atP v (T.take j)=[]:=by
 induction j with
 | zero=>intro _;simp [atP]
 | succ j ih =>
  intro hj
  rw [q0m v T j (by omega),ih (fun i hi=>h i (by omega)) (by omega),if_neg (h j (by omega))]
  rfl
theorem atS_none (t v:Int) (T:List Tk) (h:atP v T=[]):atS t v T=[]:=by unfold atS;rw [h];rfl
theorem atS_ware (t v:Int) (T:List Tk) (x:Stp) (h:x∈atS t v T):x.2.1=v:=by
 unfold atS at h
 split at h
 · simp at h;rw [h]
 · cases h
theorem atS_keep (t v:Int) (T:List Tk) (j:Nat) (hj:j<T.length) (h:(T.getD j tk0).2.2.1≠v):atS t v (T.take (j+1))=atS t v (T.take j):=by
 unfold atS
 rw [q0m v T j hj,if_neg h,List.append_nil]
theorem hstep_at (t:Int) (X:List Stp) (T:List Tk) (j:Nat) (hj:j<T.length) (hX:∀ x∈X,x.2.1≠(T.getD j tk0).2.2.1):z6p t (X++atS t (T.getD j tk0).2.2.1 (T.take j)) (T.getD j tk0)=X++atS t (T.getD j tk0).2.2.1 (T.take (j+1)):=by
 have h1:=q0m (T.getD j tk0).2.2.1 T j hj
 rw [if_pos rfl] at h1
 unfold atS
 rw [h1]
 rw [if_pos (show 1≤(atP (T.getD j tk0).2.2.1 (T.take j) ++ [((T.getD j tk0).2.1,(T.getD j tk0).2.2.2)]).length by simp)]
 by_cases h0:1≤(atP (T.getD j tk0).2.2.1 (T.take j)).length
 · rw [if_pos h0,z6d t X _ _ rfl]
   rfl
 · rw [if_neg h0,List.append_nil,List.eq_nil_of_length_eq_zero (show (atP (T.getD j tk0).2.2.1 (T.take j)).length=0 by omega)]
   cases hl:X.getLast? with
   | none =>
    obtain rfl:=List.getLast?_eq_none_iff.1 hl
    rfl
   | some l =>
    have hm:=List.mem_of_getLast? hl
    have hs:X=X.dropLast ++ [l]:=by
     rw [List.getLast?_eq_some_iff] at hl
     obtain⟨ys,rfl⟩:=hl
     simp
    rw [hs,z7j t _ l _ (hX l hm)]
    simp [lnT]
theorem q0f (t o:Int) (T:List Tk) (hw:∀ x∈T,0≤x.2.2.1) (h:z0s 4 4 o T=true):∀ j,j≤T.length→z1a t (T.take j)=(List.range 4).flatMap (fun w:Nat=>atS t (w:Int) (T.take j))
 | 0,_=>by simp [z1a,atS,atP]
 | j+1,hj=>by
  have ih:=q0f t o T hw h j (by omega)
  obtain⟨_,_,hT⟩:=(z3v 4 4 o T).1 h
  have hv:=(hT j (by omega)).2.1
  have hv0:0≤(T.getD j tk0).2.2.1:=by
   rw [List.getD,List.getElem?_eq_getElem (by omega)]
   exact hw _ (List.getElem_mem _)
  have hrise:∀ i,i<j→(T.getD i tk0).2.2.1≤(T.getD j tk0).2.2.1:=fun i hi=>by
   have:=z6x (s:=4) (w:=4) (T:=T) (j:=j+1) (fun i hi=>hT i (by omega)) (j-i) (by omega)
   have e:j+1-1-(j-i)=i:=by omega
   rw [e] at this
   exact this
  have habove:∀ v:Int,(T.getD j tk0).2.2.1<v→atS t v (T.take j)=[]∧atS t v (T.take (j+1))=[]:=fun v hv=>by
   have h1:=atS_none t v _ (atP_none v T j (fun i hi=>by have:=hrise i hi;omega) (by omega))
   exact⟨h1,by rw [atS_keep t v T j (by omega) (by omega)];exact h1⟩
  have hbelow:∀ v:Int,v<(T.getD j tk0).2.2.1→atS t v (T.take (j+1))=atS t v (T.take j):=fun v hv=>atS_keep t v T j (by omega) (by omega)
  rw [z3n t T j (by omega),ih]
  have hflat:∀ f:Nat→List Stp,(List.range 4).flatMap f=f 0++f 1++f 2++f 3:=fun f=>by simp [List.range_succ]
  rw [hflat,hflat]
  have hx:=fun X hX=>hstep_at t X T j (by omega) hX
  have hmem:=fun v T' x hx=>atS_ware t v T' x hx
  have c0:((0:Nat):Int)=0:=rfl
  have c1:((1:Nat):Int)=1:=rfl
  have c2:((2:Nat):Int)=2:=rfl
  have c3:((3:Nat):Int)=3:=rfl
  rw [c0,c1,c2,c3]
  rcases (by omega:(T.getD j tk0).2.2.1=0∨(T.getD j tk0).2.2.1=1∨(T.getD j tk0).2.2.1=2∨(T.getD j tk0).2.2.1=3) with e | e | e | e
  · obtain⟨a1,b1⟩:=habove 1 (by omega)
    obtain⟨a2,b2⟩:=habove 2 (by omega)
    obtain⟨a3,b3⟩:=habove 3 (by omega)
    rw [a1,b1,a2,b2,a3,b3]
    have:=hx [] (fun x hx=>by cases hx)
    rw [e] at this
    simpa using this
  · obtain⟨a2,b2⟩:=habove 2 (by omega)
    obtain⟨a3,b3⟩:=habove 3 (by omega)
    rw [a2,b2,a3,b3,hbelow 0 (by omega)]
    have:=hx (atS t 0 (T.take j)) (fun x hx=>by rw [hmem _ _ x hx];omega)
    rw [e] at this
    simpa using this
  · obtain⟨a3,b3⟩:=habove 3 (by omega)
    rw [a3,b3,hbelow 0 (by omega),hbelow 1 (by omega)]
    have:=hx (atS t 0 (T.take j)++atS t 1 (T.take j)) (fun x hx=>by
     rcases List.mem_append.1 hx with hx | hx <;> rw [hmem _ _ x hx] <;> omega)
    rw [e] at this
    simpa using this
  · rw [hbelow 0 (by omega),hbelow 1 (by omega),hbelow 2 (by omega)]
    have:=hx (atS t 0 (T.take j)++atS t 1 (T.take j)++atS t 2 (T.take j)) (fun x hx=>by
     rcases List.mem_append.1 hx with hx | hx
     · rcases List.mem_append.1 hx with hx | hx <;> rw [hmem _ _ x hx] <;> omega
     · rw [hmem _ _ x hx];omega)
    rw [e] at this
    simpa using this
theorem tkparts_none (T:List Tk) (s:Int) (h:∀ x∈T,x.2.1≠s):z1f T s=[]:=by
 unfold z1f
 rw [List.map_eq_nil_iff,List.filter_eq_nil_iff]
 intro x hx
 simpa using h x hx
theorem lnparts_none (M:List Ln) (s:Int) (h:∀ x∈M,x.1≠s):z0z M s=[]:=by
 unfold z0z
 rw [List.map_eq_nil_iff,List.filter_eq_nil_iff]
 intro x hx
 simpa using h x hx
theorem z8n {L:List Ln} (h:∀ x∈L,Lnok x) {j:Nat} (hj:j<L.length):Lnok (L.getD j l0):=by
 rw [List.getD,List.getElem?_eq_getElem hj]
 exact h _ (List.getElem_mem _)
theorem z3t {α:Type} {L:List α} {x:α} (d:α) (h:x∈L):∃ j,j<L.length∧L.getD j d=x:=by
 obtain⟨j,hj,rfl⟩:=List.mem_iff_getElem.1 h
 exact⟨j,hj,by simp [List.getD,List.getElem?_eq_getElem hj]⟩
theorem z3m {s:Int} {L:List Ln} (h:z0q s L=true):L.length≤3∧∀ j,j<L.length→z2e s L j=true:=by
 unfold z0q at h
 rw [Bool.and_eq_true,List.all_eq_true] at h
 exact⟨by simpa using h.2,fun j hj=>h.1 j (List.mem_range.2 hj)⟩
theorem lines_sku {s:Int} {L:List Ln} (h:z0q s L=true):∀ x∈L,x.1<s:=by
 intro x hx
 obtain⟨j,hj,rfl⟩:=z3t l0 hx
 have:=(z3m h).2 j hj
 unfold z2e at this
 simp only [Bool.and_eq_true,decide_eq_true_eq] at this
 exact this.1.1
theorem lines_rise {s:Int} {L:List Ln} (h:z0q s L=true):∀ j k,j<k→k<L.length→(L.getD j l0).1<(L.getD k l0).1
 | j,0,h1,_=>by omega
 | j,k+1,h1,h2=>by
  have hk:=(z3m h).2 (k+1) h2
  unfold z2e at hk
  simp only [Bool.and_eq_true,Bool.or_eq_true,decide_eq_true_eq] at hk
  have h3:(L.getD k l0).1<(L.getD (k+1) l0).1:=by
   rcases hk.2 with h | h
   · omega
   · exact h
  rcases (by omega:j=k∨j<k) with rfl | hjk
  · exact h3
  · exact Int.lt_trans (lines_rise h j k hjk (by omega)) h3
theorem parts_one {s:Int} {L:List Ln} (h:z0q s L=true) (a:Int):∀ j,j≤L.length→(z0z (L.take j) a=[]∧∀ i,i<j→(L.getD i l0).1≠a)∨∃ i,i<j∧(L.getD i l0).1=a∧z0z (L.take j) a=[(L.getD i l0).2]
 | 0,_=>.inl ⟨by simp [z0z],fun i hi=>by omega⟩
 | j+1,hj=>by
  rw [z4c L a j (by omega)]
  rcases parts_one h a j (by omega) with ⟨h1,h2⟩ | ⟨i,h1,h2,h3⟩
  · by_cases hc:(L.getD j l0).1=a
    · rw [if_pos hc,h1]
      exact .inr ⟨j,by omega,hc,rfl⟩
    · rw [if_neg hc,h1]
      refine .inl ⟨rfl,fun i hi=>?_⟩
      by_cases hij:i<j
      · exact h2 i hij
      · obtain rfl:i=j:=by omega
        exact hc
  · have:=lines_rise h i j h1 (by omega)
    rw [if_neg (by omega),h3]
    exact .inr ⟨i,by omega,h2,rfl⟩
theorem named_lines_ok {s:Int} {L:List Ln} (h:z0q s L=true) (hok:∀ x∈L,Lnok x) (a:Int):okB (z1c [] L a)=true:=by
 unfold z1c
 have e:z1f [] a=[]:=rfl
 rw [e,List.nil_append]
 have:=parts_one h a L.length (Nat.le_refl _)
 rw [List.take_length] at this
 rcases this with ⟨h1,_⟩ | ⟨i,h1,_,h3⟩
 · rw [h1];rfl
 · rw [h3]
   have:=(z8n hok h1).2
   rw [z3x]
   simpa [z1h] using this
def z3s (T:List Tk) (M L:List Ln) (a:Nat):Bool:=okB (z1c T M a) && decide (z1c T M a=z1c [] L a)
theorem served_cover {s o:Int} {T:List Tk} {M L:List Ln} (h0:0≤s) (h4:s≤4) (hL:z0q s L=true) (hM:z0q s M=true) (hT:∀ x∈T,x.2.1<s) (hok:∀ x∈L,Lnok x):(∀ a:Nat,(a:Int)<s→z3s T M L a=true) ↔ z2i T M L=true:=by
 have hc:∀ a:Nat,z3y T M L a=z3s T M L a:=fun a=>by
  unfold z3y z3s
  rw [named_lines_ok hL hok,Bool.and_true]
 unfold z2i
 rw [List.all_eq_true]
 constructor
 · intro h a ha
   rw [hc]
   by_cases hs:(a:Int)<s
   · exact h a hs
   · have z1:z1f T a=[]:=tkparts_none T a fun x hx=>by have:=hT x hx;omega
     have z2:z0z M a=[]:=lnparts_none M a fun x hx=>by have:=lines_sku hM x hx;omega
     have z3:z0z L a=[]:=lnparts_none L a fun x hx=>by have:=lines_sku hL x hx;omega
     unfold z3s z1c
     rw [z1,z2,z3]
     rfl
 · intro h a ha
   rw [← hc]
   exact h a (List.mem_range.2 (by omega))
theorem takes_sku {s w o:Int} {T:List Tk} (h:z0s s w o T=true):∀ x∈T,x.2.1<s:=by
 intro x hx
 obtain⟨j,hj,rfl⟩:=z3t tk0 hx
 exact (((z3v s w o T).1 h).2.2 j hj).1
def allT (T:List Tk):List Int:=T.map (·.2.2.2)
theorem allT_take (T:List Tk) (j:Nat) (h:j<T.length):allT (T.take (j+1))=allT (T.take j) ++ [(T.getD j tk0).2.2.2]:=by
 unfold allT
 rw [List.take_add_one,List.getElem?_eq_getElem h,List.map_append]
 simp [List.getD,List.getElem?_eq_getElem h]
theorem z8y (T:List Tk) (s:Int) (h:∀ x∈T,x.2.1=s):z1c T [] s=z1h (allT T):=by
 unfold z1c
 have e:z0z [] s=[]:=rfl
 rw [e,List.append_nil]
 unfold z1f allT
 rw [List.filter_eq_self.2 (fun x hx=>by simpa using h x hx)]
theorem fills_sku {sk to q:Int} {T:List Tk} (h:z2c sk to q T=true):∀ x∈T,x.2.1=sk:=by
 intro x hx
 obtain⟨j,hj,rfl⟩:=z3t tk0 hx
 unfold z2c at h
 rw [Bool.and_eq_true,List.all_eq_true] at h
 have:=h.1 j (List.mem_range.2 hj)
 unfold z4f at this
 simp only [Bool.and_eq_true,decide_eq_true_eq] at this
 exact this.1.1.1.2
end Go.Proofs.YtclbkfpbdidaiaaGreatDoor
namespace Go.Proofs.YtclbkfpbdidaiaaGreatDoor
open Go.RowKit Go.ChangeShapes Go.WideShapes
set_option linter.unusedVariables false
set_option maxRecDepth 10000
section
variable {α β:Type} (ix:α→Int)
def z1v (L:List α) (i:Int):List α:=L.filter fun x=>decide (ix x≠i)
def insT:List α→α→List α
 | [],t=>[t]
 | x::L,t=>if ix t<ix x then t::x::L else x::insT L t
def z1x (L:List α) (t:α):List α:=insT ix (z1v ix L (ix t)) t
def newT (L:List α):List α:=L.foldl (z1x ix) []
def getT (L:List α) (i:Int):Option α:=L.find? fun x=>decide (ix x=i)
variable {ix}
theorem z7f {jx:β→Int} {f:α→β} (hf:∀ x,jx (f x)=ix x) (i:Int):∀ L:List α,(z1v ix L i).map f=z1v jx (L.map f) i
 | []=>rfl
 | x::L=>by
  have h:=z7f hf i L
  unfold z1v at h ⊢
  rw [List.map_cons,List.filter_cons,List.filter_cons,hf]
  split
  · rw [List.map_cons,h]
  · exact h
theorem map_insT {jx:β→Int} {f:α→β} (hf:∀ x,jx (f x)=ix x) (t:α):∀ L:List α,(insT ix L t).map f=insT jx (L.map f) (f t)
 | []=>rfl
 | x::L=>by
  rw [List.map_cons,insT,insT,hf,hf]
  split
  · rfl
  · rw [List.map_cons,map_insT hf t L]
theorem map_withT {jx:β→Int} {f:α→β} (hf:∀ x,jx (f x)=ix x) (t:α) (L:List α):(z1x ix L t).map f=z1x jx (L.map f) (f t):=by
 unfold z1x
 rw [map_insT hf,z7f hf,hf]
theorem z6b {jx:β→Int} {f:α→β} (hf:∀ x,jx (f x)=ix x) (i:Int):∀ L:List α,(getT ix L i).map f=getT jx (L.map f) i
 | []=>rfl
 | x::L=>by
  have h:=z6b hf i L
  unfold getT at h ⊢
  rw [List.map_cons,List.find?_cons,List.find?_cons,hf]
  split
  · rfl
  · exact h
theorem mem_witho {L:List α} {i:Int} {x:α}:x∈z1v ix L i ↔ x∈L∧ix x≠i:=by simp [z1v]
theorem mem_insT {t x:α}:∀ {L:List α},x∈insT ix L t ↔ x=t∨x∈L
 | []=>by simp [insT]
 | y::L=>by
  rw [insT]
  split
  · simp
  · simp only [List.mem_cons,mem_insT (L:=L)]
    constructor
    · rintro (h | h | h)
      · exact .inr (.inl h)
      · exact .inl h
      · exact .inr (.inr h)
    · rintro (h | h | h)
      · exact .inr (.inl h)
      · exact .inl h
      · exact .inr (.inr h)
theorem mem_withT {L:List α} {t x:α}:x∈z1x ix L t ↔ x=t∨(x∈L∧ix x≠ix t):=by rw [z1x,mem_insT,mem_witho]
theorem len_witho (L:List α) (i:Int):(z1v ix L i).length≤L.length:=List.length_filter_le ..
theorem q0c (t:α):∀ L:List α,(insT ix L t).length=L.length+1
 | []=>rfl
 | x::L=>by
  rw [insT]
  split
  · rfl
  · rw [List.length_cons,q0c t L,List.length_cons]
theorem len_withT (L:List α) (t:α):(z1x ix L t).length≤L.length+1:=by
 rw [z1x,q0c]
 have:=len_witho (ix:=ix) L (ix t)
 omega
def UpT (ix:α→Int) (L:List α):Prop:=(L.map ix).Pairwise (· < ·)
theorem z9q {L:List α} (i:Int) (h:UpT ix L):UpT ix (z1v ix L i):=by
 unfold UpT z1v at *
 exact h.sublist (List.Sublist.map _ List.filter_sublist)
theorem up_insT {t:α}:∀ {L:List α},UpT ix L→(∀ x∈L,ix x≠ix t)→UpT ix (insT ix L t)
 | [],_,_=>by simp [UpT,insT]
 | x::L,h,hn=>by
  unfold UpT at h ⊢
  rw [List.map_cons,List.pairwise_cons] at h
  have h1:=hn x (List.mem_cons_self ..)
  rw [insT]
  split
  · rename_i hlt
    rw [List.map_cons,List.pairwise_cons]
    refine⟨fun b hb=>?_,by rw [List.map_cons,List.pairwise_cons];exact h⟩
    rcases List.mem_cons.1 hb with rfl | hb
    · exact hlt
    · exact Int.lt_trans hlt (h.1 b hb)
  · rename_i hlt
    have hi:=up_insT (t:=t) (L:=L) h.2 (fun y hy=>hn y (List.mem_cons_of_mem _ hy))
    rw [List.map_cons,List.pairwise_cons]
    refine⟨fun b hb=>?_,hi⟩
    obtain⟨y,hy,rfl⟩:=List.mem_map.1 hb
    rcases mem_insT.1 hy with rfl | hy
    · omega
    · exact h.1 _ (List.mem_map_of_mem hy)
theorem up_withT {L:List α} {t:α} (h:UpT ix L):UpT ix (z1x ix L t):=up_insT (z9q _ h) fun x hx=>(mem_witho.1 hx).2
theorem z5g {L:List α} {i:Int} {x:α} (h:getT ix L i=some x):x∈L∧ix x=i:=⟨List.mem_of_find?_eq_some h,by have:=List.find?_some h;simpa using this⟩
theorem z9c:∀ {L:List α} {x:α},UpT ix L→x∈L→getT ix L (ix x)=some x
 | y::L,x,h,hx=>by
  unfold UpT at h
  rw [List.map_cons,List.pairwise_cons] at h
  unfold getT
  rw [List.find?_cons]
  rcases List.mem_cons.1 hx with rfl | hx
  · simp
  · have:=h.1 _ (List.mem_map_of_mem hx)
    have hne:¬ ix y=ix x:=by omega
    rw [decide_eq_false hne]
    exact z9c h.2 hx
end
structure Tc where
 id:Int
 sg:Int
 st:Int
 cp:Bool
 dd:Bool
 dn:List O
 fs:Int
 sz:Int
deriving DecidableEq
def tc0:Tc:=⟨0,0,0,false,false,[],0,0⟩
def z2r (t:Tc):O × Bool:=match t.dn.getLast? with
 | none=>(o0,false)
 | some o=>if o.2 < -9223372036854775807 then (o0,false) else ((o.1,-o.2),true)
structure Tcok (t:Tc):Prop where
 id:0≤t.id∧t.id≤4294967295
 sg:0≤t.sg∧t.sg≤4294967295
 st:0≤t.st∧t.st≤255
 dn:∀ o∈t.dn,Ook o
 fs:In64 t.fs
 sz:In64 t.sz
structure TsOk (M:List Tc) (n:Nat) (z:Int):Prop where
 ok:∀ t∈M,Tcok t
 up:UpT Tc.id M
 len:M.length≤n
 few:∀ t∈M,t.dn.length≤20
 sz:∀ t∈M,0≤t.sz∧t.sz≤z
section
variable {α:Type} {ix:α→Int}
theorem z2s (y:α) (L:List α) (i:Int):getT ix (y::L) i=if ix y=i then some y else getT ix L i:=by
 unfold getT
 rw [List.find?_cons]
 by_cases h:ix y=i <;> simp [h]
theorem z8c (i x:Int):∀ L:List α,getT ix (z1v ix L i) x=if x=i then none else getT ix L x
 | []=>by simp [getT,z1v]
 | y::L=>by
  have ih:=z8c i x L
  unfold z1v at ih ⊢
  rw [List.filter_cons]
  by_cases h:ix y=i
  · rw [if_neg (by simp [h]),ih,z2s,h]
    by_cases hx:x=i
    · rw [if_pos hx,if_pos hx]
    · rw [if_neg hx,if_neg hx,if_neg (fun e=>hx e.symm)]
  · rw [if_pos (by simp [h]),z2s,z2s,ih]
    by_cases hx:x=i
    · rw [if_pos hx,if_pos hx,if_neg (fun e=>h (e.trans hx))]
    · rw [if_neg hx,if_neg hx]
theorem getT_insT (t:α) (x:Int):∀ L:List α,(∀ y∈L,ix y≠ix t)→getT ix (insT ix L t) x=if x=ix t then some t else getT ix L x
 | [],_=>by
  rw [insT,z2s]
  by_cases h:x=ix t
  · rw [if_pos h,if_pos h.symm]
  · rw [if_neg h,if_neg (fun e=>h e.symm)]
 | y::L,h=>by
  rw [insT]
  split
  · rw [z2s]
    by_cases hx:x=ix t
    · rw [if_pos hx,if_pos hx.symm]
    · rw [if_neg hx,if_neg (fun e=>hx e.symm)]
  · rw [z2s,z2s,getT_insT t x L (fun z hz=>h z (List.mem_cons_of_mem _ hz))]
    by_cases hy:ix y=x
    · have hne:¬ x=ix t:=fun e=>h y (List.mem_cons_self ..) (hy.trans e)
      rw [if_pos hy,if_neg hne,if_pos hy]
    · rw [if_neg hy,if_neg hy]
theorem getT_withT (t:α) (x:Int) (L:List α):getT ix (z1x ix L t) x=if x=ix t then some t else getT ix L x:=by
 unfold z1x
 rw [getT_insT t x _ (fun y hy=>(mem_witho.1 hy).2),z8c]
 by_cases h:x=ix t
 · rw [if_pos h,if_pos h]
 · rw [if_neg h,if_neg h,if_neg h]
theorem z7o {i:Int}:∀ {L:List α},getT ix L i=none→z1v ix L i=L
 | [],_=>rfl
 | y::L,h=>by
  rw [z2s] at h
  by_cases hy:ix y=i
  · rw [if_pos hy] at h
    cases h
  · rw [if_neg hy] at h
    have ih:=z7o h
    unfold z1v at ih ⊢
    rw [List.filter_cons,if_pos (by simp [hy]),ih]
theorem getT_low {i:Int}:∀ {L:List α},(∀ y∈L,i<ix y)→getT ix L i=none
 | [],_=>rfl
 | y::L,h=>by
  have:=h y (List.mem_cons_self ..)
  rw [z2s,if_neg (by omega)]
  exact getT_low fun z hz=>h z (List.mem_cons_of_mem _ hz)
theorem z4j {i:Int}:∀ {L:List α},UpT ix L→(getT ix L i).isSome=true→(z1v ix L i).length+1=L.length
 | [],_,h=>by cases h
 | y::L,hu,h=>by
  unfold UpT at hu
  rw [List.map_cons,List.pairwise_cons] at hu
  rw [z2s] at h
  by_cases hy:ix y=i
  · have hn:getT ix L i=none:=getT_low fun z hz=>by rw [← hy];exact hu.1 _ (List.mem_map_of_mem hz)
    have he:=z7o hn
    unfold z1v at he ⊢
    rw [List.filter_cons,if_neg (by simp [hy]),he,List.length_cons]
  · rw [if_neg hy] at h
    have ih:=z4j hu.2 h
    unfold z1v at ih ⊢
    rw [List.filter_cons,if_pos (by simp [hy]),List.length_cons,List.length_cons,ih]
theorem len_withT_is {t:α} {L:List α} (hu:UpT ix L):(z1x ix L t).length=if (getT ix L (ix t)).isSome=true then L.length else L.length+1:=by
 unfold z1x
 rw [q0c]
 cases h:getT ix L (ix t) with
 | none =>
  rw [z7o h]
  rfl
 | some y =>
  rw [z4j hu (by rw [h];rfl)]
  rfl
theorem find_least {p:α→Bool}:∀ {L:List α},UpT ix L→∀ {t:α},t∈L→p t=true→(∀ u∈L,p u=true→ix t≤ix u)→L.find? p=some t
 | y::L,hu,t,ht,hp,hl=>by
  unfold UpT at hu
  rw [List.map_cons,List.pairwise_cons] at hu
  rw [List.find?_cons]
  rcases List.mem_cons.1 ht with rfl | ht
  · rw [hp]
  · have h1:=hu.1 _ (List.mem_map_of_mem ht)
    cases hy:p y with
    | true =>
     have:=hl y (List.mem_cons_self ..) hy
     omega
    | false=>exact find_least hu.2 ht hp fun u hu'=>hl u (List.mem_cons_of_mem _ hu')
theorem find_none {p:α→Bool} {L:List α} (h:∀ u∈L,p u=false):L.find? p=none:=by
 rw [List.find?_eq_none]
 intro u hu
 rw [h u hu]
 decide
end
def Uok (x:Int):Prop:=0≤x∧x≤4294967295
end Go.Proofs.YtclbkfpbdidaiaaGreatDoor
