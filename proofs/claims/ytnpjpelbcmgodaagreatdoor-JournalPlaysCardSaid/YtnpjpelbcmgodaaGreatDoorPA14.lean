import Derived.Test.YtnpjpelbcmgodaaGreatDoorPA03
import Derived.Test.YtnpjpelbcmgodaaGreatDoorPA13
namespace Go.Proofs.YtnpjpelbcmgodaaGreatDoor
open Go.RowKit
set_option linter.unusedVariables false
set_option maxRecDepth 10000
abbrev O:=K × Int
abbrev o0:O:=((0,0,0),0)
def In64 (z:Int):Prop:=-9223372036854775808≤z∧z≤9223372036854775807
def Ook (o:O):Prop:=Kok o.1∧In64 o.2
theorem z6d (z:Int):okB z=true ↔ In64 z:=by unfold okB In64;exact decide_eq_true_iff
end Go.Proofs.YtnpjpelbcmgodaaGreatDoor
namespace Go.Proofs.YtnpjpelbcmgodaaGreatDoor
open Go.RowKit Go.ChangeShapes Go.WideShapes
set_option linter.unusedVariables false
set_option maxRecDepth 10000
section
variable {α β:Type} (ix:α→Int)
def z1x (L:List α) (i:Int):List α:=L.filter fun x=>decide (ix x≠i)
def insT:List α→α→List α
 | [],t=>[t]
 | x::L,t=>if ix t<ix x then t::x::L else x::insT L t
def z1q (L:List α) (t:α):List α:=insT ix (z1x ix L (ix t)) t
def newT (L:List α):List α:=L.foldl (z1q ix) []
def getT (L:List α) (i:Int):Option α:=L.find? fun x=>decide (ix x=i)
variable {ix}
theorem z5k {jx:β→Int} {f:α→β} (hf:∀ x,jx (f x)=ix x) (i:Int):∀ L:List α,(z1x ix L i).map f=z1x jx (L.map f) i
 | []=>rfl
 | x::L=>by
  have h:=z5k hf i L
  unfold z1x at h ⊢
  rw [List.map_cons,List.filter_cons,List.filter_cons,hf]
  split
  · rw [List.map_cons,h]
  · exact h
theorem map_insT {jx:β→Int} {f:α→β} (hf:∀ x,jx (f x)=ix x) (t:α):∀ L:List α,(insT ix L t).map f=insT jx (L.map f) (f t)
 | []=>rfl
 | x::L=>by
  rw [List.map_cons,insT,insT,hf,hf]
  split
  · rfl
  · rw [List.map_cons,map_insT hf t L]
theorem z6q {jx:β→Int} {f:α→β} (hf:∀ x,jx (f x)=ix x) (t:α) (L:List α):(z1q ix L t).map f=z1q jx (L.map f) (f t):=by
 unfold z1q
 rw [map_insT hf,z5k hf,hf]
theorem map_foldT {jx:β→Int} {f:α→β} (hf:∀ x,jx (f x)=ix x):∀ (L S:List α),(L.foldl (z1q ix) S).map f=(L.map f).foldl (z1q jx) (S.map f)
 | [],S=>rfl
 | x::L,S=>by rw [List.foldl_cons,map_foldT hf L,z6q hf,List.map_cons,List.foldl_cons]
theorem map_newT {jx:β→Int} {f:α→β} (hf:∀ x,jx (f x)=ix x) (L:List α):(newT ix L).map f=newT jx (L.map f):=map_foldT hf L []
theorem z3f {jx:β→Int} {f:α→β} (hf:∀ x,jx (f x)=ix x) (i:Int):∀ L:List α,(getT ix L i).map f=getT jx (L.map f) i
 | []=>rfl
 | x::L=>by
  have h:=z3f hf i L
  unfold getT at h ⊢
  rw [List.map_cons,List.find?_cons,List.find?_cons,hf]
  split
  · rfl
  · exact h
theorem mem_witho {L:List α} {i:Int} {x:α}:x∈z1x ix L i ↔ x∈L∧ix x≠i:=by simp [z1x]
theorem mem_insT {t x:α}:∀ {L:List α},x∈insT ix L t ↔ x=t∨x∈L
 | []=>by simp [insT]
 | y::L=>by
  rw [insT]
  split
  · simp
  · simp only [List.mem_cons,mem_insT (L:=L)]
    constructor
    · rintro (h | h | h)
      · exact .inr (.inl h)
      · exact .inl h
      · exact .inr (.inr h)
    · rintro (h | h | h)
      · exact .inr (.inl h)
      · exact .inl h
      · exact .inr (.inr h)
theorem mem_withT {L:List α} {t x:α}:x∈z1q ix L t ↔ x=t∨(x∈L∧ix x≠ix t):=by rw [z1q,mem_insT,mem_witho]
theorem z8b (L:List α) (i:Int):(z1x ix L i).length≤L.length:=List.length_filter_le ..
theorem z8u (t:α):∀ L:List α,(insT ix L t).length=L.length+1
 | []=>rfl
 | x::L=>by
  rw [insT]
  split
  · rfl
  · rw [List.length_cons,z8u t L,List.length_cons]
theorem z8c (L:List α) (t:α):(z1q ix L t).length≤L.length+1:=by
 rw [z1q,z8u]
 have:=z8b (ix:=ix) L (ix t)
 omega
theorem len_foldT:∀ (L S:List α),(L.foldl (z1q ix) S).length≤S.length+L.length
 | [],S=>by simp
 | x::L,S=>by
  rw [List.foldl_cons,List.length_cons]
  have h:=len_foldT L (z1q ix S x)
  have h2:=z8c (ix:=ix) S x
  omega
theorem len_newT (L:List α):(newT ix L).length≤L.length:=by have:=len_foldT (ix:=ix) L [];simpa [newT] using this
theorem mem_foldT {x:α}:∀ {L S:List α},x∈L.foldl (z1q ix) S→x∈S∨x∈L
 | [],S,h=>.inl h
 | y::L,S,h=>by
  rw [List.foldl_cons] at h
  rcases mem_foldT h with h | h
  · rcases mem_withT.1 h with rfl | h
    · exact .inr (List.mem_cons_self ..)
    · exact .inl h.1
  · exact .inr (List.mem_cons_of_mem _ h)
theorem z6p {x:α} {L:List α} (h:x∈newT ix L):x∈L:=by
 rcases mem_foldT h with h | h
 · cases h
 · exact h
def UpT (ix:α→Int) (L:List α):Prop:=(L.map ix).Pairwise (· < ·)
theorem z8p {L:List α} (i:Int) (h:UpT ix L):UpT ix (z1x ix L i):=by
 unfold UpT z1x at *
 exact h.sublist (List.Sublist.map _ List.filter_sublist)
theorem up_insT {t:α}:∀ {L:List α},UpT ix L→(∀ x∈L,ix x≠ix t)→UpT ix (insT ix L t)
 | [],_,_=>by simp [UpT,insT]
 | x::L,h,hn=>by
  unfold UpT at h ⊢
  rw [List.map_cons,List.pairwise_cons] at h
  have h1:=hn x (List.mem_cons_self ..)
  rw [insT]
  split
  · rename_i hlt
    rw [List.map_cons,List.pairwise_cons]
    refine⟨fun b hb=>?_,by rw [List.map_cons,List.pairwise_cons];exact h⟩
    rcases List.mem_cons.1 hb with rfl | hb
    · exact hlt
    · exact Int.lt_trans hlt (h.1 b hb)
  · rename_i hlt
    have hi:=up_insT (t:=t) (L:=L) h.2 (fun y hy=>hn y (List.mem_cons_of_mem _ hy))
    rw [List.map_cons,List.pairwise_cons]
    refine⟨fun b hb=>?_,hi⟩
    obtain⟨y,hy,rfl⟩:=List.mem_map.1 hb
    rcases mem_insT.1 hy with rfl | hy
    · omega
    · exact h.1 _ (List.mem_map_of_mem hy)
theorem z8q {L:List α} {t:α} (h:UpT ix L):UpT ix (z1q ix L t):=up_insT (z8p _ h) fun x hx=>(mem_witho.1 hx).2
theorem up_foldT:∀ {L S:List α},UpT ix S→UpT ix (L.foldl (z1q ix) S)
 | [],S,h=>h
 | x::L,S,h=>by rw [List.foldl_cons];exact up_foldT (z8q h)
theorem up_newT (L:List α):UpT ix (newT ix L):=up_foldT List.Pairwise.nil
theorem z2y {L:List α} {i:Int} {x:α} (h:getT ix L i=some x):x∈L∧ix x=i:=⟨List.mem_of_find?_eq_some h,by have:=List.find?_some h;simpa using this⟩
theorem z6g:∀ {L:List α} {x:α},UpT ix L→x∈L→getT ix L (ix x)=some x
 | y::L,x,h,hx=>by
  unfold UpT at h
  rw [List.map_cons,List.pairwise_cons] at h
  unfold getT
  rw [List.find?_cons]
  rcases List.mem_cons.1 hx with rfl | hx
  · simp
  · have:=h.1 _ (List.mem_map_of_mem hx)
    have hne:¬ ix y=ix x:=by omega
    rw [decide_eq_false hne]
    exact z6g h.2 hx
end
structure Tc where
 id:Int
 sg:Int
 st:Int
 cp:Bool
 dd:Bool
 dn:List O
 fs:Int
 sz:Int
deriving DecidableEq
def tc0:Tc:=⟨0,0,0,false,false,[],0,0⟩
def z5f:List Tc→Int × Bool
 | []=>(0,false)
 | t::L=>(L.foldl (fun n x=>if x.fs<n then x.fs else n) t.fs,true)
def z1v (t:Tc):O × Bool:=match t.dn.getLast? with
 | none=>(o0,false)
 | some o=>if o.2 < -9223372036854775807 then (o0,false) else ((o.1,-o.2),true)
structure Tcok (t:Tc):Prop where
 id:0≤t.id∧t.id≤4294967295
 sg:0≤t.sg∧t.sg≤4294967295
 st:0≤t.st∧t.st≤255
 dn:∀ o∈t.dn,Ook o
 fs:In64 t.fs
 sz:In64 t.sz
structure TsOk (M:List Tc) (n:Nat) (z:Int):Prop where
 ok:∀ t∈M,Tcok t
 up:UpT Tc.id M
 len:M.length≤n
 few:∀ t∈M,t.dn.length≤20
 sz:∀ t∈M,0≤t.sz∧t.sz≤z
section
variable {α:Type} {ix:α→Int}
theorem z2v (y:α) (L:List α) (i:Int):getT ix (y::L) i=if ix y=i then some y else getT ix L i:=by
 unfold getT
 rw [List.find?_cons]
 by_cases h:ix y=i <;> simp [h]
theorem z7k (i x:Int):∀ L:List α,getT ix (z1x ix L i) x=if x=i then none else getT ix L x
 | []=>by simp [getT,z1x]
 | y::L=>by
  have ih:=z7k i x L
  unfold z1x at ih ⊢
  rw [List.filter_cons]
  by_cases h:ix y=i
  · rw [if_neg (by simp [h]),ih,z2v,h]
    by_cases hx:x=i
    · rw [if_pos hx,if_pos hx]
    · rw [if_neg hx,if_neg hx,if_neg (fun e=>hx e.symm)]
  · rw [if_pos (by simp [h]),z2v,z2v,ih]
    by_cases hx:x=i
    · rw [if_pos hx,if_pos hx,if_neg (fun e=>h (e.trans hx))]
    · rw [if_neg hx,if_neg hx]
theorem getT_insT (t:α) (x:Int):∀ L:List α,(∀ y∈L,ix y≠ix t)→getT ix (insT ix L t) x=if x=ix t then some t else getT ix L x
 | [],_=>by
  rw [insT,z2v]
  by_cases h:x=ix t
  · rw [if_pos h,if_pos h.symm]
  · rw [if_neg h,if_neg (fun e=>h e.symm)]
 | y::L,h=>by
  rw [insT]
  split
  · rw [z2v]
    by_cases hx:x=ix t
    · rw [if_pos hx,if_pos hx.symm]
    · rw [if_neg hx,if_neg (fun e=>hx e.symm)]
  · rw [z2v,z2v,getT_insT t x L (fun z hz=>h z (List.mem_cons_of_mem _ hz))]
    by_cases hy:ix y=x
    · have hne:¬ x=ix t:=fun e=>h y (List.mem_cons_self ..) (hy.trans e)
      rw [if_pos hy,if_neg hne,if_pos hy]
    · rw [if_neg hy,if_neg hy]
theorem getT_withT (t:α) (x:Int) (L:List α):getT ix (z1q ix L t) x=if x=ix t then some t else getT ix L x:=by
 unfold z1q
 rw [getT_insT t x _ (fun y hy=>(mem_witho.1 hy).2),z7k]
 by_cases h:x=ix t
 · rw [if_pos h,if_pos h]
 · rw [if_neg h,if_neg h,if_neg h]
theorem z5n {i:Int}:∀ {L:List α},getT ix L i=none→z1x ix L i=L
 | [],_=>rfl
 | y::L,h=>by
  rw [z2v] at h
  by_cases hy:ix y=i
  · rw [if_pos hy] at h
    cases h
  · rw [if_neg hy] at h
    have ih:=z5n h
    unfold z1x at ih ⊢
    rw [List.filter_cons,if_pos (by simp [hy]),ih]
theorem getT_low {i:Int}:∀ {L:List α},(∀ y∈L,i<ix y)→getT ix L i=none
 | [],_=>rfl
 | y::L,h=>by
  have:=h y (List.mem_cons_self ..)
  rw [z2v,if_neg (by omega)]
  exact getT_low fun z hz=>h z (List.mem_cons_of_mem _ hz)
theorem z4n {i:Int}:∀ {L:List α},UpT ix L→(getT ix L i).isSome=true→(z1x ix L i).length+1=L.length
 | [],_,h=>by cases h
 | y::L,hu,h=>by
  unfold UpT at hu
  rw [List.map_cons,List.pairwise_cons] at hu
  rw [z2v] at h
  by_cases hy:ix y=i
  · have hn:getT ix L i=none:=getT_low fun z hz=>by rw [← hy];exact hu.1 _ (List.mem_map_of_mem hz)
    have he:=z5n hn
    unfold z1x at he ⊢
    rw [List.filter_cons,if_neg (by simp [hy]),he,List.length_cons]
  · rw [if_neg hy] at h
    have ih:=z4n hu.2 h
    unfold z1x at ih ⊢
    rw [List.filter_cons,if_pos (by simp [hy]),List.length_cons,List.length_cons,ih]
theorem len_withT_is {t:α} {L:List α} (hu:UpT ix L):(z1q ix L t).length=if (getT ix L (ix t)).isSome=true then L.length else L.length+1:=by
 unfold z1q
 rw [z8u]
 cases h:getT ix L (ix t) with
 | none =>
  rw [z5n h]
  rfl
 | some y =>
  rw [z4n hu (by rw [h];rfl)]
  rfl
theorem find_least {p:α→Bool}:∀ {L:List α},UpT ix L→∀ {t:α},t∈L→p t=true→(∀ u∈L,p u=true→ix t≤ix u)→L.find? p=some t
 | y::L,hu,t,ht,hp,hl=>by
  unfold UpT at hu
  rw [List.map_cons,List.pairwise_cons] at hu
  rw [List.find?_cons]
  rcases List.mem_cons.1 ht with rfl | ht
  · rw [hp]
  · have h1:=hu.1 _ (List.mem_map_of_mem ht)
    cases hy:p y with
    | true =>
     have:=hl y (List.mem_cons_self ..) hy
     omega
    | false=>exact find_least hu.2 ht hp fun u hu'=>hl u (List.mem_cons_of_mem _ hu')
theorem find_none {p:α→Bool} {L:List α} (h:∀ u∈L,p u=false):L.find? p=none:=by
 rw [List.find?_eq_none]
 intro u hu
 rw [h u hu]
 decide
theorem up_same:∀ {L M:List α},UpT ix L→UpT ix M→(∀ x,x∈L ↔ x∈M)→L=M
 | [],[],_,_,_=>rfl
 | [],y::M,_,_,h=>by have:=(h y).2 (List.mem_cons_self ..);cases this
 | y::L,[],_,_,h=>by have:=(h y).1 (List.mem_cons_self ..);cases this
 | x::L,y::M,hl,hm,h=>by
  have hl':=hl
  have hm':=hm
  unfold UpT at hl' hm'
  rw [List.map_cons,List.pairwise_cons] at hl' hm'
  have hxy:x=y:=by
   rcases List.mem_cons.1 ((h x).1 (List.mem_cons_self ..)) with e | e
   · exact e
   · rcases List.mem_cons.1 ((h y).2 (List.mem_cons_self ..)) with e2 | e2
     · exact e2.symm
     · have h1:=hm'.1 _ (List.mem_map_of_mem e)
       have h2:=hl'.1 _ (List.mem_map_of_mem e2)
       omega
  subst hxy
  have hnl:x ∉ L:=fun e=>by have:=hl'.1 _ (List.mem_map_of_mem e);omega
  have hnm:x ∉ M:=fun e=>by have:=hm'.1 _ (List.mem_map_of_mem e);omega
  rw [up_same hl'.2 hm'.2 fun z=>?_]
  constructor
  · intro hz
    rcases List.mem_cons.1 ((h z).1 (List.mem_cons_of_mem _ hz)) with e | e
    · exact absurd (e ▸ hz) hnl
    · exact e
  · intro hz
    rcases List.mem_cons.1 ((h z).2 (List.mem_cons_of_mem _ hz)) with e | e
    · exact absurd (e ▸ hz) hnm
    · exact e
theorem up_int {L:List Int}:UpT id L ↔ L.Pairwise (· < ·):=by
 unfold UpT
 rw [List.map_id]
end
end Go.Proofs.YtnpjpelbcmgodaaGreatDoor
namespace Go.Proofs.YtnpjpelbcmgodaaGreatDoor
open Go.RowKit
set_option linter.unusedVariables false
set_option maxRecDepth 10000
abbrev Ln:=Int × Int
abbrev l0:Ln:=(0,0)
def Lnok (x:Ln):Prop:=(0≤x.1∧x.1≤255)∧In64 x.2
def z3b (s:Int) (L:List Ln) (j:Nat):Bool:=decide ((L.getD j l0).1<s) && decide (1≤(L.getD j l0).2) && (decide (j=0) || decide ((L.getD (j-1) l0).1<(L.getD j l0).1))
def z0t (s:Int) (L:List Ln):Bool:=(List.range L.length).all (z3b s L) && decide (L.length≤3)
def z4f (s w t r:Int) (L:List Ln):Bool:=z0s s w && decide (1≤t∧t≤8) && decide (1≤L.length) && z0t s L && (if 7≤t then decide (r=0) else decide (r<w))
theorem lines_false (s:Int) (L:List Ln) (j:Nat) (h:j<L.length) (hf:z3b s L j=false):z0t s L=false:=by
 unfold z0t
 cases hc:(List.range L.length).all (z3b s L) with
 | false=>rfl
 | true =>
  have:=List.all_eq_true.1 hc j (List.mem_range.2 h)
  rw [hf] at this
  cases this
theorem lines_true (s:Int) (L:List Ln) (h:∀ j,j<L.length→z3b s L j=true):z0t s L=decide (L.length≤3):=by
 unfold z0t
 have:(List.range L.length).all (z3b s L)=true:=by
  rw [List.all_eq_true]
  exact fun j hj=>h j (List.mem_range.1 hj)
 rw [this];rfl
def q0g (t:Int):Int:=if t=7∨t=8 then 4 else 1
theorem named_good (s w t r:Int) (x:Ln) (hr:0≤r) (ht:1≤t∧t≤8):z3x s w (q0g t) x.1 r=(z0s s w && decide (x.1<s) && (if 7≤t then decide (r=0) else decide (r<w))):=by
 unfold z3x q0g z3p
 by_cases h:t=7∨t=8
 · have h7:7≤t:=by omega
   rw [if_pos h,if_pos h7]
   congr 1
   simp
   omega
 · have h7:¬ 7≤t:=by omega
   rw [if_neg h,if_neg h7]
   simp
theorem good_parts {s w t r:Int} {L:List Ln} (h:z4f s w t r L=true):z0s s w=true∧(1≤t∧t≤8)∧1≤L.length∧L.length≤3∧(∀ j,j<L.length→z3b s L j=true)∧(if 7≤t then r=0 else r<w):=by
 unfold z4f z0t at h
 simp only [Bool.and_eq_true,decide_eq_true_eq] at h
 obtain⟨⟨⟨⟨h1,h2⟩,h3⟩,h4,h5⟩,h6⟩:=h
 refine⟨h1,h2,h3,h5,fun j hj=>List.all_eq_true.1 h4 j (List.mem_range.2 hj),?_⟩
 split
 · next h7=>rw [if_pos h7] at h6;simpa using h6
 · next h7=>rw [if_neg h7] at h6;simpa using h6
abbrev Tk:=Int × Int × Int × Int
abbrev tk0:Tk:=(0,0,0,0)
def Tkok (x:Tk):Prop:=(0≤x.1∧x.1≤4294967295)∧(0≤x.2.1∧x.2.1≤255)∧(0≤x.2.2.1∧x.2.2.1≤255)∧In64 x.2.2.2
structure Pg where
 kind:Int
 order:Int
 policy:Int
 lines:List Ln
 takes:List Tk
 owes:List Ln
 sku:Int
 frm:Int
 to:Int
 qty:Int
deriving DecidableEq
structure Pgok (P:Pg):Prop where
 kind:0≤P.kind∧P.kind≤255
 order:0≤P.order∧P.order≤4294967295
 policy:0≤P.policy∧P.policy≤255
 lines:∀ x∈P.lines,Lnok x
 takes:∀ x∈P.takes,Tkok x
 owes:∀ x∈P.owes,Lnok x
 sku:0≤P.sku∧P.sku≤255
 frm:0≤P.frm∧P.frm≤255
 to:0≤P.to∧P.to≤255
 qty:In64 P.qty
def z1f (T:List Tk) (s:Int):List Int:=(T.filter fun x=>decide (x.2.1=s)).map (·.2.2.2)
def z1a (M:List Ln) (s:Int):List Int:=(M.filter fun x=>decide (x.1=s)).map (·.2)
def z1m (T:List Tk) (M:List Ln) (s:Int):Int:=z1k (z1f T s++z1a M s)
theorem tkparts_take (T:List Tk) (s:Int) (j:Nat) (h:j<T.length):z1f (T.take (j+1)) s=z1f (T.take j) s++(if (T.getD j tk0).2.1=s then [(T.getD j tk0).2.2.2] else []):=by
 unfold z1f
 rw [List.take_add_one,List.getElem?_eq_getElem h,List.filter_append,List.map_append]
 have e:T.getD j tk0=T[j]:=by simp [List.getD,List.getElem?_eq_getElem h]
 rw [e]
 by_cases hk:T[j].2.1=s <;> simp [hk]
theorem z4h (M:List Ln) (s:Int) (j:Nat) (h:j<M.length):z1a (M.take (j+1)) s=z1a (M.take j) s++(if (M.getD j l0).1=s then [(M.getD j l0).2] else []):=by
 unfold z1a
 rw [List.take_add_one,List.getElem?_eq_getElem h,List.filter_append,List.map_append]
 have e:M.getD j l0=M[j]:=by simp [List.getD,List.getElem?_eq_getElem h]
 rw [e]
 by_cases hk:M[j].1=s <;> simp [hk]
theorem tkparts_in {T:List Tk} (h:∀ x∈T,Tkok x) (s:Int):∀ z∈z1f T s,In64 z:=by
 intro z hz
 obtain⟨x,hx,rfl⟩:=List.mem_map.1 hz
 exact (h x (List.mem_filter.1 hx).1).2.2.2
theorem z7g {M:List Ln} (h:∀ x∈M,Lnok x) (s:Int):∀ z∈z1a M s,In64 z:=by
 intro z hz
 obtain⟨x,hx,rfl⟩:=List.mem_map.1 hz
 exact (h x (List.mem_filter.1 hx).1).2
def z6i (s w o:Int) (T:List Tk) (j:Nat):Bool :=
 decide ((T.getD j tk0).1=o) && decide ((T.getD j tk0).2.1<s) && decide ((T.getD j tk0).2.2.1<w) && decide (1≤(T.getD j tk0).2.2.2) &&
 (decide (j=0) || decide ((T.getD (j-1) tk0).2.2.1<(T.getD j tk0).2.2.1) || (decide ((T.getD (j-1) tk0).2.2.1=(T.getD j tk0).2.2.1) && decide ((T.getD (j-1) tk0).2.1<(T.getD j tk0).2.1))) &&
 (decide (j<3) || decide ((T.getD (j-3) tk0).2.2.1≠(T.getD j tk0).2.2.1))
def z0x (s w o:Int) (T:List Tk):Bool:=(List.range T.length).all (z6i s w o T) && decide (T.length≤12)
theorem takes_false (s w o:Int) (T:List Tk) (j:Nat) (h:j<T.length) (hf:z6i s w o T j=false):z0x s w o T=false:=by
 unfold z0x
 cases hc:(List.range T.length).all (z6i s w o T) with
 | false=>rfl
 | true =>
  have:=List.all_eq_true.1 hc j (List.mem_range.2 h)
  rw [hf] at this
  cases this
theorem takes_true (s w o:Int) (T:List Tk) (h:∀ j,j<T.length→z6i s w o T j=true):z0x s w o T=decide (T.length≤12):=by
 unfold z0x
 have:(List.range T.length).all (z6i s w o T)=true:=by
  rw [List.all_eq_true]
  exact fun j hj=>h j (List.mem_range.1 hj)
 rw [this];rfl
def z5d (T:List Tk) (M L:List Ln) (s:Nat):Bool:=okB (z1m T M s) && okB (z1m [] L s) && decide (z1m T M s=z1m [] L s)
def z2x (T:List Tk) (M L:List Ln):Bool:=(List.range 4).all (z5d T M L)
theorem cover_false (T:List Tk) (M L:List Ln) (j:Nat) (h:j<4) (hf:z5d T M L j=false):z2x T M L=false:=by
 unfold z2x
 cases hc:(List.range 4).all (z5d T M L) with
 | false=>rfl
 | true =>
  have:=List.all_eq_true.1 hc j (List.mem_range.2 h)
  rw [hf] at this
  cases this
theorem cover_true (T:List Tk) (M L:List Ln) (h:∀ j,j<4→z5d T M L j=true):z2x T M L=true:=by
 unfold z2x
 rw [List.all_eq_true]
 exact fun j hj=>h j (List.mem_range.1 hj)
def z5g (sk to:Int) (T:List Tk) (j:Nat):Bool :=
 decide ((T.getD j tk0).1≠0) && decide ((T.getD j tk0).2.1=sk) && decide ((T.getD j tk0).2.2.1=to) && decide (1≤(T.getD j tk0).2.2.2) && (List.range j).all fun k=>decide ((T.getD k tk0).1≠(T.getD j tk0).1)
def z3h (sk to q:Int) (T:List Tk):Bool:=(List.range T.length).all (z5g sk to T) && (decide (T.length≤12) && okB (z1m T [] sk) && decide (z1m T [] sk≤q))
theorem fills_false (sk to q:Int) (T:List Tk) (j:Nat) (h:j<T.length) (hf:z5g sk to T j=false):z3h sk to q T=false:=by
 unfold z3h
 cases hc:(List.range T.length).all (z5g sk to T) with
 | false=>rfl
 | true =>
  have:=List.all_eq_true.1 hc j (List.mem_range.2 h)
  rw [hf] at this
  cases this
theorem fills_true (sk to q:Int) (T:List Tk) (h:∀ j,j<T.length→z5g sk to T j=true):z3h sk to q T=(decide (T.length≤12) && okB (z1m T [] sk) && decide (z1m T [] sk≤q)):=by
 unfold z3h
 have:(List.range T.length).all (z5g sk to T)=true:=by
  rw [List.all_eq_true]
  exact fun j hj=>h j (List.mem_range.1 hj)
 rw [this];rfl
def qofP (P:Pg):Pg :=
 if P.kind=1 then { P with sku:=0,frm:=0,to:=0,qty:=0 } else
 if P.kind=2 then { P with policy:=0,lines:=[],sku:=0,frm:=0,to:=0,qty:=0 } else
 if P.kind=3∨P.kind=4 then { P with policy:=0,lines:=[],owes:=[],sku:=0,frm:=0,to:=0,qty:=0 } else
 if P.kind=5 then { P with order:=0,policy:=0,lines:=[],owes:=[],frm:=0 } else
 { P with order:=0,policy:=0,lines:=[],takes:=[],owes:=[] }
def askP (s w:Int) (P:Pg):Bool :=
 if P.kind=1 then decide (P.order≠0) && decide (P.policy≤1) && decide (1≤P.lines.length) && z0t s P.lines && z0x s w P.order P.takes && z0t s P.owes && z2x P.takes P.owes P.lines && (decide (P.policy=0) || decide (P.owes.length=0)) else
 if P.kind=2 then decide (P.order≠0) && z0x s w P.order P.takes && z0t s P.owes && decide (1≤P.takes.length+P.owes.length) else
 if P.kind=3∨P.kind=4 then decide (P.order≠0) && z0x s w P.order P.takes && decide (1≤P.takes.length) else
 if P.kind=5 then decide (P.sku<s) && decide (P.to<w) && decide (1≤P.qty) && z3h P.sku P.to P.qty P.takes else
 if P.kind=6 then decide (P.sku<s) && decide (P.frm<w) && decide (P.to<w) && decide (P.frm≠P.to) && decide (1≤P.qty) else false
def z0w (s w:Int) (P:Pg):Bool:=z0s s w && askP s w P && decide (P=qofP P)
abbrev Stp:=Int × Int × List Ln
def lnT (x:Tk):Ln:=(x.2.1,x.2.2.2)
def z6t (t:Int) (S:List Stp) (x:Tk):List Stp :=
 match S.getLast? with
 | some l=>if l.2.1=x.2.2.1 then S.dropLast ++ [(l.1,l.2.1,l.2.2 ++ [lnT x])] else S ++ [(t,x.2.2.1,[lnT x])]
 | none=>[(t,x.2.2.1,[lnT x])]
def z1l (t:Int) (T:List Tk):List Stp:=T.foldl (z6t t) []
theorem z7i (t:Int) (S:List Stp) (l:Stp) (x:Tk) (h:l.2.1=x.2.2.1):z6t t (S ++ [l]) x=S ++ [(l.1,l.2.1,l.2.2 ++ [lnT x])]:=by
 unfold z6t
 rw [List.getLast?_concat]
 simp [h]
theorem z8e (t:Int) (S:List Stp) (l:Stp) (x:Tk) (h:l.2.1≠x.2.2.1):z6t t (S ++ [l]) x=S ++ [l] ++ [(t,x.2.2.1,[lnT x])]:=by
 unfold z6t
 rw [List.getLast?_concat]
 simp [h]
theorem z4d (t:Int) (T:List Tk) (j:Nat) (h:j<T.length):z1l t (T.take (j+1))=z6t t (z1l t (T.take j)) (T.getD j tk0):=by
 unfold z1l
 rw [List.take_add_one,List.getElem?_eq_getElem h,List.foldl_append]
 simp [List.getD,List.getElem?_eq_getElem h]
structure Run (t:Int) (T:List Tk) (j:Nat) (S:List Stp) (L:List Ln) (q:Nat):Prop where
 eq:z1l t (T.take j)=S ++ [(t,(T.getD (j-1) tk0).2.2.1,L)]
 len:L.length=q
 one:1≤q
 le:q≤j
 same:∀ i,i<q→(T.getD (j-1-i) tk0).2.2.1=(T.getD (j-1) tk0).2.2.1
 last:L.getD (q-1) l0=lnT (T.getD (j-1) tk0)
 stop:q<j→(T.getD (j-1-q) tk0).2.2.1≠(T.getD (j-1) tk0).2.2.1
theorem z6v {α:Type} (L:List α) (x d:α):(L ++ [x]).getD L.length d=x:=by simp [List.getD]
theorem z4x {α:Type} (L M:List α) (d:α) (j:Nat) (h:j<L.length):(L++M).getD j d=L.getD j d:=by
 simp [List.getD,List.getElem?_append_left h]
theorem z9k (t:Int) (T:List Tk):∀ j,1≤j→j≤T.length→∃ S L q,Run t T j S L q
 | 0,h,_=>by omega
 | 1,_,h=>by
  refine⟨[],[lnT (T.getD 0 tk0)],1,?_,rfl,Nat.le_refl _,Nat.le_refl _,fun i hi=>?_,rfl,fun h=>by omega⟩
  · rw [z4d t T 0 h];rfl
  · obtain rfl:i=0:=by omega
    rfl
 | j+2,_,h=>by
  obtain⟨S,L,q,R⟩:=z9k t T (j+1) (by omega) (by omega)
  have he:=z4d t T (j+1) (by omega)
  have e1:j+1-1=j:=rfl
  have e2:j+2-1=j+1:=rfl
  have hR:=R.eq
  have hsame:=R.same
  have hlast:=R.last
  have hstop:=R.stop
  have hlen:=R.len
  have hle:=R.le
  have hone:=R.one
  rw [e1] at hR hsame hlast hstop
  by_cases hw:(T.getD j tk0).2.2.1=(T.getD (j+1) tk0).2.2.1
  · refine⟨S,L ++ [lnT (T.getD (j+1) tk0)],q+1,?_,by simp [hlen],by omega,by omega,fun i hi=>?_,?_,fun hq=>?_⟩
    · rw [he,hR,z7i t S _ _ hw,e2,← hw]
    · rw [e2]
      cases i with
      | zero=>rfl
      | succ i =>
       have:j+1-(i+1)=j-i:=by omega
       rw [this,← hw]
       exact hsame i (by omega)
    · rw [e2,Nat.add_sub_cancel,← hlen,z6v]
    · rw [e2]
      have:j+1-(q+1)=j-q:=by omega
      rw [this,← hw]
      exact hstop (by omega)
  · refine⟨S ++ [(t,(T.getD j tk0).2.2.1,L)],[lnT (T.getD (j+1) tk0)],1,?_,rfl,Nat.le_refl _,by omega,fun i hi=>?_,rfl,fun hq=>?_⟩
    · rw [he,hR,z8e t S _ _ hw,e2]
    · obtain rfl:i=0:=by omega
      rfl
    · rw [e2]
      exact hw
def z3u (s w:Int) (S:List Stp) (j:Nat):Bool:=(decide (j=0) || decide ((S.getD (j-1) (0,0,[])).2.1<(S.getD j (0,0,[])).2.1)) && z4f s w (S.getD j (0,0,[])).1 (S.getD j (0,0,[])).2.1 (S.getD j (0,0,[])).2.2
def z9c (s w:Int) (S:List Stp):Prop:=∀ j,j<S.length→z3u s w S j=true
theorem house_left (s w:Int) (S M:List Stp) (j:Nat) (h:j<S.length):z3u s w (S++M) j=z3u s w S j:=by
 unfold z3u
 rw [z4x S M _ j h,z4x S M _ (j-1) (by omega)]
theorem z4v (s w:Int) (S:List Stp) (l:Stp):z9c s w (S ++ [l]) ↔ z9c s w S∧(S=[]∨((S.getD (S.length-1) (0,0,[])).2.1<l.2.1))∧z4f s w l.1 l.2.1 l.2.2=true:=by
 have hl:z3u s w (S ++ [l]) S.length=((decide (S=[]) || decide ((S.getD (S.length-1) (0,0,[])).2.1<l.2.1)) && z4f s w l.1 l.2.1 l.2.2):=by
  unfold z3u
  rw [z6v]
  by_cases h0:S=[]
  · subst h0;simp
  · have:S.length≠0:=fun h=>h0 (List.eq_nil_of_length_eq_zero h)
    rw [z4x S [l] _ (S.length-1) (by omega)]
    simp [h0]
 constructor
 · intro h
   have h2:=h S.length (by simp)
   rw [hl] at h2
   simp only [Bool.and_eq_true,Bool.or_eq_true,decide_eq_true_eq] at h2
   exact⟨fun j hj=>by rw [← house_left s w S [l] j hj];exact h j (by simp;omega),h2.1,h2.2⟩
 · rintro ⟨h1,h2,h3⟩ j hj
   by_cases hjl:j<S.length
   · rw [house_left s w S [l] j hjl];exact h1 j hjl
   · obtain rfl:j=S.length:=by simp at hj;omega
     rw [hl]
     simp only [Bool.and_eq_true,Bool.or_eq_true,decide_eq_true_eq]
     exact⟨h2,h3⟩
def z5z (s w:Int) (T:List Tk) (j:Nat):Prop :=
 (T.getD j tk0).2.1<s∧(T.getD j tk0).2.2.1<w∧1≤(T.getD j tk0).2.2.2 ∧
 (j=0∨(T.getD (j-1) tk0).2.2.1<(T.getD j tk0).2.2.1∨((T.getD (j-1) tk0).2.2.1=(T.getD j tk0).2.2.1∧(T.getD (j-1) tk0).2.1<(T.getD j tk0).2.1)) ∧
 (j<3∨(T.getD (j-3) tk0).2.2.1≠(T.getD j tk0).2.2.1)
theorem z7z {s w:Int} {T:List Tk} {j:Nat} (h:∀ i,i<j→z5z s w T i):∀ k,k<j→(T.getD (j-1-k) tk0).2.2.1≤(T.getD (j-1) tk0).2.2.1
 | 0,_=>Int.le_refl _
 | k+1,hk=>by
  have h1:=z7z h k (by omega)
  have h2:=(h (j-1-k) (by omega)).2.2.2.1
  have e:j-1-k-1=j-1-(k+1):=by omega
  rw [e] at h2
  omega
theorem good_one (s w t r:Int) (x:Ln) (hs:z0s s w=true) (ht:1≤t∧t≤6):z4f s w t r [x]=true ↔ x.1<s∧1≤x.2∧r<w:=by
 unfold z4f
 rw [hs,decide_eq_true (show 1≤t∧t≤8 by omega),if_neg (show ¬ 7≤t by omega)]
 simp [z0t,z3b,List.range_succ]
 omega
theorem lines_snoc (s:Int) (L:List Ln) (x:Ln) (h1:1≤L.length):z0t s (L ++ [x])=true ↔ z0t s L=true∧x.1<s∧1≤x.2∧(L.getD (L.length-1) l0).1<x.1∧L.length+1≤3:=by
 have hl:∀ j,j<L.length→z3b s (L ++ [x]) j=z3b s L j:=fun j hj=>by
  unfold z3b
  rw [z4x L [x] _ j hj,z4x L [x] _ (j-1) (by omega)]
 have hx:z3b s (L ++ [x]) L.length=(decide (x.1<s) && decide (1≤x.2) && decide ((L.getD (L.length-1) l0).1<x.1)):=by
  unfold z3b
  rw [z6v,z4x L [x] _ (L.length-1) (by omega),decide_eq_false (show ¬ L.length=0 by omega),Bool.false_or]
 have hall:(List.range (L ++ [x]).length).all (z3b s (L ++ [x]))=((List.range L.length).all (z3b s L) && z3b s (L ++ [x]) L.length):=by
  rw [List.length_append,List.length_singleton,List.range_succ,List.all_append]
  congr 1
  · rw [Bool.eq_iff_iff,List.all_eq_true,List.all_eq_true]
    constructor
    · intro h j hj;rw [← hl j (List.mem_range.1 hj)];exact h j hj
    · intro h j hj;rw [hl j (List.mem_range.1 hj)];exact h j hj
  · simp
 unfold z0t
 rw [hall,hx]
 simp only [Bool.and_eq_true,decide_eq_true_eq,List.length_append,List.length_singleton]
 constructor
 · rintro ⟨⟨h1,⟨h2,h3⟩,h4⟩,h5⟩;exact⟨⟨h1,by omega⟩,h2,h3,h4,h5⟩
 · rintro ⟨⟨h1,_⟩,h2,h3,h4,h5⟩;exact⟨⟨h1,⟨h2,h3⟩,h4⟩,h5⟩
theorem good_snoc (s w t r:Int) (L:List Ln) (x:Ln) (h1:1≤L.length):z4f s w t r (L ++ [x])=true ↔ z4f s w t r L=true∧x.1<s∧1≤x.2∧(L.getD (L.length-1) l0).1<x.1∧L.length+1≤3:=by
 have h:=lines_snoc s L x h1
 unfold z4f
 simp only [Bool.and_eq_true,decide_eq_true_eq,List.length_append,List.length_singleton]
 rw [h]
 constructor
 · rintro ⟨⟨⟨⟨a,b⟩,c⟩,d,e⟩,f⟩;exact⟨⟨⟨⟨⟨a,b⟩,h1⟩,d⟩,f⟩,e⟩
 · rintro ⟨⟨⟨⟨⟨a,b⟩,c⟩,d⟩,f⟩,e⟩;exact⟨⟨⟨⟨a,b⟩,by omega⟩,d,e⟩,f⟩
theorem house_takes (s w t:Int) (T:List Tk) (hs:z0s s w=true) (ht:1≤t∧t≤6):∀ j,j≤T.length→(z9c s w (z1l t (T.take j)) ↔ ∀ i,i<j→z5z s w T i)
 | 0,_=>by
  constructor
  · intro _ i hi;omega
  · intro _ i hi
    simp [z1l] at hi
 | 1,h=>by
  rw [z4d t T 0 h]
  have e:z6t t (z1l t (T.take 0)) (T.getD 0 tk0)=[] ++ [(t,(T.getD 0 tk0).2.2.1,[lnT (T.getD 0 tk0)])]:=rfl
  rw [e,z4v]
  dsimp only
  rw [good_one s w t _ _ hs ht]
  constructor
  · rintro ⟨_,_,h1,h2,h3⟩ i hi
    obtain rfl:i=0:=by omega
    exact⟨h1,h3,h2,.inl rfl,.inl (by omega)⟩
  · intro h
    obtain⟨h1,h2,h3,_⟩:=h 0 (by omega)
    exact⟨fun i hi=>absurd hi (Nat.not_lt_zero i),.inl rfl,h1,h3,h2⟩
 | j+2,h=>by
  have ih:=house_takes s w t T hs ht (j+1) (by omega)
  obtain⟨S,L,q,R⟩:=z9k t T (j+1) (by omega) (by omega)
  have hR:=R.eq
  have hsame:=R.same
  have hlast:=R.last
  have hstop:=R.stop
  have hlen:=R.len
  have hle:=R.le
  have hone:=R.one
  have e1:j+1-1=j:=rfl
  rw [e1] at hR hsame hlast hstop
  rw [z4d t T (j+1) (by omega)]
  rw [hR] at ih
  have hsplit:(∀ i,i<j+2→z5z s w T i) ↔ (∀ i,i<j+1→z5z s w T i)∧z5z s w T (j+1):=by
   constructor
   · intro h;exact⟨fun i hi=>h i (by omega),h (j+1) (by omega)⟩
   · rintro ⟨h1,h2⟩ i hi
     by_cases hij:i<j+1
     · exact h1 i hij
     · obtain rfl:i=j+1:=by omega
       exact h2
  rw [hsplit,← ih,hR]
  by_cases hw:(T.getD j tk0).2.2.1=(T.getD (j+1) tk0).2.2.1
  · rw [z7i t S _ _ hw]
    dsimp only
    rw [z4v,z4v]
    dsimp only
    rw [good_snoc s w t _ L _ (by omega),hlen,hlast]
    unfold lnT z5z
    dsimp only
    have e3:j+1-3=j-2:=by omega
    try simp only [e1,e3]
    constructor
    · rintro ⟨a,b,c,d,e,f,g⟩
      refine⟨⟨a,b,c⟩,d,?_,e,.inr (.inr ⟨hw,f⟩),?_⟩
      · have:=(good_parts c).2.2.2.2.2
        rw [if_neg (by omega)] at this
        omega
      · by_cases h3:j+1<3
        · exact .inl h3
        · refine .inr fun hc=>?_
          have hall:=ih.1 ((z4v s w S _).2 ⟨a,b,c⟩)
          have r1:=z7z hall 1 (by omega)
          have r2:=(hall (j-1) (by omega)).2.2.2.1
          rw [e1] at r1
          have e2:j-1-1=j-2:=by omega
          rw [e2] at r2
          rcases (by omega:q=1∨q=2) with rfl | rfl
          · exact hstop (by omega) (by omega)
          · exact hstop (by omega) (by omega)
    · rintro ⟨⟨a,b,c⟩,d,d2,e,f,g⟩
      refine⟨a,b,c,d,e,by omega,?_⟩
      by_cases hq:q+1≤3
      · exact hq
      · have:=hsame 2 (by omega)
        omega
  · rw [z8e t S _ _ hw,z4v]
    dsimp only
    rw [good_one s w t _ _ hs ht]
    have hg:(S ++ [((t,(T.getD j tk0).2.2.1,L):Stp)]).getD ((S ++ [((t,(T.getD j tk0).2.2.1,L):Stp)]).length-1) (0,0,[])=(t,(T.getD j tk0).2.2.1,L):=by
     rw [List.length_append,List.length_singleton,Nat.add_sub_cancel,z6v]
    rw [hg]
    unfold lnT z5z
    dsimp only
    have e3:j+1-3=j-2:=by omega
    try simp only [e1,e3]
    constructor
    · rintro ⟨a,b,c,d,e⟩
      have hb:(T.getD j tk0).2.2.1<(T.getD (j+1) tk0).2.2.1:=by
       rcases b with b | b
       · simp at b
       · exact b
      refine⟨a,c,e,d,.inr (.inl hb),?_⟩
      by_cases h3:j+1<3
      · exact .inl h3
      · have hall:=ih.1 a
        have r1:=z7z hall 2 (by omega)
        rw [e1] at r1
        exact .inr (by omega)
    · rintro ⟨a,c,e,d,f,_⟩
      exact⟨a,.inr (by omega),c,d,e⟩
theorem z5i (s w o:Int) (T:List Tk):z0x s w o T=true ↔ T.length≤12∧(∀ j,j<T.length→(T.getD j tk0).1=o)∧∀ j,j<T.length→z5z s w T j:=by
 unfold z0x
 rw [Bool.and_eq_true,List.all_eq_true]
 simp only [List.mem_range,decide_eq_true_eq]
 have:∀ j,z6i s w o T j=true ↔ (T.getD j tk0).1=o∧z5z s w T j:=fun j=>by
  unfold z6i z5z
  simp only [Bool.and_eq_true,Bool.or_eq_true,decide_eq_true_eq]
  constructor
  · rintro ⟨⟨⟨⟨⟨a,b⟩,c⟩,d⟩,e⟩,f⟩
    refine⟨a,b,c,d,?_,f⟩
    rcases e with (e | e) | e
    · exact .inl e
    · exact .inr (.inl e)
    · exact .inr (.inr e)
  · rintro ⟨a,b,c,d,e,f⟩
    refine⟨⟨⟨⟨⟨a,b⟩,c⟩,d⟩,?_⟩,f⟩
    rcases e with e | e | e
    · exact .inl (.inl e)
    · exact .inl (.inr e)
    · exact .inr e
 constructor
 · rintro ⟨h1,h2⟩
   exact⟨h2,fun j hj=>((this j).1 (h1 j hj)).1,fun j hj=>((this j).1 (h1 j hj)).2⟩
 · rintro ⟨h1,h2,h3⟩
   exact⟨fun j hj=>(this j).2 ⟨h2 j hj,h3 j hj⟩,h1⟩
theorem house_all (s w o:Int) (T:List Tk) (hs:z0s s w=true):z0x s w o T=true ↔ T.length≤12∧(∀ j,j<T.length→(T.getD j tk0).1=o)∧z9c s w (z1l 1 T):=by
 rw [z5i]
 have:=house_takes s w 1 T hs (by omega) T.length (Nat.le_refl _)
 rw [List.take_length] at this
 rw [this]
theorem tkparts_none (T:List Tk) (s:Int) (h:∀ x∈T,x.2.1≠s):z1f T s=[]:=by
 unfold z1f
 rw [List.map_eq_nil_iff,List.filter_eq_nil_iff]
 intro x hx
 simpa using h x hx
theorem lnparts_none (M:List Ln) (s:Int) (h:∀ x∈M,x.1≠s):z1a M s=[]:=by
 unfold z1a
 rw [List.map_eq_nil_iff,List.filter_eq_nil_iff]
 intro x hx
 simpa using h x hx
theorem z7r {L:List Ln} (h:∀ x∈L,Lnok x) {j:Nat} (hj:j<L.length):Lnok (L.getD j l0):=by
 rw [List.getD,List.getElem?_eq_getElem hj]
 exact h _ (List.getElem_mem _)
theorem z5s {α:Type} {L:List α} {x:α} (d:α) (h:x∈L):∃ j,j<L.length∧L.getD j d=x:=by
 obtain⟨j,hj,rfl⟩:=List.mem_iff_getElem.1 h
 exact⟨j,hj,by simp [List.getD,List.getElem?_eq_getElem hj]⟩
theorem z6f {s:Int} {L:List Ln} (h:z0t s L=true):L.length≤3∧∀ j,j<L.length→z3b s L j=true:=by
 unfold z0t at h
 rw [Bool.and_eq_true,List.all_eq_true] at h
 exact⟨by simpa using h.2,fun j hj=>h.1 j (List.mem_range.2 hj)⟩
theorem lines_sku {s:Int} {L:List Ln} (h:z0t s L=true):∀ x∈L,x.1<s:=by
 intro x hx
 obtain⟨j,hj,rfl⟩:=z5s l0 hx
 have:=(z6f h).2 j hj
 unfold z3b at this
 simp only [Bool.and_eq_true,decide_eq_true_eq] at this
 exact this.1.1
theorem lines_rise {s:Int} {L:List Ln} (h:z0t s L=true):∀ j k,j<k→k<L.length→(L.getD j l0).1<(L.getD k l0).1
 | j,0,h1,_=>by omega
 | j,k+1,h1,h2=>by
  have hk:=(z6f h).2 (k+1) h2
  unfold z3b at hk
  simp only [Bool.and_eq_true,Bool.or_eq_true,decide_eq_true_eq] at hk
  have h3:(L.getD k l0).1<(L.getD (k+1) l0).1:=by
   rcases hk.2 with h | h
   · omega
   · exact h
  rcases (by omega:j=k∨j<k) with rfl | hjk
  · exact h3
  · exact Int.lt_trans (lines_rise h j k hjk (by omega)) h3
theorem parts_one {s:Int} {L:List Ln} (h:z0t s L=true) (a:Int):∀ j,j≤L.length→(z1a (L.take j) a=[]∧∀ i,i<j→(L.getD i l0).1≠a)∨∃ i,i<j∧(L.getD i l0).1=a∧z1a (L.take j) a=[(L.getD i l0).2]
 | 0,_=>.inl ⟨by simp [z1a],fun i hi=>by omega⟩
 | j+1,hj=>by
  rw [z4h L a j (by omega)]
  rcases parts_one h a j (by omega) with ⟨h1,h2⟩ | ⟨i,h1,h2,h3⟩
  · by_cases hc:(L.getD j l0).1=a
    · rw [if_pos hc,h1]
      exact .inr ⟨j,by omega,hc,rfl⟩
    · rw [if_neg hc,h1]
      refine .inl ⟨rfl,fun i hi=>?_⟩
      by_cases hij:i<j
      · exact h2 i hij
      · obtain rfl:i=j:=by omega
        exact hc
  · have:=lines_rise h i j h1 (by omega)
    rw [if_neg (by omega),h3]
    exact .inr ⟨i,by omega,h2,rfl⟩
theorem named_lines_ok {s:Int} {L:List Ln} (h:z0t s L=true) (hok:∀ x∈L,Lnok x) (a:Int):okB (z1m [] L a)=true:=by
 unfold z1m
 have e:z1f [] a=[]:=rfl
 rw [e,List.nil_append]
 have:=parts_one h a L.length (Nat.le_refl _)
 rw [List.take_length] at this
 rcases this with ⟨h1,_⟩ | ⟨i,h1,_,h3⟩
 · rw [h1];rfl
 · rw [h3]
   have:=(z7r hok h1).2
   rw [z6d]
   simpa [z1k] using this
def z3v (T:List Tk) (M L:List Ln) (a:Nat):Bool:=okB (z1m T M a) && decide (z1m T M a=z1m [] L a)
theorem served_cover {s o:Int} {T:List Tk} {M L:List Ln} (h0:0≤s) (h4:s≤4) (hL:z0t s L=true) (hM:z0t s M=true) (hT:∀ x∈T,x.2.1<s) (hok:∀ x∈L,Lnok x):(∀ a:Nat,(a:Int)<s→z3v T M L a=true) ↔ z2x T M L=true:=by
 have hc:∀ a:Nat,z5d T M L a=z3v T M L a:=fun a=>by
  unfold z5d z3v
  rw [named_lines_ok hL hok,Bool.and_true]
 unfold z2x
 rw [List.all_eq_true]
 constructor
 · intro h a ha
   rw [hc]
   by_cases hs:(a:Int)<s
   · exact h a hs
   · have z1:z1f T a=[]:=tkparts_none T a fun x hx=>by have:=hT x hx;omega
     have z2:z1a M a=[]:=lnparts_none M a fun x hx=>by have:=lines_sku hM x hx;omega
     have z3:z1a L a=[]:=lnparts_none L a fun x hx=>by have:=lines_sku hL x hx;omega
     unfold z3v z1m
     rw [z1,z2,z3]
     rfl
 · intro h a ha
   rw [← hc]
   exact h a (List.mem_range.2 (by omega))
theorem takes_sku {s w o:Int} {T:List Tk} (h:z0x s w o T=true):∀ x∈T,x.2.1<s:=by
 intro x hx
 obtain⟨j,hj,rfl⟩:=z5s tk0 hx
 exact (((z5i s w o T).1 h).2.2 j hj).1
def allT (T:List Tk):List Int:=T.map (·.2.2.2)
theorem allT_take (T:List Tk) (j:Nat) (h:j<T.length):allT (T.take (j+1))=allT (T.take j) ++ [(T.getD j tk0).2.2.2]:=by
 unfold allT
 rw [List.take_add_one,List.getElem?_eq_getElem h,List.map_append]
 simp [List.getD,List.getElem?_eq_getElem h]
theorem named_all (T:List Tk) (s:Int) (h:∀ x∈T,x.2.1=s):z1m T [] s=z1k (allT T):=by
 unfold z1m
 have e:z1a [] s=[]:=rfl
 rw [e,List.append_nil]
 unfold z1f allT
 rw [List.filter_eq_self.2 (fun x hx=>by simpa using h x hx)]
end Go.Proofs.YtnpjpelbcmgodaaGreatDoor
