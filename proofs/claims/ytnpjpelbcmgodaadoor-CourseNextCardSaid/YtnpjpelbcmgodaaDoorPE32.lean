import Derived.Test.YtnpjpelbcmgodaaDoorPE14
import Derived.Test.YtnpjpelbcmgodaaDoorPE31
namespace Go.Proofs.YtnpjpelbcmgodaaDoor
open Go.RowKit Go.ChangeShapes Go.WideShapes
set_option linter.unusedVariables false
set_option linter.unusedSimpArgs false
set_option maxRecDepth 10000
abbrev zc:Array Value:=#[.int .u8 0,.int .u32 0,.int .u8 0,.slice none 0 0,.slice none 0 0,.slice none 0 0,.int .u8 0,.int .u8 0,.int .u8 0,.int .i64 0]
def Far (Y:Nat) (p:Option Addr):Prop:=∀ a,p=some a→Y<a.block
theorem z5v {α:Type} {enc:α→List Value} {k:Nat} {d:α} {w:World} {Y:Nat} {p:Option Addr} {n c:Nat} {L:List α} (hf:Far Y p) (hl:SlG enc k d w p n c L) (j:Nat) (v:Value):SlG enc k d (w.setCell ⟨Y,j,none⟩ v) p n c L :=
 hl.turn (by simp [World.setCell]) fun _ a ha _=>Below.heap_setCell _ _ _ _ (by have:=hf a ha;show a.block≠Y;omega)
structure Rx where
 k:Int
 sg:Int
 tx:Int
 st:Int
 cp:Bool
 key:K
 d:Int
 o:Int
 pg:Pg
deriving DecidableEq
structure Rxok (X:Rx):Prop where
 k:0≤X.k∧X.k≤255
 sg:0≤X.sg∧X.sg≤4294967295
 tx:0≤X.tx∧X.tx≤4294967295
 st:0≤X.st∧X.st≤255
 key:Kok X.key
 d:In64 X.d
 o:0≤X.o∧X.o≤255
 pg:Pgok X.pg
def kS (k:Int):Bool:=k==1 || k==2 || k==8 || k==9
def kT (k:Int):Bool:=k==2 || k==3 || k==4 || k==5 || k==6 || k==7
def kB (k:Int):Bool:=k==2
def kA (k:Int):Bool:=k==3 || k==6
def kO (k:Int):Bool:=k==9
def kP (k:Int):Bool:=k==1
def kOk (k:Int):Bool:=k==1 || k==2 || k==3 || k==4 || k==5 || k==6 || k==7 || k==8 || k==9
def z8j (h:Bool) (st:Int) (cp:Bool):Bool:=if h then decide (st<5) else (st==0 && !cp)
def addB (h:Bool) (key:K) (d:Int):Bool:=if h then (z5y 4 4 key.1 key.2.1 key.2.2 && d != 0) && d != -9223372036854775808 else (decide (key=(0,0,0)) && d==0)
def outB (h:Bool) (o:Int):Bool:=if h then (o==1 || o==2) else o==0
def z8t (h:Bool) (pg:Pg):Bool:=if h then z0o 4 4 pg else decide (pg=noP)
def z7s (X:Rx):Bool:=kOk X.k && (kS X.k==(X.sg != 0)) && (kT X.k==(X.tx != 0)) && z8j (kB X.k) X.st X.cp && addB (kA X.k) X.key X.d && outB (kO X.k) X.o && z8t (kP X.k) X.pg
def noX:Rx:=⟨0,0,0,0,false,(0,0,0),0,0,noP⟩
end Go.Proofs.YtnpjpelbcmgodaaDoor
namespace Go.Proofs.YtnpjpelbcmgodaaDoor
open Go.RowKit
set_option linter.unusedVariables false
set_option maxRecDepth 10000
set_option linter.unusedSimpArgs false
def z5n (s:Stp):Prop:=z2z 4 4 s.1 s.2.1 s.2.2=true∧(0≤s.1∧s.1≤255)∧(0≤s.2.1∧s.2.1≤255)∧(∀ y∈s.2.2,Lnok y)∧s.2.2.length≤3
theorem z5e {t r a q:Int} (ht:1≤t∧t≤6) (ha:0≤a∧a<4) (hr:0≤r∧r<4) (hq:1≤q∧q≤9223372036854775807):z5n (t,r,[(a,q)]):=by
 refine⟨(z7l 4 4 t r (a,q) (by decide) ht).2 ⟨ha.2,hq.1,hr.2⟩,⟨by show 0≤t;omega,by show t≤255;omega⟩,⟨hr.1,by show r≤255;omega⟩,fun y hy=>?_,by simp⟩
 obtain rfl:=List.mem_singleton.1 hy
 exact⟨⟨ha.1,by show a≤255;omega⟩,by show -9223372036854775808≤q;omega,hq.2⟩
theorem z7f {t:Int} {M:List Ln} (ht:t=7∨t=8) (h1:1≤M.length) (hM:z0n 4 M=true) (hok:∀ x∈M,Lnok x):z5n (t,0,M):=by
 refine⟨?_,⟨by show 0≤t;omega,by show t≤255;omega⟩,by show (0:Int)≤0∧(0:Int)≤255;omega,hok,(z3h hM).1⟩
 show z2z 4 4 t 0 M=true
 unfold z2z
 rw [hM,decide_eq_true h1,decide_eq_true (show 1≤t∧t≤8 by omega),if_pos (show 7≤t by omega)]
 rfl
theorem pay_fine {a q:Int} (ha:0≤a∧a<4) (hq:1≤q∧q≤9223372036854775807):z5n (8,0,[(a,q)]):=by
 refine z7f (.inr rfl) (by simp) ?_ fun y hy=>?_
 · simp [z0n,z2g,List.range_succ]
   omega
 · obtain rfl:=List.mem_singleton.1 hy
   exact⟨⟨ha.1,by show a≤255;omega⟩,by show -9223372036854775808≤q;omega,hq.2⟩
theorem house_fine {K o:Int} {T:List Tk} (hK:1≤K∧K≤6) (hT:∀ x∈T,Tkok x) (h:z0r 4 4 o T=true):∀ s∈z0y K T,z5n s:=by
 intro s hs
 obtain⟨j,hj,rfl⟩:=List.mem_iff_getElem.1 hs
 have e:(z0y K T)[j]=(z0y K T).getD j (0,0,[]):=by simp [List.getD,List.getElem?_eq_getElem hj]
 rw [e]
 have hh:z6s 4 4 (z0y K T):=by
  have:=(z4z 4 4 K T (by decide) hK T.length (Nat.le_refl _)).2
  rw [List.take_length] at this
  exact this ((z3p 4 4 o T).1 h).2.2
 have h1:=hh j hj
 unfold z2u at h1
 rw [Bool.and_eq_true] at h1
 obtain⟨f1,f2,f3,_⟩:=houses_each K T hT hj
 exact⟨h1.2,by rw [f1];omega,f2,f3,(good_parts h1.2).2.2.2.1⟩
theorem house_len {K o:Int} {T:List Tk} (hT:∀ x∈T,Tkok x) (h:z0r 4 4 o T=true):(z0y K T).length≤4∧(1≤T.length→1≤(z0y K T).length):=by
 have hh:=z7k K o T (fun x hx=>(hT x hx).2.2.1.1) h T.length (Nat.le_refl _)
 rw [List.take_length] at hh
 constructor
 · rw [hh]
   have hl:∀ v,(atS K v T).length≤1:=fun v=>by unfold atS;split <;> simp
   have hflat:∀ f:Nat→List Stp,(List.range 4).flatMap f=f 0++f 1++f 2++f 3:=fun f=>by simp [List.range_succ]
   rw [hflat]
   simp only [List.length_append]
   have:=hl ((0:Nat):Int)
   have:=hl ((1:Nat):Int)
   have:=hl ((2:Nat):Int)
   have:=hl ((3:Nat):Int)
   omega
 · intro h1
   obtain⟨S,L,q,R⟩:=z7c K T T.length h1 (Nat.le_refl _)
   have:=R.eq
   rw [List.take_length] at this
   rw [this]
   simp
theorem z6h:∀ {l:List Int},(∀ x∈l,1≤x)→(l.length:Int)≤z1d l
 | [],_=>by simp [z1d]
 | x::l,h=>by
  have h1:=h x (List.mem_cons.2 (.inl rfl))
  have h2:=z6h (fun y hy=>h y (List.mem_cons.2 (.inr hy)))
  simp only [z1d,List.length_cons]
  omega
theorem cover_some {L M:List Ln} {T:List Tk} (hL:z0n 4 L=true) (h1:1≤L.length) (hok:∀ x∈L,Lnok x) (hc:z2a T M L=true):1≤T.length+M.length:=by
 rcases Nat.lt_or_ge 0 (T.length+M.length) with h | h
 · exact h
 · obtain rfl:T=[]:=List.eq_nil_of_length_eq_zero (by omega)
   obtain rfl:M=[]:=List.eq_nil_of_length_eq_zero (by omega)
   have hl:=(z3h hL).2 0 h1
   unfold z2g at hl
   simp only [Bool.and_eq_true,decide_eq_true_eq] at hl
   have hk:=(z6b hok h1).1.1
   have h2:z3j [] [] L (L.getD 0 l0).1.toNat=true:=by
    unfold z2a at hc
    exact List.all_eq_true.1 hc _ (List.mem_range.2 (by omega))
   unfold z3j at h2
   simp only [Bool.and_eq_true,decide_eq_true_eq] at h2
   have e:(((L.getD 0 l0).1.toNat:Nat):Int)=(L.getD 0 l0).1:=Int.toNat_of_nonneg hk
   rw [e] at h2
   have h3:=h2.2
   have z0:z0x [] [] (L.getD 0 l0).1=0:=rfl
   rw [z0] at h3
   unfold z0x at h3
   have z1:z1c [] (L.getD 0 l0).1=[]:=rfl
   rw [z1,List.nil_append] at h3
   have hm:(L.getD 0 l0).2∈z0w L (L.getD 0 l0).1:=by
    unfold z0w
    refine List.mem_map.2 ⟨L.getD 0 l0,List.mem_filter.2 ⟨?_,by simp⟩,rfl⟩
    rw [List.getD,List.getElem?_eq_getElem h1]
    exact List.getElem_mem _
   have hp:∀ x∈z0w L (L.getD 0 l0).1,1≤x:=fun x hx=>by
    obtain⟨y,hy,rfl⟩:=List.mem_map.1 hx
    obtain⟨j,hj,rfl⟩:=z3c l0 (List.mem_filter.1 hy).1
    have:=(z3h hL).2 j hj
    unfold z2g at this
    simp only [Bool.and_eq_true,decide_eq_true_eq] at this
    exact this.1.2
   have:=z6h hp
   have:=List.length_pos_of_mem hm
   omega
theorem fills_pos {sk to q:Int} {T:List Tk} (h:z1w sk to q T=true) (h1:1≤T.length):1≤z0x T [] sk:=by
 rw [z6n T sk (fills_sku h)]
 have hp:∀ x∈allT T,1≤x:=fun x hx=>by
  obtain⟨y,hy,rfl⟩:=List.mem_map.1 hx
  obtain⟨j,hj,rfl⟩:=z3c tk0 hy
  unfold z1w at h
  rw [Bool.and_eq_true,List.all_eq_true] at h
  have:=h.1 j (List.mem_range.2 hj)
  unfold z3o at this
  simp only [Bool.and_eq_true,decide_eq_true_eq] at this
  exact this.1.2
 have:=z6h hp
 have e:(allT T).length=T.length:=by unfold allT;simp
 omega
theorem z3d {P:Pg} (h:z0o 4 4 P=true) (hok:Pgok P):(1≤(z0l P).length∧(z0l P).length≤5)∧∀ s∈z0l P,z5n s:=by
 obtain⟨k,od,po,L,T,M,sk,fr,to,q⟩:=P
 have h2:(z0i 4 4 && askP 4 4 ⟨k,od,po,L,T,M,sk,fr,to,q⟩ && decide ((⟨k,od,po,L,T,M,sk,fr,to,q⟩:Pg)=qofP ⟨k,od,po,L,T,M,sk,fr,to,q⟩))=true:=h
 have hsk:0≤sk:=hok.sku.1
 have hfr:0≤fr:=hok.frm.1
 have hto:0≤to:=hok.to.1
 have hqq:q≤9223372036854775807:=hok.qty.2
 have house:∀ K:Int,k=K→(K=1∨K=2∨K=3∨K=4)→z0r 4 4 od T=true→(∀ s∈z3s K M,z5n s)→(1≤T.length∨1≤(z3s K M).length)→(1≤(z0l ⟨k,od,po,L,T,M,sk,fr,to,q⟩).length∧(z0l ⟨k,od,po,L,T,M,sk,fr,to,q⟩).length≤5)∧∀ s∈z0l ⟨k,od,po,L,T,M,sk,fr,to,q⟩,z5n s:=by
  intro K hk hK ht ho h1
  subst hk
  rw [z3f hK hok.takes h]
  have hl:=house_len (K:=k) hok.takes ht
  have hol:(z3s k M).length≤1:=by unfold z3s;split <;> (try split) <;> simp
  refine⟨?_,fun s hs=>?_⟩
  · rw [List.length_append]
    rcases h1 with h1 | h1
    · have:=hl.2 h1;omega
    · omega
  rcases List.mem_append.1 hs with hs | hs
  · exact house_fine (by omega) hok.takes ht s hs
  · exact ho s hs
 by_cases k1:k=1
 · subst k1
   rw [ask1] at h2
   simp only [Bool.and_eq_true,decide_eq_true_eq] at h2
   obtain⟨⟨_,⟨⟨⟨⟨⟨⟨⟨_,_⟩,a3⟩,a4⟩,a5⟩,a6⟩,a7⟩,_⟩⟩,_⟩:=h2
   have hs:=cover_some a4 a3 hok.lines a7
   by_cases hm:1≤M.length
   · refine house 1 rfl (by omega) a5 (by rw [z8p hm];exact fun s hs=>by obtain rfl:=List.mem_singleton.1 hs;exact z7f (.inl rfl) hm a6 hok.owes) (.inr (by rw [z8p hm];simp))
   · obtain rfl:M=[]:=List.eq_nil_of_length_eq_zero (by omega)
     exact house 1 rfl (by omega) a5 (by rw [z8f];exact fun s hs=>by cases hs) (.inl (by simpa using hs))
 by_cases k2:k=2
 · subst k2
   rw [ask2] at h2
   simp only [Bool.and_eq_true,decide_eq_true_eq] at h2
   obtain⟨⟨_,⟨⟨⟨_,a2⟩,a3⟩,a4⟩⟩,_⟩:=h2
   by_cases hm:1≤M.length
   · refine house 2 rfl (by omega) a2 (by rw [z8o hm];exact fun s hs=>by obtain rfl:=List.mem_singleton.1 hs;exact z7f (.inr rfl) hm a3 hok.owes) (.inr (by rw [z8o hm];simp))
   · obtain rfl:M=[]:=List.eq_nil_of_length_eq_zero (by omega)
     exact house 2 rfl (by omega) a2 (by rw [z8f];exact fun s hs=>by cases hs) (.inl (by simpa using a4))
 by_cases k3:k=3
 · subst k3
   rw [ask3] at h2
   simp only [Bool.and_eq_true,decide_eq_true_eq] at h2
   obtain⟨⟨_,⟨⟨_,a2⟩,a3⟩⟩,_⟩:=h2
   exact house 3 rfl (by omega) a2 (by rw [z7e (.inl rfl)];exact fun s hs=>by cases hs) (.inl a3)
 by_cases k4:k=4
 · subst k4
   rw [ask4] at h2
   simp only [Bool.and_eq_true,decide_eq_true_eq] at h2
   obtain⟨⟨_,⟨⟨_,a2⟩,a3⟩⟩,_⟩:=h2
   exact house 4 rfl (by omega) a2 (by rw [z7e (.inr rfl)];exact fun s hs=>by cases hs) (.inl a3)
 by_cases k5:k=5
 · subst k5
   rw [z5p od po L T M sk fr to q h]
   have hz:=z8b od po L T M sk fr to q h
   rw [ask5] at h2
   simp only [Bool.and_eq_true,decide_eq_true_eq] at h2
   obtain⟨⟨_,⟨⟨⟨a1,a2⟩,a3⟩,a4⟩⟩,_⟩:=h2
   have hz2:=(z3g _).1 hz
   by_cases ht:1≤T.length
   · rw [if_pos ht]
     have hp:=fills_pos a4 ht
     refine⟨by simp,fun s hs=>?_⟩
     simp only [List.cons_append,List.nil_append,List.mem_cons,List.not_mem_nil,or_false] at hs
     rcases hs with rfl | rfl | rfl
     · exact z5e (by omega) ⟨hsk,a1⟩ ⟨hto,a2⟩ ⟨a3,hqq⟩
     · exact z5e (by omega) ⟨hsk,a1⟩ ⟨hto,a2⟩ ⟨hp,hz2.2⟩
     · exact pay_fine ⟨hsk,a1⟩ ⟨hp,hz2.2⟩
   · rw [if_neg ht]
     refine⟨by simp,fun s hs=>?_⟩
     simp only [List.append_nil,List.mem_cons,List.not_mem_nil,or_false] at hs
     subst hs
     exact z5e (by omega) ⟨hsk,a1⟩ ⟨hto,a2⟩ ⟨a3,hqq⟩
 by_cases k6:k=6
 · subst k6
   rw [z6i od po L T M sk fr to q h]
   rw [ask6] at h2
   simp only [Bool.and_eq_true,decide_eq_true_eq] at h2
   obtain⟨⟨_,⟨⟨⟨⟨a1,a2⟩,a3⟩,_⟩,a5⟩⟩,_⟩:=h2
   refine⟨by simp,fun s hs=>?_⟩
   simp only [List.mem_cons,List.not_mem_nil,or_false] at hs
   rcases hs with rfl | rfl
   · exact z5e (by omega) ⟨hsk,a1⟩ ⟨hfr,a2⟩ ⟨a5,hqq⟩
   · exact z5e (by omega) ⟨hsk,a1⟩ ⟨hto,a3⟩ ⟨a5,hqq⟩
 have:=z4o (s:=4) (w:=4) (P:=⟨k,od,po,L,T,M,sk,fr,to,q⟩) ⟨k1,k2,k3,k4,k5,k6⟩
 rw [h] at this
 cases this
structure Crs where
 sg:Int
 P:Pg
 bk:Bool
 st:Int
 tr:Int
 tx:Int
deriving DecidableEq
structure Crok (c:Crs):Prop where
 sg:0≤c.sg∧c.sg≤4294967295
 P:Pgok c.P
 st:In64 c.st
 tr:In64 c.tr
 tx:0≤c.tx∧c.tx≤4294967295
def lenC (c:Crs):Int:=((z0l c.P).length:Int)
def z2d (c:Crs):Bool:=(c.sg != 0) && z0o 4 4 c.P && decide (0≤c.st) && decide (c.st≤lenC c) && decide (0≤c.tr)
theorem z1q {c:Crs} (h:z2d c=true):c.sg≠0∧z0o 4 4 c.P=true∧0≤c.st∧c.st≤lenC c∧0≤c.tr:=by
 unfold z2d at h
 simp only [Bool.and_eq_true,bne_iff_ne,ne_eq,decide_eq_true_eq] at h
 exact⟨h.1.1.1.1,h.1.1.1.2,h.1.1.2,h.1.2,h.2⟩
theorem z3i {c:Crs} (h:z2d c=true) (hok:Pgok c.P):1≤lenC c∧lenC c≤5:=by
 have:=(z3d (z1q h).2.1 hok).1
 unfold lenC
 omega
def z1k (c:Crs):Int × Bool:=if c.bk then (c.st-1,decide (0<c.st)) else (c.st,decide (c.st<lenC c))
def outC (c:Crs):Int:=if c.bk then 2 else 1
def z7t (c:Crs) (X:Rx):Bool :=
 let bt:=(X.sg==c.sg) && (c.tx==0)
 let wi:=X.tx==c.tx
 if X.k=2 then bt && (z1k c).2 && (X.cp==c.bk) && (X.st==(z1k c).1)
 else if X.k=3∨X.k=6∨X.k=7 then wi
 else if X.k=4 then wi && (z1k c).2
 else if X.k=5 then wi && !c.bk && decide (c.tr<9223372036854775807)
 else if X.k=8 then bt && !c.bk
 else if X.k=9 then bt && !(z1k c).2 && (X.o==outC c)
 else false
def z8s (c:Crs) (X:Rx):Crs :=
 if X.k=2 then { c with tx:=X.tx }
 else if X.k=4 then { c with st:=if c.bk then c.st-1 else c.st+1,tx:=0 }
 else if X.k=5 then { c with tr:=c.tr+1 }
 else if X.k=7 then { c with tx:=0 }
 else if X.k=8 then { c with bk:=true }
 else c
def appX (c:Crs) (X:Rx):Crs × Int :=
 if z2d c=false then (c,12) else if z7s X=false∨X.k=1 then (c,1) else if z7t c X=false then (c,12) else (z8s c X,0)
def noC:Crs:=⟨0,noP,false,0,0,0⟩
def z6t (X:Rx):Crs × Int:=if X.k=1∧z7s X=true then (⟨X.sg,X.pg,false,0,0,0⟩,0) else (noC,1)
def stp0:Stp:=(0,0,[])
def opsT (s:Stp):List O:=opsS s.1 s.2.1 s.2.2
def stpC (c:Crs):Stp:=(z0l c.P).getD (z1k c).1.toNat stp0
def opsC (c:Crs):List O:=if z2d c=false∨(z1k c).2=false then [] else if c.bk then negF (opsT (stpC c)) else opsT (stpC c)
def recK (k sg tx st:Int) (cp:Bool) (key:K) (d o:Int):Rx:=⟨k,sg,tx,st,cp,key,d,o,noP⟩
def z5x (t:Tc):Rx:=if (z2s t).2 then recK 6 0 t.id 0 false (z2s t).1.1 (z2s t).1.2 0 else recK 7 0 t.id 0 false (0,0,0) 0 0
def z4c (c:Crs) (id:Int):Rx:=if (z1k c).2 then recK 2 c.sg id (z1k c).1 c.bk (0,0,0) 0 0 else recK 9 c.sg 0 0 false (0,0,0) 0 (outC c)
def z4v (c:Crs) (t:Tc):Rx:=if t.dn.length<(opsC c).length then recK 3 0 t.id 0 false ((opsC c).getD t.dn.length o0).1 ((opsC c).getD t.dn.length o0).2 0 else recK 4 0 t.id 0 false (0,0,0) 0 0
def z4e (c:Crs) (t:Tc) (retry id:Int):Rx :=
 if z2d c=false then noX
 else if c.tx≠0 then (if t.dd then z5x t else z4v c t)
 else if c.bk=false∧retry<c.tr then recK 8 c.sg 0 0 false (0,0,0) 0 0
 else z4c c id
def z4f (c:Crs) (t:Tc):List O:=if z2d c=false then [] else ((z0l c.P).take c.st.toNat).flatMap opsT++(if c.bk=false∧c.tx≠0 then t.dn else [])
def oppO (o:O):O:=(o.1,if o.2 = -9223372036854775808 then o.2 else -o.2)
def z4s (c:Crs) (t:Tc):List O:=if z2d c=false∨c.bk=false∨c.tx=0 then [] else t.dn.map oppO
end Go.Proofs.YtnpjpelbcmgodaaDoor
namespace Go.Proofs.YtnpjpelbcmgodaaDoor
open Go.RowKit Go.ChangeShapes Go.WideShapes
set_option linter.unusedVariables false
set_option maxRecDepth 10000
set_option linter.unusedSimpArgs false
structure Rv where
 k:Int
 sg:Int
 tx:Int
 st:Int
 cp:Bool
 ka:Int
 kb:Int
 kc:Int
 d:Int
 o:Int
 pk:Int
 od:Int
 po:Int
 lp:Option Addr
 ln:Nat
 lcp:Nat
 tp:Option Addr
 tn:Nat
 tcp:Nat
 wp:Option Addr
 wn:Nat
 wcp:Nat
 sk:Int
 fr:Int
 to:Int
 q:Int
def pcs (r:Rv):Array Value:=#[.int .u8 r.pk,.int .u32 r.od,.int .u8 r.po,.slice r.lp r.ln r.lcp,.slice r.tp r.tn r.tcp,.slice r.wp r.wn r.wcp,.int .u8 r.sk,.int .u8 r.fr,.int .u8 r.to,.int .i64 r.q]
def rcs (r:Rv):Array Value:=#[.int .u8 r.k,.int .u32 r.sg,.int .u32 r.tx,.int .u8 r.st,.bool r.cp,.int .u8 r.ka,.int .u8 r.kb,.int .u8 r.kc,.int .i64 r.d,.int .u8 r.o,.int .u8 r.pk,.int .u32 r.od,.int .u8 r.po,.slice r.lp r.ln r.lcp,.slice r.tp r.tn r.tcp,.slice r.wp r.wn r.wcp,.int .u8 r.sk,.int .u8 r.fr,.int .u8 r.to,.int .i64 r.q]
def rz:Rv:=⟨0,0,0,0,false,0,0,0,0,0,0,0,0,none,0,0,none,0,0,none,0,0,0,0,0,0⟩
def Rv.pg (r:Rv) (L:List Ln) (T:List Tk) (M:List Ln):Pg:=⟨r.pk,r.od,r.po,L,T,M,r.sk,r.fr,r.to,r.q⟩
def Rv.x (r:Rv) (L:List Ln) (T:List Tk) (M:List Ln):Rx:=⟨r.k,r.sg,r.tx,r.st,r.cp,(r.ka,r.kb,r.kc),r.d,r.o,r.pg L T M⟩
abbrev RvM (w:World) (r:Rv) (L:List Ln) (T:List Tk) (M:List Ln):Prop:=PgM w r.lp r.ln r.lcp L r.tp r.tn r.tcp T r.wp r.wn r.wcp M
theorem rz_m (w:World):RvM w rz [] [] []:=⟨SlG.empty _,SlG.empty _,SlG.empty _⟩
theorem z7w (r:Rv):(rcs r).all (·.oneCell')=true:=by simp [rcs,Value.oneCell']
def RB (w:World) (B:Nat) (r:Rv):Prop:=w.heap[B]?=some (.cells (rcs r) 32 (0,0))
theorem RB.later {w w':World} {B:Nat} {r:Rv} (h:RB w B r) (hb:Below w.heap.size w w'):RB w' B r:=z0a h hb
theorem RB.new (w:World) (r:Rv):RB (w.alloc (.cells (rcs r) 32)) w.heap.size r:=z0d _ _
theorem RB.at {w:World} {B:Nat} {r:Rv} (h:RB w B r):w.cell? ⟨B,0,none⟩=some (.int .u8 r.k)∧w.cell? ⟨B,1,none⟩=some (.int .u32 r.sg)∧w.cell? ⟨B,2,none⟩=some (.int .u32 r.tx)∧w.cell? ⟨B,3,none⟩=some (.int .u8 r.st)∧w.cell? ⟨B,4,none⟩=some (.bool r.cp)∧w.cell? ⟨B,5,none⟩=some (.int .u8 r.ka)∧w.cell? ⟨B,6,none⟩=some (.int .u8 r.kb)∧w.cell? ⟨B,7,none⟩=some (.int .u8 r.kc)∧w.cell? ⟨B,8,none⟩=some (.int .i64 r.d)∧w.cell? ⟨B,9,none⟩=some (.int .u8 r.o) :=
 ⟨z0b h rfl,z0b h rfl,z0b h rfl,z0b h rfl,z0b h rfl,z0b h rfl,z0b h rfl,z0b h rfl,z0b h rfl,z0b h rfl⟩
theorem RB.chg {S:Nat→Prop} {w w':World} {B:Nat} {r:Rv} (h:RB w B r) (hc:Chg S w w') (hs:¬ S B):RB w' B r:=(hc.block B (z1b h) hs).trans h
theorem RB.set {w:World} {B:Nat} {r:Rv} (h:RB w B r) (r':Rv):RB (w.setRow B (rcs r')) B r':=setRow_heap _ _ _ _ _ _ h
theorem z2h {ops:Array Oper} {rest:List Oper} {a:Act} {w:World} {Q:Exit→Act→World→Prop} {dst:Option Tmp} {x:Operand} {ty:TypeId} {pos:String} {after:Array Edge} {B:Nat} {r:Rv} (hC:RB w B r) (hx:a.eval x=.pointer (some ⟨B,0,none⟩))
 (h:wpList Tryd.prog ops Q rest (a.put dst (.agg (rcs r))) w):wpList Tryd.prog ops Q (Oper.mk dst (.load 32 x) ty pos after none::rest) a w :=
 wpList_load_row rfl 32 x rfl B hx 32 (rcs r) (0,0) _ hC Tryd.underlying32 rfl (by kernel_rfl) h
theorem z0v {ops:Array Oper} {rest:List Oper} {a:Act} {w:World} {Q:Exit→Act→World→Prop} {dst:Option Tmp} {x:Operand} {ty:TypeId} {pos:String} {after:Array Edge} {gd:Option (Nat × Bool)} {B:Nat} {r:Rv} (hC:RB w B r) (hw:Region.wanted (Oper.mk dst (.load 32 x) ty pos after gd) (yielded ops a.tmps)=true) (hx:a.eval x=.pointer (some ⟨B,0,none⟩))
 (h:wpList Tryd.prog ops Q rest (a.put dst (.agg (rcs r))) w):wpList Tryd.prog ops Q (Oper.mk dst (.load 32 x) ty pos after gd::rest) a w :=
 wpList_step fun K hK=>by
  rw [if_pos hw]
  exact wp_load_row 32 x rfl B hx 32 (rcs r) (0,0) _ hC Tryd.underlying32 rfl (by kernel_rfl) (hK _ _ h)
theorem z7d (r:Rv):∀ j,j<(pcs r).size→(rcs r)[10+j]?=(pcs r)[j]?:=by
 intro j hj
 have h10:j<10:=hj
 rcases (by omega:j=0∨j=1∨j=2∨j=3∨j=4∨j=5∨j=6∨j=7∨j=8∨j=9) with rfl | rfl | rfl | rfl | rfl | rfl | rfl | rfl | rfl | rfl <;> rfl
theorem wpList_load_pr {ops:Array Oper} {rest:List Oper} {a:Act} {w:World} {Q:Exit→Act→World→Prop} {dst:Option Tmp} {x:Operand} {ty:TypeId} {pos:String} {after:Array Edge} {B:Nat} {r:Rv} (hC:RB w B r) (hx:a.eval x=.pointer (some ⟨B,10,none⟩))
 (h:wpList Tryd.prog ops Q rest (a.put dst (.agg (pcs r))) w):wpList Tryd.prog ops Q (Oper.mk dst (.load 26 x) ty pos after none::rest) a w :=
 z2x rfl 26 x rfl B 10 hx 32 (rcs r) (pcs r) (0,0) _ hC (z7d r) Tryd.underlying26 rfl (by kernel_rfl) h
theorem z0j {ops:Array Oper} {rest:List Oper} {a:Act} {w:World} {Q:Exit→Act→World→Prop} {dst:Option Tmp} {x:Operand} {ty:TypeId} {pos:String} {after:Array Edge} {gd:Option (Nat × Bool)} {B:Nat} {r:Rv} (hC:RB w B r) (hw:Region.wanted (Oper.mk dst (.load 26 x) ty pos after gd) (yielded ops a.tmps)=true) (hx:a.eval x=.pointer (some ⟨B,10,none⟩))
 (h:wpList Tryd.prog ops Q rest (a.put dst (.agg (pcs r))) w):wpList Tryd.prog ops Q (Oper.mk dst (.load 26 x) ty pos after gd::rest) a w :=
 wpList_step fun K hK=>by
  rw [if_pos hw]
  unfold Oper.wp execOp
  simp only [hx,Instr.loadAt,Instr.sureAddr,Sem.run_bind,Sem.run_pure,Result.andThen_ok,z1u w B 10 32 26 (rcs r) (pcs r) (0,0) _ hC (z7d r) Tryd.underlying26 rfl (by kernel_rfl)]
  exact hK _ _ h
theorem z0g (r':Rv) {ops:Array Oper} {rest:List Oper} {a:Act} {w:World} {Q:Exit→Act→World→Prop} {dst:Option Tmp} {x y:Operand} {ty:TypeId} {pos:String} {after:Array Edge} {B:Nat} {r:Rv} (hB:RB w B r)
 (hx:a.eval x=.pointer (some ⟨B,0,none⟩)) (hy:a.eval y=.agg (rcs r'))
 (h:wpList Tryd.prog ops Q rest (a.put dst undef) (w.setRow B (rcs r'))):wpList Tryd.prog ops Q (Oper.mk dst (.store 32 x y) ty pos after none::rest) a w :=
 wpList_store_row rfl 32 x y rfl B (rcs r') hx hy 32 (rcs r) hB (by kernel_rfl) rfl (z7w r') h
def Rv.withP (r p:Rv):Rv:={ r with pk:=p.pk,od:=p.od,po:=p.po,lp:=p.lp,ln:=p.ln,lcp:=p.lcp,tp:=p.tp,tn:=p.tn,tcp:=p.tcp,wp:=p.wp,wn:=p.wn,wcp:=p.wcp,sk:=p.sk,fr:=p.fr,to:=p.to,q:=p.q }
theorem pcs_one (r:Rv):(pcs r).all (·.oneCell')=true:=by simp [pcs,Value.oneCell']
structure Cv where
 sg:Int
 p:Rv
 bk:Bool
 st:Int
 tr:Int
 tx:Int
def ccs (c:Cv):Array Value:=#[.int .u32 c.sg,.int .u8 c.p.pk,.int .u32 c.p.od,.int .u8 c.p.po,.slice c.p.lp c.p.ln c.p.lcp,.slice c.p.tp c.p.tn c.p.tcp,.slice c.p.wp c.p.wn c.p.wcp,.int .u8 c.p.sk,.int .u8 c.p.fr,.int .u8 c.p.to,.int .i64 c.p.q,.bool c.bk,.int .i64 c.st,.int .i64 c.tr,.int .u32 c.tx]
def cz:Cv:=⟨0,rz,false,0,0,0⟩
def Cv.x (c:Cv) (L:List Ln) (T:List Tk) (M:List Ln):Crs:=⟨c.sg,c.p.pg L T M,c.bk,c.st,c.tr,c.tx⟩
theorem cz_x:cz.x [] [] []=noC:=rfl
abbrev CvM (w:World) (c:Cv) (L:List Ln) (T:List Tk) (M:List Ln):Prop:=RvM w c.p L T M
theorem ccs_one (c:Cv):(ccs c).all (·.oneCell')=true:=by simp [ccs,Value.oneCell']
def CB (w:World) (B:Nat) (c:Cv):Prop:=w.heap[B]?=some (.cells (ccs c) 28 (0,0))
theorem CB.later {w w':World} {B:Nat} {c:Cv} (h:CB w B c) (hb:Below w.heap.size w w'):CB w' B c:=z0a h hb
theorem CB.new (w:World) (c:Cv):CB (w.alloc (.cells (ccs c) 28)) w.heap.size c:=z0d _ _
theorem CB.lt {w:World} {B:Nat} {c:Cv} (h:CB w B c):B<w.heap.size:=z1b h
theorem CB.at {w:World} {B:Nat} {c:Cv} (h:CB w B c):w.cell? ⟨B,0,none⟩=some (.int .u32 c.sg)∧w.cell? ⟨B,11,none⟩=some (.bool c.bk)∧w.cell? ⟨B,12,none⟩=some (.int .i64 c.st)∧w.cell? ⟨B,13,none⟩=some (.int .i64 c.tr)∧w.cell? ⟨B,14,none⟩=some (.int .u32 c.tx) :=
 ⟨z0b h rfl,z0b h rfl,z0b h rfl,z0b h rfl,z0b h rfl⟩
theorem CB.free {w:World} {B:Nat} {c:Cv} (h:CB w B c) (j:Nat):w.frozen? ⟨B,j,none⟩=false:=z2f j h
theorem CB.put {w:World} {B:Nat} {c:Cv} (h:CB w B c) (j:Nat) (v:Value) (c':Cv) (he:(ccs c).setIfInBounds j v=ccs c'):CB (w.setCell ⟨B,j,none⟩ v) B c':=by
 have:=z2k j v h
 rw [he] at this
 exact this
theorem CB.chg {S:Nat→Prop} {w w':World} {B:Nat} {c:Cv} (h:CB w B c) (hc:Chg S w w') (hs:¬ S B):CB w' B c:=(hc.block B (z1b h) hs).trans h
theorem CB.set {w:World} {B:Nat} {c:Cv} (h:CB w B c) (c':Cv):CB (w.setRow B (ccs c')) B c':=setRow_heap _ _ _ _ _ _ h
theorem z0c {ops:Array Oper} {rest:List Oper} {a:Act} {w:World} {Q:Exit→Act→World→Prop} {dst:Option Tmp} {x:Operand} {ty:TypeId} {pos:String} {after:Array Edge} {B:Nat} {c:Cv} (hC:CB w B c) (hx:a.eval x=.pointer (some ⟨B,0,none⟩))
 (h:wpList Tryd.prog ops Q rest (a.put dst (.agg (ccs c))) w):wpList Tryd.prog ops Q (Oper.mk dst (.load 28 x) ty pos after none::rest) a w :=
 wpList_load_row rfl 28 x rfl B hx 28 (ccs c) (0,0) _ hC Tryd.underlying28 rfl (by kernel_rfl) h
theorem ccs_prog (c:Cv):∀ j,j<(pcs c.p).size→(ccs c)[1+j]?=(pcs c.p)[j]?:=by
 intro j hj
 have h10:j<10:=hj
 rcases (by omega:j=0∨j=1∨j=2∨j=3∨j=4∨j=5∨j=6∨j=7∨j=8∨j=9) with rfl | rfl | rfl | rfl | rfl | rfl | rfl | rfl | rfl | rfl <;> rfl
theorem z1e {ops:Array Oper} {rest:List Oper} {a:Act} {w:World} {Q:Exit→Act→World→Prop} {dst:Option Tmp} {x:Operand} {ty:TypeId} {pos:String} {after:Array Edge} {B:Nat} {c:Cv} (hC:CB w B c) (hx:a.eval x=.pointer (some ⟨B,1,none⟩))
 (h:wpList Tryd.prog ops Q rest (a.put dst (.agg (pcs c.p))) w):wpList Tryd.prog ops Q (Oper.mk dst (.load 26 x) ty pos after none::rest) a w :=
 z2x rfl 26 x rfl B 1 hx 28 (ccs c) (pcs c.p) (0,0) _ hC (ccs_prog c) Tryd.underlying26 rfl (by kernel_rfl) h
theorem z0m (c':Cv) {ops:Array Oper} {rest:List Oper} {a:Act} {w:World} {Q:Exit→Act→World→Prop} {dst:Option Tmp} {x y:Operand} {ty:TypeId} {pos:String} {after:Array Edge} {B:Nat} {c:Cv} (hB:CB w B c)
 (hx:a.eval x=.pointer (some ⟨B,0,none⟩)) (hy:a.eval y=.agg (ccs c'))
 (h:wpList Tryd.prog ops Q rest (a.put dst undef) (w.setRow B (ccs c'))):wpList Tryd.prog ops Q (Oper.mk dst (.store 28 x y) ty pos after none::rest) a w :=
 wpList_store_row rfl 28 x y rfl B (ccs c') hx hy 28 (ccs c) hB (by kernel_rfl) rfl (ccs_one c') h
def Cv.withP (c:Cv) (p:Rv):Cv:={ c with p:=p }
theorem put_cprog (c:Cv) (p:Rv):z7r (ccs c) 1 (pcs p).toList=ccs (c.withP p):=by simp [z7r,ccs,pcs,Cv.withP]
theorem wpList_store_cp (p:Rv) {ops:Array Oper} {rest:List Oper} {a:Act} {w:World} {Q:Exit→Act→World→Prop} {dst:Option Tmp} {x y:Operand} {ty:TypeId} {pos:String} {after:Array Edge} {B:Nat} {c:Cv} (hB:CB w B c)
 (hx:a.eval x=.pointer (some ⟨B,1,none⟩)) (hy:a.eval y=.agg (pcs p))
 (h:wpList Tryd.prog ops Q rest (a.put dst undef) (w.setRow B (ccs (c.withP p)))):wpList Tryd.prog ops Q (Oper.mk dst (.store 26 x y) ty pos after none::rest) a w :=
 wpList_store_part rfl 26 x y rfl B 1 (pcs p) hx hy 28 (ccs c) hB (by kernel_rfl) (by show 1+10≤15;omega) (pcs_one p) (by rw [put_cprog];exact h)
end Go.Proofs.YtnpjpelbcmgodaaDoor
