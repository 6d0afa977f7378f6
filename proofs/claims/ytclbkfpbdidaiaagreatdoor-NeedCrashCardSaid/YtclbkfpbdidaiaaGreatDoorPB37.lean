import Derived.Test.YtclbkfpbdidaiaaGreatDoorPB36
import Derived.Test.YtclbkfpbdidaiaaGreatDoorPB30
namespace Go.Proofs.YtclbkfpbdidaiaaGreatDoor
open Go.Lib (hid)
set_option maxHeartbeats 8000000
open Go.RowKit
set_option linter.unusedVariables false
set_option linter.unusedSimpArgs false
set_option maxRecDepth 10000
def hdC (c:Crs) (M:List Tc) (R:Int):Int:=z1p c (tOf M).dd (tOf M).sz R
def SZ (P:Pg) (M:List Tc):Prop:=∀ t∈M,(t.dd=false→t.sz=17+22*(t.dn.length:Int))∧(t.dd=true→∃ k0:Nat,t.dn.length≤k0∧39+44*(k0:Int)≤attP P∧t.sz=28+22*(k0:Int)+22*((k0:Int)-(t.dn.length:Int)))
theorem SZ.nil (P:Pg):SZ P []:=fun t ht=>by cases ht
theorem SZ.live {P:Pg} {t:Tc} (h:t.dd=false) (hs:t.sz=17+22*(t.dn.length:Int)):SZ P [t]:=fun u hu=>by
 rw [List.mem_singleton] at hu
 subst hu
 exact⟨fun _=>hs,fun e=>by rw [h] at e;cases e⟩
theorem SZ.dead {P:Pg} {t:Tc} (h:t.dd=true) (k0:Nat) (h1:t.dn.length≤k0) (h2:39+44*(k0:Int)≤attP P) (hs:t.sz=28+22*(k0:Int)+22*((k0:Int)-(t.dn.length:Int))):SZ P [t]:=fun u hu=>by
 rw [List.mem_singleton] at hu
 subst hu
 exact⟨(fun e=>by rw [h] at e;cases e),fun _=>⟨k0,h1,h2,hs⟩⟩
theorem z4w {c c':Crs} {X:Rx} (h:appX c X=(c',0)):c'=q0n c X∧z1q X=true∧X.k≠1:=by
 unfold appX at h
 split at h
 · cases h
 split at h
 · cases h
 rename_i h1
 split at h
 · cases h
 simp only [Prod.mk.injEq] at h
 refine⟨h.1.symm,?_,fun e=>h1 (.inr e)⟩
 cases hg:z1q X with
 | true=>rfl
 | false=>exact absurd (.inl hg) h1
section
variable {P:Pg} {R:Int} (hg:z0l 4 4 P=true) (hok:Pgok P) (hR:0≤R∧R≤4)
include hg hok hR
theorem q2p (s:Int) (h:0≤s∧s<lenA P) (k:Nat) (hk:k≤(opsT (stpA P s)).length):39+44*(k:Int)≤attP P:=by
 have _uhg:=hg
 have _uhok:=hok
 have _uhR:=hR
 have hlt:s.toNat<(z0h P).length:=by unfold lenA at h;omega
 have h1:=(q2a (z0h P) (z0h P).length (Nat.le_refl _)).2 s.toNat hlt
 rw [z6s] at h1
 have h2:z6a (stpA P s)≤attP P:=h1
 unfold z6a q3q at h2
 omega
theorem pass_at (s:Int) (h:0≤s∧s<lenA P):z1i ((z0h P).drop s.toNat)=28+22*((opsT (stpA P s)).length:Int)+z1i ((z0h P).drop (s+1).toNat):=by
 have _uhg:=hg
 have _uhok:=hok
 have _uhR:=hR
 have hlt:s.toNat<(z0h P).length:=by unfold lenA at h;omega
 rw [passL_at _ _ hlt,show (s+1).toNat=s.toNat+1 by omega]
 rfl
theorem pass_bk (s:Int) (h:1≤s∧s≤lenA P):z1i ((z0h P).take s.toNat)=28+22*((opsT (stpA P (s-1))).length:Int)+z1i ((z0h P).take (s-1).toNat):=by
 have _uhg:=hg
 have _uhok:=hok
 have _uhR:=hR
 have hlt:(s-1).toNat<(z0h P).length:=by unfold lenA at h;omega
 rw [show s.toNat=(s-1).toNat+1 by omega,passL_one _ _ hlt]
 show z1i _+z8s (stpA P (s-1))=_
 unfold z8s q3m
 omega
theorem z2b (s tr tx:Int) (h:0≤s∧s≤lenA P) (ht:0≤tr∧tr≤R+1):z2q ⟨1,P,false,s,tr,tx⟩ R=z1i ((z0h P).drop s.toNat)+(R+1-tr)*attP P+z1i (z0h P)+23:=by
 have _uhok:=hok
 have hgc:=z2u hg (b:=false) (tx:=tx) (tr:=tr) h ht.1
 unfold z2q
 rw [if_neg (by rw [hgc];simp),if_neg (by simp)]
 have hk:q0q R=R:=by unfold q0q;rw [if_neg (by omega),if_neg (by omega)]
 have hth:thrC ⟨1,P,false,s,tr,tx⟩ R=R+1-tr:=by
  unfold thrC
  rw [hk]
  show (if tr≤R then R+1-tr else 0)=_
  split <;> omega
 rw [hth]
 show z1i ((z0h P).drop s.toNat)+(R+1-tr)*attP P+11+z1i (z0h P)+12=_
 generalize (R+1-tr)*attP P=q
 omega
theorem z3q (s tr tx:Int) (h:0≤s∧s≤lenA P) (ht:0≤tr):z2q ⟨1,P,true,s,tr,tx⟩ R=z1i ((z0h P).take s.toNat)+12:=by
 have _uhok:=hok
 have _uhR:=hR
 have hgc:=z2u hg (b:=true) (tx:=tx) (tr:=tr) h ht
 unfold z2q
 rw [if_neg (by rw [hgc];simp),if_pos rfl]
theorem z3d (b:Bool) (s tr:Int) (h:0≤s∧s≤lenA P) (ht:0≤tr) (dd:Bool) (sz:Int):z1p ⟨1,P,b,s,tr,0⟩ dd sz R=z2q ⟨1,P,b,s,tr,0⟩ R+attP P:=by
 have _uhok:=hok
 have _uhR:=hR
 have hgc:=z2u hg (b:=b) (tx:=0) (tr:=tr) h ht
 unfold z1p
 rw [if_neg (by rw [hgc];simp),if_pos rfl]
theorem z5k (b:Bool) (s tr id:Int) (h:0≤s∧s≤lenA P) (ht:0≤tr) (hiQ:id≠0) (dd:Bool) (sz:Int) (hle:sz≤z2q ⟨1,P,b,s,tr,id⟩ R+attP P+(if dd=true∧b=false then attP P else 0)):z1p ⟨1,P,b,s,tr,id⟩ dd sz R=z2q ⟨1,P,b,s,tr,id⟩ R+attP P+(if dd=true∧b=false then attP P else 0)-sz:=by
 have _uhok:=hok
 have _uhR:=hR
 have hgc:=z2u hg (b:=b) (tx:=id) (tr:=tr) h ht
 unfold z1p
 rw [if_neg (by rw [hgc];simp),if_neg hiQ]
 have:allC ⟨1,P,b,s,tr,id⟩ dd R=z2q ⟨1,P,b,s,tr,id⟩ R+attP P+(if dd=true∧b=false then attP P else 0):=rfl
 rw [this]
 generalize (if dd=true∧b=false then attP P else 0)=y at *
 split <;> omega
structure HOut (c:Crs) (M:List Tc) (X:Rx) (c':Crs) (M':List Tc):Prop where
 sz:SZ P M'
 pos:1≤z0z X
 fall:X.k≠9→z0z X+hdC c' M' R≤hdC c M R
 last:X.k=9→z0z X≤hdC c M R
 nn:0≤hdC c' M' R
omit hg hok hR in
omit hg hok hR in
theorem att_nn:0≤attP P:=by
 have:=(q2a (z0h P) (z0h P).length (Nat.le_refl _)).1
 rwa [z6s] at this
theorem q0w:39≤attP P:=by
 have h5:1≤lenA P:=by
  have:=(z1c hg hok).1
  unfold lenA
  omega
 have:=q2p hg hok hR 0 ⟨Int.le_refl 0,by omega⟩ 0 (Nat.zero_le _)
 omega
theorem rest_nn {c:Crs} {M:List Tc} {m:Int} (h:SI P R c M m):0≤z2q c R∧0≤attP c.P:=by
 have ha:=att_nn (P:=P)
 have hn5:1≤lenA P∧lenA P≤5:=by
  have:=(z1c hg hok).1
  unfold lenA
  omega
 cases h with
 | free s tr h ht =>
  rw [z2b hg hok hR s tr 0 h ht]
  have h1:=z1f ((z0h P).drop s.toNat)
  have h2:=z1f (z0h P)
  have h3:=Int.mul_nonneg (show 0≤R+1-tr by omega) ha
  exact⟨by omega,ha⟩
 | op s tr id sz k h ht hiQ hk =>
  rw [z2b hg hok hR s tr id ⟨h.1,by omega⟩ ⟨ht.1,by omega⟩]
  have h1:=z1f ((z0h P).drop s.toNat)
  have h2:=z1f (z0h P)
  have h3:=Int.mul_nonneg (show 0≤R+1-tr by omega) ha
  exact⟨by omega,ha⟩
 | dead s tr id sz k h ht hiQ hk =>
  rw [z2b hg hok hR s tr id ⟨h.1,by omega⟩ ⟨by omega,by omega⟩]
  have h1:=z1f ((z0h P).drop s.toNat)
  have h2:=z1f (z0h P)
  have h3:=Int.mul_nonneg (show 0≤R+1-tr by omega) ha
  exact⟨by omega,ha⟩
 | back s h =>
  rw [z3q hg hok hR s _ 0 h (by omega)]
  have h1:=z1f ((z0h P).take s.toNat)
  exact⟨by omega,ha⟩
 | undo s id sz k h hiQ hk =>
  rw [z3q hg hok hR s _ id ⟨by omega,h.2⟩ (by omega)]
  have h1:=z1f ((z0h P).take s.toNat)
  exact⟨by omega,ha⟩
end
theorem z3e (c:Crs) (t:Tc) (R:Int) (h:t.sg=1):hdC c [t] R=z1p c t.dd t.sz R:=by
 unfold hdC
 rw [z5h h]
theorem z3n (c:Crs) (R:Int):hdC c [] R=z1p c false 0 R:=rfl
theorem ifz (b:Bool) (a:Int):(if (false:Bool)=true∧b=false then a else 0)=0:=if_neg (by simp)
theorem ifa (a:Int):(if (true:Bool)=true∧(false:Bool)=false then a else 0)=a:=if_pos ⟨rfl,rfl⟩
section
variable {P:Pg} {R:Int} (hg:z0l 4 4 P=true) (hok:Pgok P) (hR:0≤R∧R≤4)
include hg hok hR
theorem nx_free (s tr id:Int) (h:0≤s∧s≤lenA P) (ht:0≤tr) (kill:Bool):z1u ⟨1,P,false,s,tr,0⟩ [] R id kill=if R<tr then recK 8 1 0 0 false (0,0,0) 0 0 else if s<lenA P then recK 2 1 id s false (0,0,0) 0 0 else recK 9 1 0 0 false (0,0,0) 0 1:=by
 have _uhok:=hok
 have _uhR:=hR
 have hgc:=z2u hg (b:=false) (tx:=0) h ht
 have hX0:z1u ⟨1,P,false,s,tr,0⟩ [] R id kill=z2m ⟨1,P,false,s,tr,0⟩ tc0 R id:=by
  unfold z1u
  rw [if_neg (by simp)]
  rfl
 rw [hX0]
 unfold z2m
 rw [if_neg (by rw [hgc];simp),if_neg (by simp)]
 by_cases hr:R<tr
 · rw [if_pos ⟨rfl,hr⟩,if_pos hr]
 · rw [if_neg (fun e=>hr e.2),if_neg hr]
   show (if decide (s<lenA P) then _ else _)=_
   by_cases hs:s<lenA P
   · rw [if_pos (decide_eq_true hs),if_pos hs]
     rfl
   · rw [if_neg (by simp [hs]),if_neg hs]
     rfl
theorem nx_back (s id:Int) (h:0≤s∧s≤lenA P) (kill:Bool):z1u ⟨1,P,true,s,R+1,0⟩ [] R id kill=if 0<s then recK 2 1 id (s-1) true (0,0,0) 0 0 else recK 9 1 0 0 false (0,0,0) 0 2:=by
 have _uhok:=hok
 have hgc:=z2u hg (b:=true) (tr:=R+1) (tx:=0) h (by omega)
 have hX0:z1u ⟨1,P,true,s,R+1,0⟩ [] R id kill=z2m ⟨1,P,true,s,R+1,0⟩ tc0 R id:=by
  unfold z1u
  rw [if_neg (by simp)]
  rfl
 rw [hX0]
 unfold z2m
 rw [if_neg (by rw [hgc];simp),if_neg (by simp),if_neg (by simp)]
 show (if decide (0<s) then _ else _)=_
 by_cases hs:0<s
 · rw [if_pos (decide_eq_true hs),if_pos hs]
   rfl
 · rw [if_neg (by simp [hs]),if_neg hs]
   rfl
theorem nx_op (b:Bool) (s tr id sz s':Int) (k:Nat) (L:List O) (h:0≤s∧s≤lenA P) (ht:0≤tr) (hiQ:id≠0) (hk:k≤L.length) (hop:opsC ⟨1,P,b,s,tr,id⟩=L) (id':Int) (kill:Bool):z1u ⟨1,P,b,s,tr,id⟩ [⟨id,1,s',b,false,L.take k,0,sz⟩] R id' kill=if kill=true∧b=false then recK 5 0 id 0 false (0,0,0) 0 0 else if k<L.length then recK 3 0 id 0 false (L.getD k o0).1 (L.getD k o0).2 0 else recK 4 0 id 0 false (0,0,0) 0 0:=by
 have _uhok:=hok
 have _uhR:=hR
 have hgc:=z2u hg (b:=b) (tx:=id) (tr:=tr) h ht
 obtain⟨t,hT⟩:∃ t:Tc,t=⟨id,1,s',b,false,L.take k,0,sz⟩:=⟨_,rfl⟩
 have htd:t.dd=false:=by rw [hT]
 have htn:t.dn.length=k:=by rw [hT];exact z2c L k hk
 have hti:t.id=id:=by rw [hT]
 have hto:tOf [t]=t:=z5h (by rw [hT])
 rw [← hT]
 unfold z1u
 by_cases hkl:kill=true∧b=false
 · rw [if_pos ⟨hkl.1,hiQ,by rw [hto];exact htd,hkl.2⟩,if_pos hkl]
   rfl
 · rw [if_neg (fun e=>hkl ⟨e.1,e.2.2.2⟩),if_neg hkl,hto]
   unfold z2m
   rw [if_neg (by rw [hgc];simp),if_pos (show id≠0 from hiQ),htd]
   show z3y _ t=_
   unfold z3y
   rw [hop,htn,hti]
theorem nx_dead (s tr id sz:Int) (k:Nat) (L:List O) (h:0≤s∧s≤lenA P) (ht:0≤tr) (hiQ:id≠0) (id':Int) (kill:Bool):z1u ⟨1,P,false,s,tr,id⟩ [⟨id,1,s,false,true,L.take k,0,sz⟩] R id' kill=z4x ⟨id,1,s,false,true,L.take k,0,sz⟩:=by
 have _uhok:=hok
 have _uhR:=hR
 have hgc:=z2u hg (b:=false) (tx:=id) (tr:=tr) h ht
 obtain⟨t,hT⟩:∃ t:Tc,t=⟨id,1,s,false,true,L.take k,0,sz⟩:=⟨_,rfl⟩
 have htd:t.dd=true:=by rw [hT]
 have hto:tOf [t]=t:=z5h (by rw [hT])
 rw [← hT]
 unfold z1u
 rw [if_neg (fun e=>by have:=e.2.2.1;rw [hto,htd] at this;cases this),hto]
 unfold z2m
 rw [if_neg (by rw [hgc];simp),if_pos (show id≠0 from hiQ),htd]
 rfl
theorem hold_free_step {c':Crs} {M':List Tc} {m s tr id:Int} (h:0≤s∧s≤lenA P) (ht:0≤tr∧tr≤R+1) (kill:Bool) (ho:SOut P R ⟨1,P,false,s,tr,0⟩ [] m (z1u ⟨1,P,false,s,tr,0⟩ [] R id kill) c' M'):HOut (P:=P) (R:=R) ⟨1,P,false,s,tr,0⟩ [] (z1u ⟨1,P,false,s,tr,0⟩ [] R id kill) c' M':=by
 have hgc:=z2u hg (b:=false) (tx:=0) h ht.1
 have ha:=q0w hg hok hR
 have hr0:=z2b hg hok hR s tr 0 h ht
 have hc0:=z3d hg hok hR false s tr h ht.1 false 0
 have hp1:=z1f ((z0h P).drop s.toNat)
 have hp2:=z1f (z0h P)
 have hp3:=z7h (z0h P) s.toNat
 have hq:=Int.mul_nonneg (show 0≤R+1-tr by omega) (show 0≤attP P by omega)
 rw [nx_free hg hok hR s tr id h ht.1 kill] at ho ⊢
 by_cases hr:R<tr
 · rw [if_pos hr] at ho ⊢
   obtain⟨e,hgx,hk1⟩:=z4w ho.app
   have e':c'=⟨1,P,true,s,tr,0⟩:=e
   have hM:M'=[]:=ho.same (show ¬ (8:Int)≤7 by decide)
   have hs:z0z (recK 8 1 0 0 false (0,0,0) 0 0)=11:=z2k hgx hk1
   subst e' hM
   have hc1:=z3d hg hok hR true s tr h ht.1 false 0
   have hr1:=z3q hg hok hR s tr 0 h ht.1
   refine⟨SZ.nil P,by omega,fun _=>?_,fun e=>absurd (show (8:Int)=9 from e) (by decide),?_⟩
   · rw [z3n,z3n]
     omega
   · rw [z3n]
     have:=z1f ((z0h P).take s.toNat)
     omega
 rw [if_neg hr] at ho ⊢
 by_cases hs:s<lenA P
 · rw [if_pos hs] at ho ⊢
   obtain⟨e,hgx,hk1⟩:=z4w ho.app
   have e':c'=⟨1,P,false,s,tr,id⟩:=e
   have hz:z0z (recK 2 1 id s false (0,0,0) 0 0)=17:=z2k hgx hk1
   have hM:=ho.jn (show (2:Int)≤7 by decide)
   rw [q0x [] _ hgx rfl,if_neg (by simp [getT])] at hM
   have hM':M'=[⟨id,1,s,false,false,[],0,z0z (recK 2 1 id s false (0,0,0) 0 0)⟩]:=(Prod.mk.inj hM).1.symm
   rw [hz] at hM'
   have hiQ:id≠0:=by
    intro e0
    subst e0
    have:=(goodX_k hgx).2.2.1
    cases this
   subst e' hM'
   have hr1:=z2b hg hok hR s tr id h ht
   have hc1:=z5k hg hok hR false s tr id h ht.1 hiQ false 17 (by rw [ifz,hr1];omega)
   rw [ifz] at hc1
   refine⟨SZ.live rfl (by show (17:Int)=17+22*((0:Nat):Int);omega),by omega,fun _=>?_,fun e=>absurd (show (2:Int)=9 from e) (by decide),?_⟩
   · rw [z3n,z3e _ _ _ rfl]
     show _+z1p _ false 17 R≤_
     omega
   · rw [z3e _ _ _ rfl]
     show 0≤z1p _ false 17 R
     omega
 · rw [if_neg hs] at ho ⊢
   obtain⟨e,hgx,hk1⟩:=z4w ho.app
   have e':c'=⟨1,P,false,s,tr,0⟩:=e
   have hM:M'=[]:=ho.same (show ¬ (9:Int)≤7 by decide)
   have hz:z0z (recK 9 1 0 0 false (0,0,0) 0 1)=12:=z2k hgx hk1
   subst e' hM
   refine⟨SZ.nil P,by omega,fun e=>absurd (show (9:Int)=9 from rfl) e,fun _=>?_,?_⟩
   · rw [z3n]
     omega
   · rw [z3n]
     omega
theorem hold_back_step {c':Crs} {M':List Tc} {m s id:Int} (h:0≤s∧s≤lenA P) (kill:Bool) (ho:SOut P R ⟨1,P,true,s,R+1,0⟩ [] m (z1u ⟨1,P,true,s,R+1,0⟩ [] R id kill) c' M'):HOut (P:=P) (R:=R) ⟨1,P,true,s,R+1,0⟩ [] (z1u ⟨1,P,true,s,R+1,0⟩ [] R id kill) c' M':=by
 have hgc:=z2u hg (b:=true) (tx:=0) (tr:=R+1) h (by omega)
 have ha:=q0w hg hok hR
 have hr0:=z3q hg hok hR s (R+1) 0 h (by omega)
 have hc0:=z3d hg hok hR true s (R+1) h (by omega) false 0
 have hp1:=z1f ((z0h P).take s.toNat)
 rw [nx_back hg hok hR s id h kill] at ho ⊢
 by_cases hs:0<s
 · rw [if_pos hs] at ho ⊢
   obtain⟨e,hgx,hk1⟩:=z4w ho.app
   have e':c'=⟨1,P,true,s,R+1,id⟩:=e
   have hz:z0z (recK 2 1 id (s-1) true (0,0,0) 0 0)=17:=z2k hgx hk1
   have hM:=ho.jn (show (2:Int)≤7 by decide)
   rw [q0x [] _ hgx rfl,if_neg (by simp [getT])] at hM
   have hM':M'=[⟨id,1,s-1,true,false,[],0,z0z (recK 2 1 id (s-1) true (0,0,0) 0 0)⟩]:=(Prod.mk.inj hM).1.symm
   rw [hz] at hM'
   have hiQ:id≠0:=by
    intro e0
    subst e0
    have:=(goodX_k hgx).2.2.1
    cases this
   subst e' hM'
   have hr1:=z3q hg hok hR s (R+1) id h (by omega)
   have hc1:=z5k hg hok hR true s (R+1) id h (by omega) hiQ false 17 (by rw [ifz,hr1];omega)
   rw [ifz] at hc1
   refine⟨SZ.live rfl (by show (17:Int)=17+22*((0:Nat):Int);omega),by omega,fun _=>?_,fun e=>absurd (show (2:Int)=9 from e) (by decide),?_⟩
   · rw [z3n,z3e _ _ _ rfl]
     show _+z1p _ false 17 R≤_
     omega
   · rw [z3e _ _ _ rfl]
     show 0≤z1p _ false 17 R
     omega
 · rw [if_neg hs] at ho ⊢
   obtain⟨e,hgx,hk1⟩:=z4w ho.app
   have e':c'=⟨1,P,true,s,R+1,0⟩:=e
   have hM:M'=[]:=ho.same (show ¬ (9:Int)≤7 by decide)
   have hz:z0z (recK 9 1 0 0 false (0,0,0) 0 2)=12:=z2k hgx hk1
   subst e' hM
   refine⟨SZ.nil P,by omega,fun e=>absurd (show (9:Int)=9 from rfl) e,fun _=>?_,?_⟩
   · rw [z3n]
     omega
   · rw [z3n]
     omega
theorem hold_op_step {c':Crs} {M':List Tc} {m s s' tr id sz:Int} {k:Nat} {b:Bool} {L:List O} (hop:opsC ⟨1,P,b,s,tr,id⟩=L) (h:0≤s∧s≤lenA P) (ht:0≤tr∧tr≤R+1) (hb:b=false→tr≤R) (hiQ:1≤id∧id≤4294967295) (hk:k≤L.length) (hL:39+44*(L.length:Int)≤attP P)
 (hpl:z2q ⟨1,P,b,s,tr,0⟩ R=z2q ⟨1,P,b,if b then s-1 else s+1,tr,0⟩ R+28+22*(L.length:Int)) (hin:0≤(if b then s-1 else s+1)∧(if b then s-1 else s+1)≤lenA P) (hrs:∀ tx,z2q ⟨1,P,b,s,tr,tx⟩ R=z2q ⟨1,P,b,s,tr,0⟩ R) (hrn:0≤z2q ⟨1,P,b,if b then s-1 else s+1,tr,0⟩ R)
 (hrt:b=false→∀ tx,z2q ⟨1,P,b,s,tr+1,tx⟩ R=z2q ⟨1,P,b,s,tr,0⟩ R-attP P∧0≤z2q ⟨1,P,b,s,tr+1,tx⟩ R)
 (hz:SZ P [⟨id,1,s',b,false,L.take k,0,sz⟩]) (id':Int) (kill:Bool) (ho:SOut P R ⟨1,P,b,s,tr,id⟩ [⟨id,1,s',b,false,L.take k,0,sz⟩] m (z1u ⟨1,P,b,s,tr,id⟩ [⟨id,1,s',b,false,L.take k,0,sz⟩] R id' kill) c' M'):HOut (P:=P) (R:=R) ⟨1,P,b,s,tr,id⟩ [⟨id,1,s',b,false,L.take k,0,sz⟩] (z1u ⟨1,P,b,s,tr,id⟩ [⟨id,1,s',b,false,L.take k,0,sz⟩] R id' kill) c' M':=by
 have hn0:id≠0:=by omega
 have ha:=q0w hg hok hR
 have hsz:sz=17+22*(k:Int):=by
  have:=(hz _ (List.mem_singleton.2 rfl)).1 rfl
  rw [show (Tc.dn ⟨id,1,s',b,false,L.take k,0,sz⟩).length=k from z2c L k hk] at this
  exact this
 subst hsz
 have hr0:=hrs id
 have hc0:=z5k hg hok hR b s tr id h ht.1 hn0 false (17+22*(k:Int)) (by rw [ifz,hr0];omega)
 rw [ifz] at hc0
 rw [nx_op hg hok hR b s tr id _ s' k L h ht.1 hn0 hk hop id' kill] at ho ⊢
 obtain⟨t,hT⟩:∃ t:Tc,t=⟨id,1,s',b,false,L.take k,0,17+22*(k:Int)⟩:=⟨_,rfl⟩
 have htd:t.dd=false:=by rw [hT]
 have htn:t.dn.length=k:=by rw [hT];exact z2c L k hk
 have hti:t.id=id:=by rw [hT]
 have hge:getT Tc.id [t] id=some t:=by
  have:=z9a t
  rwa [hti] at this
 have hd0:hdC ⟨1,P,b,s,tr,id⟩ [t] R=z1p ⟨1,P,b,s,tr,id⟩ false (17+22*(k:Int)) R:=by
  rw [z3e _ _ _ (by rw [hT]),hT]
 rw [← hT] at ho ⊢
 by_cases hkl:kill=true∧b=false
 · rw [if_pos hkl] at ho ⊢
   obtain⟨e,hgx,hk1⟩:=z4w ho.app
   have e':c'=⟨1,P,b,s,tr+1,id⟩:=e
   have hzz:z0z (recK 5 0 id 0 false (0,0,0) 0 0)=11:=z2k hgx hk1
   have hM:=ho.jn (show (5:Int)≤7 by decide)
   rw [appC_5 [t] _ hgx rfl hge,if_neg (by rw [htd];simp),z4y (by rfl),hT,hzz] at hM
   have hM':M'=[⟨id,1,s',b,true,L.take k,0,17+22*(k:Int)+11⟩]:=(Prod.mk.inj hM).1.symm
   subst e' hM'
   obtain⟨hr1,hr2⟩:=hrt hkl.2 id
   have hbf:=hkl.2
   have htr:=hb hbf
   subst hbf
   have hc1:=z5k hg hok hR false s (tr+1) id h (by omega) hn0 true (17+22*(k:Int)+11) (by rw [ifa];omega)
   rw [ifa] at hc1
   refine⟨SZ.dead rfl k (by show (L.take k).length≤k;rw [z2c L k hk];exact Nat.le_refl _) (by omega) (by show 17+22*(k:Int)+11=28+22*(k:Int)+22*((k:Int)-((L.take k).length:Int));rw [z2c L k hk];omega),by omega,fun _=>?_,fun e=>absurd (show (5:Int)=9 from e) (by decide),?_⟩
   · rw [hd0,z3e _ _ _ rfl]
     show _+z1p _ true (17+22*(k:Int)+11) R≤_
     omega
   · rw [z3e _ _ _ rfl]
     show 0≤z1p _ true (17+22*(k:Int)+11) R
     omega
 rw [if_neg hkl] at ho ⊢
 by_cases hlt:k<L.length
 · rw [if_pos hlt] at ho ⊢
   obtain⟨e,hgx,hk1⟩:=z4w ho.app
   have e':c'=⟨1,P,b,s,tr,id⟩:=e
   have hzz:z0z (recK 3 0 id 0 false (L.getD k o0).1 (L.getD k o0).2 0)=22:=z2k hgx hk1
   have hM:=ho.jn (show (3:Int)≤7 by decide)
   have h6:¬ (t.dd=true∨6≤t.dn.length):=by
    intro e
    rw [q3j [t] _ hgx rfl hge,if_pos e] at hM
    cases (Prod.mk.inj hM).2
   rw [q3j [t] _ hgx rfl hge,if_neg h6,z4y (by rfl),hT,hzz] at hM
   have hM':M'=[⟨id,1,s',b,false,L.take k ++ [L.getD k o0],0,17+22*(k:Int)+22⟩]:=(Prod.mk.inj hM).1.symm
   rw [q1b L k hlt] at hM'
   subst e' hM'
   have hc1:=z5k hg hok hR b s tr id h ht.1 hn0 false (17+22*(k:Int)+22) (by rw [ifz,hr0];omega)
   rw [ifz] at hc1
   refine⟨SZ.live rfl (by show 17+22*(k:Int)+22=17+22*((L.take (k+1)).length:Int);rw [z2c L (k+1) hlt];omega),by omega,fun _=>?_,fun e=>absurd (show (3:Int)=9 from e) (by decide),?_⟩
   · rw [hd0,z3e _ _ _ rfl]
     show _+z1p _ false (17+22*(k:Int)+22) R≤_
     omega
   · rw [z3e _ _ _ rfl]
     show 0≤z1p _ false (17+22*(k:Int)+22) R
     omega
 · rw [if_neg hlt] at ho ⊢
   obtain⟨e,hgx,hk1⟩:=z4w ho.app
   have e':c'=⟨1,P,b,if b then s-1 else s+1,tr,0⟩:=e
   have hzz:z0z (recK 4 0 id 0 false (0,0,0) 0 0)=11:=z2k hgx hk1
   have hM:=ho.jn (show (4:Int)≤7 by decide)
   rw [q4h [t] _ hgx rfl hge,if_neg (by rw [htd];simp)] at hM
   have hM':M'=[]:=by
    have:=(Prod.mk.inj hM).1.symm
    rw [this]
    show z2f Tc.id [t] id=[]
    rw [← hti,q0r]
   subst e' hM'
   have hc1:=z3d hg hok hR b (if b then s-1 else s+1) tr hin ht.1 false 0
   refine⟨SZ.nil P,by omega,fun _=>?_,fun e=>absurd (show (4:Int)=9 from e) (by decide),?_⟩
   · rw [hd0,z3n]
     omega
   · rw [z3n]
     omega
theorem hold_dead_step {c':Crs} {M':List Tc} {m s tr id sz:Int} {k:Nat} {L:List O} (hL0:opsT (stpA P s)=L) (h:0≤s∧s<lenA P) (ht:1≤tr∧tr≤R+1) (hiQ:1≤id∧id≤4294967295) (hk:k≤L.length)
 (hz:SZ P [⟨id,1,s,false,true,L.take k,0,sz⟩]) (id':Int) (kill:Bool) (ho:SOut P R ⟨1,P,false,s,tr,id⟩ [⟨id,1,s,false,true,L.take k,0,sz⟩] m (z1u ⟨1,P,false,s,tr,id⟩ [⟨id,1,s,false,true,L.take k,0,sz⟩] R id' kill) c' M'):HOut (P:=P) (R:=R) ⟨1,P,false,s,tr,id⟩ [⟨id,1,s,false,true,L.take k,0,sz⟩] (z1u ⟨1,P,false,s,tr,id⟩ [⟨id,1,s,false,true,L.take k,0,sz⟩] R id' kill) c' M':=by
 have hn0:id≠0:=by omega
 have ha:=q0w hg hok hR
 have hs':0≤s∧s≤lenA P:=⟨h.1,by omega⟩
 have hf:=z4k (z2t hg hok h)
 rw [hL0] at hf
 obtain⟨k0,hk0,hat,hsz⟩:=(hz _ (List.mem_singleton.2 rfl)).2 rfl
 rw [show (Tc.dn ⟨id,1,s,false,true,L.take k,0,sz⟩).length=k from z2c L k hk] at hk0 hsz
 have hsz':sz=28+22*(k0:Int)+22*((k0:Int)-(k:Int)):=hsz
 clear hsz
 have hr0:=z2b hg hok hR s tr id hs' ⟨by omega,ht.2⟩
 have hr2:=z2b hg hok hR s tr 0 hs' ⟨by omega,ht.2⟩
 have hq:=Int.mul_nonneg (show 0≤R+1-tr by omega) (show 0≤attP P by omega)
 have hp1:=z1f ((z0h P).drop s.toNat)
 have hp2:=z1f (z0h P)
 have hc0:=z5k hg hok hR false s tr id hs' (by omega) hn0 true sz (by rw [ifa,hr0];omega)
 rw [ifa] at hc0
 rw [nx_dead hg hok hR s tr id sz k L hs' (by omega) hn0 id' kill] at ho ⊢
 obtain⟨t,hT⟩:∃ t:Tc,t=⟨id,1,s,false,true,L.take k,0,sz⟩:=⟨_,rfl⟩
 have htd:t.dd=true:=by rw [hT]
 have htn:t.dn.length=k:=by rw [hT];exact z2c L k hk
 have hti:t.id=id:=by rw [hT]
 have hge:getT Tc.id [t] id=some t:=by
  have:=z9a t
  rwa [hti] at this
 have hd0:hdC ⟨1,P,false,s,tr,id⟩ [t] R=z1p ⟨1,P,false,s,tr,id⟩ true sz R:=by
  rw [z3e _ _ _ (by rw [hT]),hT]
 rw [← hT] at ho ⊢
 cases k with
 | zero =>
  have hl:=z5r htn
  have hu:z4x t=recK 7 0 id 0 false (0,0,0) 0 0:=by
   unfold z4x
   rw [hl,if_neg (by simp),hti]
  rw [hu] at ho ⊢
  obtain⟨e,hgx,hk1⟩:=z4w ho.app
  have e':c'=⟨1,P,false,s,tr,0⟩:=e
  have hzz:z0z (recK 7 0 id 0 false (0,0,0) 0 0)=11:=z2k hgx hk1
  have hM:=ho.jn (show (7:Int)≤7 by decide)
  rw [q4f [t] _ hgx rfl hge,if_pos (List.length_eq_zero_iff.1 htn)] at hM
  have hM':M'=[]:=by
   have:=(Prod.mk.inj hM).1.symm
   rw [this]
   show z2f Tc.id [t] id=[]
   rw [← hti,q0r]
  subst e' hM'
  have hc1:=z3d hg hok hR false s tr hs' (by omega) false 0
  refine⟨SZ.nil P,by omega,fun _=>?_,fun e=>absurd (show (7:Int)=9 from e) (by decide),?_⟩
  · rw [hd0,z3n]
    simp only [Int.ofNat_zero,Int.natCast_zero] at *
    omega
  · rw [z3n]
    omega
 | succ j =>
  have hjl:j<L.length:=by omega
  have hfo:=hf _ (z6f L j hjl)
  have hdn:t.dn.getD j o0=L.getD j o0:=by rw [hT];exact getD_take L j hjl
  have hl:z3a t=(((L.getD j o0).1,-(L.getD j o0).2),true):=by
   rw [z8a htn,hdn,if_neg (by have:=hfo.lo;omega)]
  have hu:z4x t=recK 6 0 id 0 false (L.getD j o0).1 (-(L.getD j o0).2) 0:=by
   unfold z4x
   rw [hl,if_pos rfl,hti]
  rw [hu] at ho ⊢
  obtain⟨e,hgx,hk1⟩:=z4w ho.app
  have e':c'=⟨1,P,false,s,tr,id⟩:=e
  have hzz:z0z (recK 6 0 id 0 false (L.getD j o0).1 (-(L.getD j o0).2) 0)=22:=z2k hgx hk1
  have hM:=ho.jn (show (6:Int)≤7 by decide)
  rw [q4g [t] _ hgx rfl hge,if_pos (by exact hl),z4y (by rfl),hT,hzz] at hM
  have hM':M'=[⟨id,1,s,false,true,(L.take (j+1)).dropLast,0,sz+22⟩]:=(Prod.mk.inj hM).1.symm
  rw [drop_take L j hk] at hM'
  subst e' hM'
  have hc1:=z5k hg hok hR false s tr id hs' (by omega) hn0 true (sz+22) (by rw [ifa,hr0];omega)
  rw [ifa] at hc1
  refine⟨SZ.dead rfl k0 (by show (L.take j).length≤k0;rw [z2c L j (by omega)];omega) hat (by show sz+22=28+22*(k0:Int)+22*((k0:Int)-((L.take j).length:Int));rw [z2c L j (by omega)];omega),by omega,fun _=>?_,fun e=>absurd (show (6:Int)=9 from e) (by decide),?_⟩
  · rw [hd0,z3e _ _ _ rfl]
    show _+z1p _ true (sz+22) R≤_
    omega
  · rw [z3e _ _ _ rfl]
    show 0≤z1p _ true (sz+22) R
    omega
theorem hold_step {c c':Crs} {M M':List Tc} {m:Int} (h:SI P R c M m) (hz:SZ P M) (kill:Bool) (id:Int) (ho:SOut P R c M m (z1u c M R id kill) c' M'):HOut (P:=P) (R:=R) c M (z1u c M R id kill) c' M':=by
 have ha:=q0w hg hok hR
 have hn5:1≤lenA P∧lenA P≤5:=by
  have:=(z1c hg hok).1
  unfold lenA
  omega
 cases h with
 | free s tr h ht=>exact hold_free_step hg hok hR h ht kill ho
 | back s h=>exact hold_back_step hg hok hR h kill ho
 | dead s tr id2 sz k h ht hid2 hk=>exact hold_dead_step hg hok hR rfl h ht hid2 hk hz id kill ho
 | op s tr id2 sz k h ht hid2 hk =>
  have hgc:=z2u hg (b:=false) (tx:=id2) (tr:=tr) (s:=s) ⟨h.1,by omega⟩ ht.1
  have hop:opsC ⟨1,P,false,s,tr,id2⟩=opsT (stpA P s):=by
   unfold opsC
   rw [if_neg (by rw [hgc];show ¬ (true=false∨decide (s<lenA P)=false);simp [h.2])]
   rfl
  have hq:=Int.mul_nonneg (show 0≤R+1-tr by omega) (show 0≤attP P by omega)
  have hq2:=Int.mul_nonneg (show 0≤R+1-(tr+1) by omega) (show 0≤attP P by omega)
  have hqq:(R+1-(tr+1))*attP P=(R+1-tr)*attP P-attP P:=by rw [show R+1-(tr+1)=(R+1-tr)-1 by omega,Int.sub_mul,Int.one_mul]
  have hp2:=z1f (z0h P)
  have hp1:=z1f ((z0h P).drop s.toNat)
  refine hold_op_step hg hok hR hop ⟨h.1,by omega⟩ ⟨ht.1,by omega⟩ (fun _=>ht.2) hid2 hk (q2p hg hok hR s h _ (Nat.le_refl _)) ?_ (by simp only [Bool.false_eq_true,if_false];omega) (fun tx=>?_) ?_ (fun _ tx=>?_) hz id kill ho
  · simp only [Bool.false_eq_true,if_false]
    rw [z2b hg hok hR s tr 0 ⟨h.1,by omega⟩ ⟨ht.1,by omega⟩,z2b hg hok hR (s+1) tr 0 ⟨by omega,by omega⟩ ⟨ht.1,by omega⟩,pass_at hg hok hR s h]
    omega
  · rw [z2b hg hok hR s tr 0 ⟨h.1,by omega⟩ ⟨ht.1,by omega⟩,z2b hg hok hR s tr tx ⟨h.1,by omega⟩ ⟨ht.1,by omega⟩]
  · simp only [Bool.false_eq_true,if_false]
    rw [z2b hg hok hR (s+1) tr 0 ⟨by omega,by omega⟩ ⟨ht.1,by omega⟩]
    have:=z1f ((z0h P).drop (s+1).toNat)
    omega
  · rw [z2b hg hok hR s tr 0 ⟨h.1,by omega⟩ ⟨ht.1,by omega⟩,z2b hg hok hR s (tr+1) tx ⟨h.1,by omega⟩ ⟨by omega,by omega⟩,hqq]
    rw [hqq] at hq2
    exact⟨by omega,by omega⟩
 | undo s id2 sz k h hid2 hk =>
  have hgc:=z2u hg (b:=true) (tx:=id2) (tr:=R+1) (s:=s) ⟨by omega,by omega⟩ (by omega)
  have hop:opsC ⟨1,P,true,s,R+1,id2⟩=negF (opsT (stpA P (s-1))):=by
   unfold opsC
   rw [if_neg (by rw [hgc];show ¬ (true=false∨decide (0<s)=false);simp;omega)]
   rfl
  have hnl:(negF (opsT (stpA P (s-1)))).length=(opsT (stpA P (s-1))).length:=by
   unfold negF
   rw [List.length_reverse,List.length_map]
  refine hold_op_step hg hok hR hop ⟨by omega,h.2⟩ ⟨by omega,by omega⟩ (fun e=>by cases e) hid2 hk (by rw [hnl];exact q2p hg hok hR (s-1) ⟨by omega,by omega⟩ _ (Nat.le_refl _)) ?_ (by simp only [if_true];omega) (fun tx=>?_) ?_ (fun e=>by cases e) hz id kill ho
  · simp only [if_true]
    rw [z3q hg hok hR s (R+1) 0 ⟨by omega,h.2⟩ (by omega),z3q hg hok hR (s-1) (R+1) 0 ⟨by omega,by omega⟩ (by omega),pass_bk hg hok hR s h,hnl]
    omega
  · rw [z3q hg hok hR s (R+1) 0 ⟨by omega,h.2⟩ (by omega),z3q hg hok hR s (R+1) tx ⟨by omega,h.2⟩ (by omega)]
  · simp only [if_true]
    rw [z3q hg hok hR (s-1) (R+1) 0 ⟨by omega,by omega⟩ (by omega)]
    have:=z1f ((z0h P).take (s-1).toNat)
    omega
end
end Go.Proofs.YtclbkfpbdidaiaaGreatDoor
namespace Go.Proofs.YtclbkfpbdidaiaaGreatDoor
open Go.Lib (hid)
set_option maxHeartbeats 8000000
open Go.RowKit Go.ChangeShapes Go.WideShapes
set_option linter.unusedVariables false
set_option linter.unusedSimpArgs false
set_option maxRecDepth 10000
def r1p (p:Rv):Rv:=⟨1,1,0,0,false,0,0,0,0,0,p.pk,p.od,p.po,p.lp,p.ln,p.lcp,p.tp,p.tn,p.tcp,p.wp,p.wn,p.wcp,p.sk,p.fr,p.to,p.q⟩
theorem q1g (p:Rv) (L:List Ln) (T:List Tk) (M:List Ln):(r1p p).x L T M=x1st (p.pg L T M):=rfl
theorem q3w {p:Rv} {L:List Ln} {T:List Tk} {M:List Ln} {w:World} (h:RvM w p L T M):RvM w (r1p p) L T M:=⟨h.l,h.t,h.o⟩
theorem x1st_bad {P:Pg} (hg:z0l 4 4 P=false):z1q (x1st P)=false:=by
 simp [z1q,x1st,kOk,kS,kT,kB,kA,kO,kP,z7p,addB,outB,z8r,hg]
theorem start_bad {P:Pg} (hg:z0l 4 4 P=false):z9e (x1st P)=(noC,1):=by
 unfold z9e
 rw [if_neg (by rw [x1st_bad hg];simp)]
theorem wpList_load_pl {ops:Array Oper} {rest:List Oper} {a:Act} {w:World} {Q:Exit→Act→World→Prop} {dst:Option Tmp} {x:Operand} {ty:TypeId} {pos:String} {after:Array Edge} {B:Nat} {p:Rv} (hC:w.heap[B]?=some (.cells (pcs p) 26 (0,0))) (hx:a.eval x=.pointer (some ⟨B,0,none⟩))
 (h:wpList Tryz.prog ops Q rest (a.put dst (.agg #[.int .u8 p.pk,.int .u32 p.od,.int .u8 p.po,.slice p.lp p.ln p.lcp,.slice p.tp p.tn p.tcp,.slice p.wp p.wn p.wcp,.int .u8 p.sk,.int .u8 p.fr,.int .u8 p.to,.int .i64 p.q])) w):wpList Tryz.prog ops Q (Oper.mk dst (.load 26 x) ty pos after none::rest) a w :=
 wpList_load_row rfl 26 x rfl B hx 26 (pcs p) (0,0) _ hC Tryz.underlying26 rfl (by kernel_rfl) h
theorem ten_cells {w:World} {B:Nat} {v0 v1 v2 v3 v4 v5 v6 v7 v8 v9:Value} {T:TypeId} (h:w.heap[B]?=some (.cells #[v0,v1,v2,v3,v4,v5,v6,v7,v8,v9] T (0,0))):w.cell? ⟨B,0,none⟩=some v0∧w.cell? ⟨B,1,none⟩=some v1∧w.cell? ⟨B,2,none⟩=some v2∧w.cell? ⟨B,3,none⟩=some v3∧w.cell? ⟨B,4,none⟩=some v4∧w.cell? ⟨B,5,none⟩=some v5∧w.cell? ⟨B,6,none⟩=some v6∧w.cell? ⟨B,7,none⟩=some v7∧w.cell? ⟨B,8,none⟩=some v8∧w.cell? ⟨B,9,none⟩=some v9:=⟨z0a h rfl,z0a h rfl,z0a h rfl,z0a h rfl,z0a h rfl,z0a h rfl,z0a h rfl,z0a h rfl,z0a h rfl,z0a h rfl⟩
theorem item_two (t r:Int) (x:Ln):(z6p t r x).length≤2:=by
 unfold z6p
 split
 · rcases z4r t r x with ⟨_,h⟩ | ⟨_,h⟩ | ⟨_,h⟩ | ⟨_,h⟩ | ⟨_,h⟩ | ⟨_,h⟩ | ⟨_,h⟩ | ⟨_,h⟩ | ⟨_,h⟩ <;> rw [h] <;> simp
 · simp
theorem ops_two (t r:Int) (L:List Ln):(opsS t r L).length≤2*L.length:=by
 unfold opsS
 induction L with
 | nil=>simp
 | cons x L ih =>
  have:=item_two t r x
  simp only [List.flatMap_cons,List.length_append,List.length_cons]
  omega
theorem z4u {k z:Int} (h:q4e k=z) (W:World):Calls Tryz.prog 45 #[.int .u8 k] W fun e w'=>e=.returned (.int .i64 z)∧Below W.heap.size W w':=h ▸ cost_any k W
theorem nd_pass (t r:Int) (p:Option Addr) (n c:Nat) (L:List Ln) (W:World) (hL:LL W p n c L) (hok:∀ x∈L,Lnok x) (hn:n≤1000):Calls Tryz.prog 14 #[.agg #[.int .u8 t,.int .u8 r,.slice p n c]] W fun e w'=>e=.returned (.int .i64 (z8s (t,r,L)))∧Below W.heap.size W w':=by
 have hb1:Below W.heap.size W (W.alloc (.cells #[.int .u8 t,.int .u8 r,.slice p n c] 52)):=(Below.refl _ _).alloc (Nat.le_refl _) _
 have HOP:=hid (q1k t r p n c L _ (hL.later hb1) hok hn)
 have h2:=ops_two t r L
 have hl:=hL.len
 have HV:Hid (z8s (t,r,L)=q3m (opsS t r L).length):=hid rfl
 have hm:(opsS t r L).length≤2000:=by omega
 have HB1:=hid hb1
 generalize z8s (t,r,L)=V at *
 generalize opsS t r L=O at *
 generalize hk:O.length=m at *
 have HK:=hid hk
 clear hk h2 hl hL hok hn hb1
 go_enter Tryz.func14,Tryz.ntmps14
 go_wp2_with fail
 refine HOP.out.mono ?_
 rintro e w1 ⟨p2,c2,rfl,hs2,hb2,_⟩
 have HB2:=hid (HB1.out.trans (hb2.mono HB1.out.size))
 clear hs2 hb2 HOP
 simp only [HK.out]
 go_wp2_with fail
 refine (z4u (k:=2) (z:=17) rfl _).mono ?_
 rintro e w2 ⟨rfl,hb⟩
 have HB3:=hid (HB2.out.trans (hb.mono HB2.out.size))
 clear hb
 go_wp2_with fail
 refine (z4u (k:=3) (z:=22) rfl _).mono ?_
 rintro e w3 ⟨rfl,hb⟩
 have HB4:=hid (HB3.out.trans (hb.mono HB3.out.size))
 clear hb
 go_wp2_with fail
 refine (z4u (k:=4) (z:=11) rfl _).mono ?_
 rintro e w4 ⟨rfl,hb⟩
 have HB5:=hid (HB4.out.trans (hb.mono HB4.out.size))
 clear hb
 go_wp2_with fail
 go_ret
 exact⟨congrArg (fun z:Int=>Ending.returned (Value.int .i64 z)) (by rw [HV.out];unfold q3m;omega),HB5.out⟩
theorem nd_fail (t r:Int) (p:Option Addr) (n c:Nat) (L:List Ln) (W:World) (hL:LL W p n c L) (hok:∀ x∈L,Lnok x) (hn:n≤1000):Calls Tryz.prog 16 #[.agg #[.int .u8 t,.int .u8 r,.slice p n c]] W fun e w'=>e=.returned (.int .i64 (z6a (t,r,L)))∧Below W.heap.size W w':=by
 have hb1:Below W.heap.size W (W.alloc (.cells #[.int .u8 t,.int .u8 r,.slice p n c] 52)):=(Below.refl _ _).alloc (Nat.le_refl _) _
 have HOP:=hid (q1k t r p n c L _ (hL.later hb1) hok hn)
 have h2:=ops_two t r L
 have hl:=hL.len
 have HV:Hid (z6a (t,r,L)=q3q (opsS t r L).length):=hid rfl
 have hm:(opsS t r L).length≤2000:=by omega
 have HB1:=hid hb1
 generalize z6a (t,r,L)=V at *
 generalize opsS t r L=O at *
 generalize hk:O.length=m at *
 have HK:=hid hk
 clear hk h2 hl hL hok hn hb1
 go_enter Tryz.func16,Tryz.ntmps16
 go_wp2_with fail
 refine HOP.out.mono ?_
 rintro e w1 ⟨p2,c2,rfl,hs2,hb2,_⟩
 have HB2:=hid (HB1.out.trans (hb2.mono HB1.out.size))
 clear hs2 hb2 HOP
 simp only [HK.out]
 go_wp2_with fail
 refine (z4u (k:=2) (z:=17) rfl _).mono ?_
 rintro e w2 ⟨rfl,hb⟩
 have HB3:=hid (HB2.out.trans (hb.mono HB2.out.size))
 clear hb
 go_wp2_with fail
 refine (z4u (k:=3) (z:=22) rfl _).mono ?_
 rintro e w3 ⟨rfl,hb⟩
 have HB4:=hid (HB3.out.trans (hb.mono HB3.out.size))
 clear hb
 go_wp2_with fail
 refine (z4u (k:=5) (z:=11) rfl _).mono ?_
 rintro e w4 ⟨rfl,hb⟩
 have HB5:=hid (HB4.out.trans (hb.mono HB4.out.size))
 clear hb
 go_wp2_with fail
 refine (z4u (k:=6) (z:=22) rfl _).mono ?_
 rintro e w5 ⟨rfl,hb⟩
 have HB6:=hid (HB5.out.trans (hb.mono HB5.out.size))
 clear hb
 go_wp2_with fail
 refine (z4u (k:=7) (z:=11) rfl _).mono ?_
 rintro e w6 ⟨rfl,hb⟩
 have HB7:=hid (HB6.out.trans (hb.mono HB6.out.size))
 clear hb
 go_wp2_with fail
 go_ret
 exact⟨congrArg (fun z:Int=>Ending.returned (Value.int .i64 z)) (by rw [HV.out];unfold q3q;omega),HB7.out⟩
theorem slg_drop {α:Type} {enc:α→List Value} {k:Nat} {d:α} {w:World} {p:Option Addr} {n c:Nat} {L:List α} (h:SlG enc k d w p n c L) (i:Nat) (hi:i≤n) (q:Option Addr) (hq:i<n→∀ b off,p=some ⟨b,off,none⟩→q=some ⟨b,off+i*k,none⟩) (hn:q=none→c-i=0):SlG enc k d w q (n-i) (c-i) (L.drop i):=by
 refine⟨by rw [List.length_drop,h.len],by have:=h.cap;omega,by have:=h.max;omega,hn,fun h0=>?_⟩
 obtain⟨b,off,hp,hlt,hc⟩:=h.cell (by omega)
 refine⟨b,off+i*k,hq (by omega) b off hp,hlt,fun j hj x v hv=>?_⟩
 rw [List.getD,List.getElem?_drop] at hv
 have:=hc (i+j) (by omega) x v hv
 rw [Nat.add_mul] at this
 rw [show off+i*k+j*k+x=off+(i*k+j*k)+x by omega]
 exact this
theorem TellsAll.take {w:World}:∀ {H:List Hs} {S:List Stp} (i:Nat),TellsAll w H S→TellsAll w (H.take i) (S.take i)
 | [],[],i,_=>by simp [TellsAll]
 | _::_,_::_,0,_=>by simp [TellsAll]
 | _::_,_::_,i+1,h=>⟨h.1,TellsAll.take i h.2⟩
 | [],_::_,_,h=>h.elim
 | _::_,[],_,h=>h.elim
theorem TellsAll.drop {w:World}:∀ {H:List Hs} {S:List Stp} (i:Nat),TellsAll w H S→TellsAll w (H.drop i) (S.drop i)
 | [],[],i,_=>by simp [TellsAll]
 | _::_,_::_,0,h=>h
 | _::_,_::_,i+1,h=>TellsAll.drop i h.2
 | [],_::_,_,h=>h.elim
 | _::_,[],_,h=>h.elim
theorem SL.take {w:World} {p:Option Addr} {n c:Nat} {H:List Hs} {S:List Stp} (h:SL w p n c H S) (i:Nat) (hi:i≤n):SL w p i c (H.take i) (S.take i):=⟨h.row.take i hi,h.tells.take i⟩
theorem SL.drop {w:World} {p:Option Addr} {n c:Nat} {H:List Hs} {S:List Stp} (h:SL w p n c H S) (i:Nat) (hi:i≤n) (q:Option Addr) (hq:i<n→∀ b off,p=some ⟨b,off,none⟩→q=some ⟨b,off+i*3,none⟩) (hn:q=none→c-i=0):SL w q (n-i) (c-i) (H.drop i) (S.drop i):=⟨slg_drop h.row i hi q hq hn,h.tells.drop i⟩
theorem z4q {S:List Stp} {n:Nat} (h:∀ s∈S,z3w s) (hl:S.length=n) (hn:n≤5):0≤z1i S∧z1i S≤800:=⟨z1f S,by have:=passL_le S h;omega⟩
theorem fine_at {S:List Stp} (h:∀ s∈S,z3w s) {j:Nat} (hj:j<S.length):z3w (S.getD j (0,0,[])):=h _ (by rw [List.getD,List.getElem?_eq_getElem hj];exact List.getElem_mem _)
theorem z8j {S:List Stp} (h:∀ s∈S,z3w s) (i:Nat):∀ s∈S.take i,z3w s:=fun s hs=>h s (List.mem_of_mem_take hs)
theorem z8k {S:List Stp} (h:∀ s∈S,z3w s) (i:Nat):∀ s∈S.drop i,z3w s:=fun s hs=>h s (List.mem_of_mem_drop hs)
theorem q0i {S:List Stp} (h:∀ s∈S,z3w s) (j:Nat) (hj:j≤S.length):0≤z4m (S.take j)∧z4m (S.take j)≤303:=⟨(q2a S j hj).1,failL_le S 303 (by omega) (fun s hs=>q1z (h s hs)) j hj⟩
theorem z7x (p:Option Addr) (n c:Nat) (H:List Hs) (S:List Stp) (W:World) (hS:SL W p n c H S) (hf:∀ s∈S,z3w s) (hn:n≤5):Calls Tryz.prog 50 #[.slice p n c] W fun e w'=>e=.returned (.int .i64 (z1i S))∧Below W.heap.size W w':=by
 have hl:S.length=n:=by rw [← hS.tells.len];exact hS.row.len
 have HFJ:Hid (∀ j,j<n→z3w (S.getD j (0,0,[]))):=hid fun j hj=>fine_at hf (by omega)
 have HPS:Hid (∀ j,j<n→z1i (S.take (j+1))=z1i (S.take j)+z8s (S.getD j (0,0,[]))):=hid fun j hj=>passL_one S j (by omega)
 have HPB:Hid (∀ j,j≤n→0≤z1i (S.take j)∧z1i (S.take j)≤800):=hid fun j hj=>z4q (n:=j) (z8j hf j) (by rw [List.length_take];omega) (by omega)
 have HEND:Hid (z1i (S.take n)=z1i S):=hid (by rw [← hl,List.take_length])
 have HS:=hid hS
 clear hS hf hl
 go_enter Tryz.func50,Tryz.ntmps50
 go_wp2_with fail
 go_loopw [3,8] (fun v ix wr=>∃ (j:Nat) (x:Int),j≤n∧ix=.int .i64 j∧v=.int .i64 x∧Hid (z1i (S.take j)=x)∧Hid (Below W.heap.size W wr)) (fun _ ix _=>n-(Go.RowKit.intOf ix).toNat)
 case atStart=>exact⟨0,0,Nat.zero_le _,rfl,rfl,hid (by rw [List.take_zero];rfl),hid (Below.refl _ _)⟩
 case round =>
  obtain⟨j,x,hj,rfl,rfl,HX,HB⟩:=hrel
  by_cases hlt:j<n
  case pos =>
   have hlt':(j:Int)<n:=by omega
   have HSA:=hid (HS.out.later HB.out)
   obtain⟨b',off',heb,_,k0,k1,k2⟩:=z5l HSA.out.row hlt
   obtain⟨t1,t2,t3⟩:=HSA.out.tells.at j (by rw [HSA.out.row.len];exact hlt)
   subst heb
   have hfine:=HFJ.out j hlt
   have hst:=HPS.out j hlt
   have hb1:=HPB.out j (by omega)
   have hb2:=HPB.out (j+1) (by omega)
   rw [hst] at hb2
   rw [HX.out] at hst hb1 hb2
   rw [t1] at k0
   rw [t2] at k1
   generalize S.getD j (0,0,[])=sj at *
   obtain⟨ts,rs,Lq⟩:=sj
   generalize H.getD j hs0=h3 at *
   obtain⟨y1,y2,ip,il,ic⟩:=h3
   dsimp only at k0 k1 k2 t1 t2 t3
   obtain⟨f1,f2,f3,f4,f5⟩:=hfine
   dsimp only at f1 f2 f3 f4 f5
   have hl1:=t3.len
   have hba:Below wr.heap.size wr (wr.alloc (.cells #[.int .u8 ts,.int .u8 rs,.slice ip il ic] 52)):=(Below.refl _ _).alloc (Nat.le_refl _) _
   have HOP:=hid (nd_pass ts rs ip il ic Lq (wr.alloc (.cells #[.int .u8 ts,.int .u8 rs,.slice ip il ic] 52)) (t3.later hba) f4 (by omega))
   have HBA:=hid (HB.out.trans (hba.mono HB.out.size))
   generalize z8s (ts,rs,Lq)=z at *
   have HST:=hid hst
   clear hst t1 t2 t3 f1 f2 f3 f4 f5 hl1 hba
   go_wp2_with fail
   refine HOP.out.mono ?_
   rintro e w4 ⟨rfl,hb4⟩
   have HB4:=hid (HBA.out.trans (hb4.mono HBA.out.size))
   clear hb4 HOP k0 k1 k2
   go_wp2_with fail
   go_roundw
   case rel=>exact⟨j+1,x+z,by omega,by go_num,rfl,hid HST.out,HB4⟩
   case measure=>simp [Go.RowKit.intOf];omega
  obtain rfl:n=j:=by omega
  have HE:Hid (z1i S=x):=hid (by rw [← HEND.out];exact HX.out)
  go_wp2_with fail
  go_ret
  exact⟨by rw [HE.out];rfl,HB.out⟩
theorem z8u (p:Rv) (L:List Ln) (T:List Tk) (M:List Ln) (W:World) (hw:Words W) (hP:RvM W p L T M) (hok:Pgok (p.pg L T M)) (h1:p.ln≤400∧p.tn≤400∧p.wn≤400):Calls Tryz.prog 18 #[.agg (pcs p)] W fun e w'=>e=.returned (.int .i64 (attP (p.pg L T M)))∧Below W.heap.size W w':=by
 have hb0:Below W.heap.size W (W.alloc (.cells (pcs p) 26)):=(Below.refl _ _).alloc (Nat.le_refl _) _
 have HST:=hid (z9u p.pk p.od p.po p.lp p.ln p.lcp p.tp p.tn p.tcp p.wp p.wn p.wcp p.sk p.fr p.to p.q L T M _ (hw.later hb0) (PgM.later hP hb0) hok h1)
 have hfn:(∀ s∈z0h (p.pg L T M),z3w s)∧(z0h (p.pg L T M)).length≤5:=by
  cases hg:z0l 4 4 (p.pg L T M) with
  | false=>rw [q1d hg];exact⟨(fun s hs=>by cases hs),by simp⟩
  | true=>exact⟨(z1c hg hok).2,(z1c hg hok).1.2⟩
 have HA:Hid (attP (p.pg L T M)=z4m (z0h (p.pg L T M))):=hid rfl
 generalize attP (p.pg L T M)=AV at *
 have HB0:=hid hb0
 obtain⟨hf,hn⟩:=hfn
 have HST2:Hid (Calls Tryz.prog 48 #[.agg (pcs p)] (W.alloc (.cells (pcs p) 26)) (GivesS (W.alloc (.cells (pcs p) 26)) (z0h (p.pg L T M)))):=HST
 generalize z0h (p.pg L T M)=S at *
 obtain⟨n,hl⟩:∃ n,S.length=n:=⟨_,rfl⟩
 have HL:=hid hl
 rw [hl] at hn
 have HFJ:Hid (∀ j,j<n→z3w (S.getD j (0,0,[]))):=hid fun j hj=>fine_at hf (by omega)
 have HPS:Hid (∀ j,j<n→z4m (S.take (j+1))=if z4m (S.take j)<z6a (S.getD j (0,0,[])) then z6a (S.getD j (0,0,[])) else z4m (S.take j)):=hid fun j hj=>q0h S j (by omega)
 have HPB:Hid (∀ j,j≤n→0≤z4m (S.take j)∧z4m (S.take j)≤303):=hid fun j hj=>q0i hf j (by omega)
 have HEND:Hid (z4m (S.take n)=z4m S):=hid (by rw [← hl,List.take_length])
 have hpb:(W.alloc (.cells (pcs p) 26)).heap[W.heap.size]?=some (.cells (pcs p) 26 (0,0)):=z0c _ _
 have HPB0:=hid hpb
 clear hb0 hP hok h1 hf hl hw hpb HST
 go_enter Tryz.func18,Tryz.ntmps18
 go_upto_region 2 with (fail)
 generalize W.alloc (.cells (pcs p) 26)=W1 at *
 obtain⟨B,hB⟩:∃ B,W.heap.size=B:=⟨_,rfl⟩
 have HBE:=hid hB
 rw [hB] at HPB0
 rw [hB]
 clear hB
 go_wp2_with (first | ((with_reducible refine wpList_load_row rfl 26 _ rfl _ rfl 26 (pcs p) (0,0) _ HPB0.out Tryz.underlying26 rfl (by kernel_rfl) ?_)) | fail)
 refine HST2.out.mono ?_
 rintro e w3 ⟨p3,k3,H,rfl,hs3,hb3⟩
 have HB3:Hid (Below W.heap.size W w3):=hid (HB0.out.trans (hb3.mono HB0.out.size))
 have HS:=hid hs3
 simp only [HL.out] at HS ⊢
 clear hb3 hs3 HST2 HPB0
 go_wp2_with fail
 go_loopw [3,9] (fun v ix wr=>∃ (j:Nat) (x:Int),j≤n∧ix=.int .i64 j∧v=.int .i64 x∧Hid (z4m (S.take j)=x)∧Hid (Below w3.heap.size w3 wr)) (fun _ ix _=>n-(Go.RowKit.intOf ix).toNat)
 case atStart=>exact⟨0,0,Nat.zero_le _,rfl,rfl,hid (by rw [List.take_zero];rfl),hid (Below.refl _ _)⟩
 case round =>
  obtain⟨j,x,hj,rfl,rfl,HX,HB⟩:=hrel
  by_cases hlt:j<n
  case pos =>
   have hlt':(j:Int)<n:=by omega
   have HSA:=hid (HS.out.later HB.out)
   obtain⟨b',off',heb,_,k0,k1,k2⟩:=z5l HSA.out.row hlt
   obtain⟨t1,t2,t3⟩:=HSA.out.tells.at j (by rw [HSA.out.row.len];exact hlt)
   subst heb
   have hfine:=HFJ.out j hlt
   have hst:=HPS.out j hlt
   have hb1:=HPB.out j (by omega)
   have hb3:0≤z6a (S.getD j (0,0,[]))∧z6a (S.getD j (0,0,[]))≤303:=⟨by unfold z6a q3q;omega,q1z hfine⟩
   rw [HX.out] at hst hb1
   rw [t1] at k0
   rw [t2] at k1
   generalize S.getD j (0,0,[])=sj at *
   obtain⟨ts,rs,Lq⟩:=sj
   generalize H.getD j hs0=h3 at *
   obtain⟨y1,y2,ip,il,ic⟩:=h3
   dsimp only at k0 k1 k2 t1 t2 t3
   obtain⟨f1,f2,f3,f4,f5⟩:=hfine
   dsimp only at f1 f2 f3 f4 f5
   have hl1:=t3.len
   have hba:Below wr.heap.size wr (wr.alloc (.cells #[.int .u8 ts,.int .u8 rs,.slice ip il ic] 52)):=(Below.refl _ _).alloc (Nat.le_refl _) _
   have HOP:=hid (nd_fail ts rs ip il ic Lq (wr.alloc (.cells #[.int .u8 ts,.int .u8 rs,.slice ip il ic] 52)) (t3.later hba) f4 (by omega))
   have HBA:=hid (HB.out.trans (hba.mono HB.out.size))
   generalize z6a (ts,rs,Lq)=z at *
   obtain⟨mx,hmx⟩:∃ mx,max x z=mx:=⟨_,rfl⟩
   have HST:Hid (z4m (S.take (j+1))=mx):=hid (by rw [hst,← hmx];split <;> omega)
   clear hst t1 t2 t3 f1 f2 f3 f4 f5 hl1 hba
   go_wp2_with fail
   refine HOP.out.mono ?_
   rintro e w4 ⟨rfl,hb4⟩
   have HB4:=hid (HBA.out.trans (hb4.mono HBA.out.size))
   clear hb4 HOP k0 k1 k2
   go_wp2_with fail
   go_roundw
   case rel=>exact⟨j+1,mx,by omega,by go_num,rfl,HST,HB4⟩
   case measure=>simp [Go.RowKit.intOf];omega
  obtain rfl:n=j:=by omega
  have HE:Hid (AV=x):=hid (by rw [HA.out,← HEND.out];exact HX.out)
  have HB5:=hid (HB3.out.trans (HB.out.mono HB3.out.size))
  go_wp2_with fail
  go_ret
  exact⟨by rw [HE.out];rfl,HB5.out⟩
def q4k (n z:Int):Int:=if n≤z then 0 else n-z
theorem q2w (n z:Int) (W:World) (h1:0≤n∧n≤1000000) (h2:0≤z∧z≤1000000000000000000):Calls Tryz.prog 55 #[.int .i64 n,.int .i64 z] W fun e w'=>e=.returned (.int .i64 (q4k n z))∧w'=W:=by
 have hz:¬ z<n-9223372036854775807:=by omega
 have hz2:decide (z<n-9223372036854775807)=false:=decide_eq_false hz
 obtain⟨h3,h4⟩:=h1
 obtain⟨h5,h6⟩:=h2
 by_cases hc:n≤z
 · have HE:Hid (q4k n z=0):=hid (if_pos hc)
   have hd:decide (n≤z)=true:=decide_eq_true hc
   clear hz hz2
   go_enter Tryz.func55,Tryz.ntmps55
   go_wp2_with fail
   go_ret
   exact⟨by rw [HE.out];rfl,rfl⟩
 · have HE:Hid (q4k n z=n-z):=hid (if_neg hc)
   have hd:decide (n≤z)=false:=decide_eq_false hc
   go_enter Tryz.func55,Tryz.ntmps55
   go_wp2_with fail
   go_ret
   exact⟨by rw [HE.out];rfl,rfl⟩
theorem nd_throws (c:Cv) (x:Crs) (hx:x.tr=c.tr) (retry:Int) (W:World) (h1:0≤c.tr∧c.tr≤9223372036854775807) (h2:In64 retry):Calls Tryz.prog 51 #[.agg (ccs c),.int .i64 retry] W fun e w'=>e=.returned (.int .i64 (thrC x retry))∧Below W.heap.size W w':=by
 obtain⟨W1,hW1,hxb,hb1⟩:∃ W1,W.alloc (.cells (ccs c) 34)=W1∧CB W1 W.heap.size c∧Below W.heap.size W W1:=⟨_,rfl,CB.new W c,(Below.refl _ _).alloc (Nat.le_refl _) _⟩
 obtain⟨B,hB⟩:∃ B,W.heap.size=B:=⟨_,rfl⟩
 rw [hB] at hxb
 have HW1:=hid hW1
 have HB1:=hid hb1
 have HRE:=hid hB
 have a13:=hxb.at.2.2.2.1
 obtain⟨k,hk⟩:∃ k,q0q retry=k:=⟨_,rfl⟩
 have hk4:0≤k∧k≤4:=by rw [← hk];unfold q0q;split <;> (try split) <;> omega
 have HT:Hid (thrC x retry=if c.tr≤k then k+1-c.tr else 0):=hid (by unfold thrC;rw [hk,hx])
 obtain⟨m,hm⟩:∃ m,max retry 0=m:=⟨_,rfl⟩
 have hmk:min m 4=k:=by rw [← hm,← hk];unfold q0q;split <;> (try split) <;> omega
 obtain⟨d,hd⟩:∃ d,max (k+1-c.tr) 0=d:=⟨_,rfl⟩
 have HD:Hid (thrC x retry=d):=hid (by rw [HT.out,← hd];split <;> omega)
 unfold In64 at h2
 obtain⟨h3,h4⟩:=h1
 obtain⟨h5,h6⟩:=h2
 obtain⟨h7,h8⟩:=hk4
 clear hW1 hxb hb1 hB hx HT hk
 generalize c.tr=tr at *
 go_enter Tryz.func51,Tryz.ntmps51
 go_upto_region 1 with (fail)
 rw [HW1.out,HRE.out]
 go_wp2_with fail
 go_ret
 exact⟨by rw [HD.out];rfl,HB1.out⟩
theorem nd_rest (c:Cv) (L:List Ln) (T:List Tk) (M:List Ln) (retry:Int) (W:World) (hw:Words W) (hP:CvM W c L T M) (hok:Crok (c.x L T M)) (h1:c.p.ln≤400∧c.p.tn≤400∧c.p.wn≤400) (hr:In64 retry):Calls Tryz.prog 20 #[.agg (ccs c),.int .i64 retry] W fun e w'=>e=.returned (.int .i64 (z2q (c.x L T M) retry))∧Below W.heap.size W w':=by
 obtain⟨W1,hW1,hx,hb1⟩:∃ W1,W.alloc (.cells (ccs c) 34)=W1∧CB W1 W.heap.size c∧Below W.heap.size W W1:=⟨_,rfl,CB.new W c,(Below.refl _ _).alloc (Nat.le_refl _) _⟩
 obtain⟨B,hB⟩:∃ B,W.heap.size=B:=⟨_,rfl⟩
 rw [hB] at hx
 have HX:=hid hx
 have HW1:=hid hW1
 have HB1:=hid hb1
 have HRE:=hid hB
 have hgd:=q0k c L T M W1 (hw.later hb1) (hP.later hb1) hok h1
 cases hg:z2s (c.x L T M) with
 | false =>
  rw [hg] at hgd
  have HE:Hid (z2q (c.x L T M) retry=0):=hid (by unfold z2q;rw [if_pos hg])
  generalize z2q (c.x L T M) retry=RV at *
  clear hW1 hx hb1 hB hw hP hok h1 hg hr
  go_enter Tryz.func20,Tryz.ntmps20
  go_upto_region 1 with (fail)
  rw [HW1.out,HRE.out]
  go_wp2_with ((with_reducible refine z0f HX.out ?_ ?_);rfl)
  refine hgd.mono ?_
  rintro e w2 ⟨rfl,h2⟩
  have HB2:=hid (HB1.out.trans (h2.mono HB1.out.size))
  clear h2 hgd
  go_wp2_with fail
  go_ret
  exact⟨by rw [HE.out];rfl,HB2.out⟩
 | true =>
  rw [hg] at hgd
  have HS:Hid (∀ w',Below W.heap.size W w'→Calls Tryz.prog 48 #[.agg (pcs c.p)] w' (GivesS w' (z0h (c.p.pg L T M)))):=hid fun w' hb=>z9u c.p.pk c.p.od c.p.po c.p.lp c.p.ln c.p.lcp c.p.tp c.p.tn c.p.tcp c.p.wp c.p.wn c.p.wcp c.p.sk c.p.fr c.p.to c.p.q L T M w' (hw.later hb) (PgM.later hP hb) hok.P h1
  have HAT:Hid (∀ w',Below W.heap.size W w'→Calls Tryz.prog 18 #[.agg (pcs c.p)] w' fun e w''=>e=.returned (.int .i64 (attP (c.p.pg L T M)))∧Below w'.heap.size w' w''):=hid fun w' hb=>z8u c.p L T M w' (hw.later hb) (PgM.later hP hb) hok.P h1
  have hlf:=z5q hg hok.P
  obtain⟨_,g2,g3,g4,g5⟩:=z2e hg
  have g3':0≤c.st:=g3
  have g4':c.st≤lenC (c.x L T M):=g4
  have g5':0≤c.tr∧c.tr≤9223372036854775807:=⟨g5,hok.tr.2⟩
  have HTH:Hid (∀ w',Calls Tryz.prog 51 #[.agg (ccs c),.int .i64 retry] w' fun e w''=>e=.returned (.int .i64 (thrC (c.x L T M) retry))∧Below w'.heap.size w' w''):=hid fun w'=>nd_throws c (c.x L T M) rfl retry w' g5' hr
  have hth:0≤thrC (c.x L T M) retry∧thrC (c.x L T M) retry≤5:=by
   have g6:0≤(c.x L T M).tr:=g5
   unfold thrC q0q
   split <;> split <;> (try split) <;> omega
  have hatt:0≤attP (c.p.pg L T M)∧attP (c.p.pg L T M)≤303:=by
   have h:=q0i (S:=z0h (c.p.pg L T M)) (z1c g2 hok.P).2 (z0h (c.p.pg L T M)).length (Nat.le_refl _)
   rw [z6s] at h
   exact h
  have hfin:∀ s∈z0h (c.p.pg L T M),z3w s:=(z1c g2 hok.P).2
  have hrv:z2q (c.x L T M) retry=if c.bk then z1i ((z0h (c.p.pg L T M)).take c.st.toNat)+12 else z1i ((z0h (c.p.pg L T M)).drop c.st.toNat)+thrC (c.x L T M) retry*attP (c.p.pg L T M)+11+z1i (z0h (c.p.pg L T M))+12:=by
   unfold z2q
   rw [if_neg (by rw [hg];simp)]
   rfl
  have hln:lenC (c.x L T M)=((z0h (c.p.pg L T M)).length:Int):=rfl
  generalize z2q (c.x L T M) retry=RV at *
  generalize thrC (c.x L T M) retry=th at *
  generalize attP (c.p.pg L T M)=av at *
  generalize z0h (c.p.pg L T M)=S at *
  obtain⟨n,hnn⟩:∃ n,S.length=n:=⟨_,rfl⟩
  rw [hnn] at hln
  have HN:=hid hnn
  rw [hln] at g4' hlf
  obtain⟨i,hi⟩:∃ i:Nat,c.st.toNat=i:=⟨_,rfl⟩
  have hst:c.st=(i:Int):=by omega
  have hin:i≤n:=by omega
  have hn5:n≤5:=by omega
  have hn1:1≤n:=by omega
  rw [hi] at hrv
  have HRV:=hid hrv
  have HST:=hid hst
  have HF:=hid hfin
  obtain⟨pr,hpr⟩:∃ pr,th*av=pr:=⟨_,rfl⟩
  have hprb:0≤pr∧pr≤1515:=by
   rw [← hpr]
   refine⟨Int.mul_nonneg hth.1 hatt.1,?_⟩
   have:=Int.mul_le_mul hth.2 hatt.2 hatt.1 (by omega)
   omega
  rw [hpr] at HRV
  clear hW1 hx hb1 hB hw hP hok h1 hg hnn hln g2 g3 g4 g5 g3' g4' g5' hlf hfin hrv hi hst hr
  go_enter Tryz.func20,Tryz.ntmps20
  go_upto_region 1 with (fail)
  rw [HW1.out,HRE.out]
  go_wp2_with ((with_reducible refine z0f HX.out ?_ ?_);rfl)
  refine hgd.mono ?_
  rintro e w2 ⟨rfl,h2⟩
  have HX2:=hid (HX.out.later h2)
  have HB2:=hid (HB1.out.trans (h2.mono HB1.out.size))
  clear h2 HX hgd
  go_wp2_with ((with_reducible refine z4f HX2.out ?_ ?_);rfl)
  refine (HS.out _ HB2.out).mono ?_
  rintro e w3 ⟨p3,k3,H3,rfl,hs3,hb3⟩
  have HX3:=hid (HX2.out.later hb3)
  have HB3:=hid (HB2.out.trans (hb3.mono HB2.out.size))
  simp only [HN.out] at hs3 ⊢
  have hcap:=hs3.row.cap
  have hmax:=hs3.row.max
  obtain⟨b,off,rfl,_,_⟩:=hs3.row.cell hn1
  have HS3:=hid hs3
  have hik:i≤k3:=by omega
  clear hb3 hs3 HS HX2
  obtain⟨_,a11,a12,a13,_⟩:=HX3.out.at
  rw [HST.out] at a12
  cases hbk:c.bk with
  | true =>
   rw [hbk] at a11
   have hpb:=z4q (S:=S.take i) (n:=i) (z8j HF.out i) (by rw [List.length_take,HN.out];omega) (by omega)
   have HPA:=hid fun w' (hb:Below w3.heap.size w3 w')=>z7x (some ⟨b,off,none⟩) i k3 (H3.take i) (S.take i) w' ((HS3.out.later hb).take i hin) (z8j HF.out i) (by omega)
   have HE:Hid (RV=z1i (S.take i)+12):=hid (by rw [HRV.out,if_pos hbk])
   clear HRV hbk
   generalize z1i (S.take i)=y at *
   go_wp2_with fail
   refine (HPA.out _ (Below.refl _ _)).mono ?_
   rintro e w4 ⟨rfl,hb4⟩
   have HB4:=hid (HB3.out.trans (hb4.mono HB3.out.size))
   clear hb4 HPA
   go_wp2_with fail
   refine (z4u (k:=9) (z:=12) rfl _).mono ?_
   rintro e w5 ⟨rfl,hb5⟩
   have HB5:=hid (HB4.out.trans (hb5.mono HB4.out.size))
   clear hb5
   go_wp2_with fail
   go_ret
   exact⟨by rw [HE.out];rfl,HB5.out⟩
  | false =>
   rw [hbk] at a11
   have hpb:=z4q (S:=S.drop i) (n:=n-i) (z8k HF.out i) (by rw [List.length_drop,HN.out]) (by omega)
   have hpc:=z4q HF.out HN.out hn5
   have HE:Hid (RV=z1i (S.drop i)+pr+11+z1i S+12):=hid (by rw [HRV.out,if_neg (by rw [hbk];simp)])
   have hbp:=fun (p:After w3)=>HB3.out.trans (p.h.mono HB3.out.size)
   have hc1:=fun (p:After w3)=>z7x (some ⟨b,off,none⟩) n k3 H3 S p.w (HS3.out.later p.h) HF.out hn5
   have hc2:=fun (p:After w3)=>HTH.out p.w
   have hc3:=fun (p:After w3)=>HAT.out p.w (hbp p)
   have hc4:=fun (p:After w3)=>z4u (k:=8) (z:=11) rfl p.w
   have hc5:=fun (p:After w3)=>z4u (k:=9) (z:=12) rfl p.w
   have hwp:IntKind.i64.wrap (th*av)=pr:=by rw [hpr];exact IntWalk.i64_in _ (by omega)
   clear hpr
   have x12:=fun r:After w3=>z1y r a12
   go_upto_region 6 with (fail)
   by_cases hki:k3=i
   · obtain rfl:i=k3:=hki.symm
     obtain rfl:i=n:=by omega
     have hc0:=fun (p:After w3)=>z7x (some ⟨b,off,none⟩) (i-i) (i-i) (H3.drop i) (S.drop i) p.w ((HS3.out.later p.h).drop i hin (some ⟨b,off,none⟩) (fun h=>by omega) (fun h=>by cases h)) (z8k HF.out i) (by omega)
     simp only [Nat.sub_self] at hc0
     clear HRV hbk
     generalize z1i (S.drop i)=y at *
     generalize z1i S=ya at *
     refine z1g (by kernel_rfl) (by kernel_rfl) ?_
     repeat (first | (go_big_quiet_want;(with_reducible refine z5o HX3.out ?_ ?_);rfl;go_simp;go_big_quiet_on) | (go_big_quiet_want;(with_reducible refine z8t HX3.out ?_ ?_);rfl;go_simp;go_big_quiet_on) | go_big_quiet_step (first | (go_at_call 50;first | (with_reducible exact z0w _ (hc0 _)) | (with_reducible exact z0w _ (hc1 _))) | (go_at_call 51;exact z0w _ (hc2 _)) | (go_at_call 18;exact z0w _ (hc3 _)) | (go_at_call 45;first | (with_reducible exact z0w _ (hc4 _)) | (with_reducible exact z0w _ (hc5 _)))))
     refine wpQuiet_nil ?_
     intro w4 hw'
     obtain⟨⟨wq,h6⟩,hw''⟩:=hw'
     subst hw''
     clear hc0 hc1 hc2 hc3 hc4 hc5
     go_wp2_with fail
     go_ret
     exact⟨by rw [HE.out];rfl,HB3.out.trans (h6.mono HB3.out.size)⟩
   · have hc0:=fun (p:After w3)=>z7x (some ⟨b,off+i*3,none⟩) (n-i) (k3-i) (H3.drop i) (S.drop i) p.w ((HS3.out.later p.h).drop i hin (some ⟨b,off+i*3,none⟩) (fun h b' off' e=>by cases e;rfl) (fun h=>by cases h)) (z8k HF.out i) (by omega)
     clear HRV hbk
     generalize z1i (S.drop i)=y at *
     generalize z1i S=ya at *
     refine z1g (by kernel_rfl) (by kernel_rfl) ?_
     repeat (first | (go_big_quiet_want;(with_reducible refine z5o HX3.out ?_ ?_);rfl;go_simp;go_big_quiet_on) | (go_big_quiet_want;(with_reducible refine z8t HX3.out ?_ ?_);rfl;go_simp;go_big_quiet_on) | go_big_quiet_step (first | (go_at_call 50;first | (with_reducible exact z0w _ (hc0 _)) | (with_reducible exact z0w _ (hc1 _))) | (go_at_call 51;exact z0w _ (hc2 _)) | (go_at_call 18;exact z0w _ (hc3 _)) | (go_at_call 45;first | (with_reducible exact z0w _ (hc4 _)) | (with_reducible exact z0w _ (hc5 _)))))
     refine wpQuiet_nil ?_
     intro w4 hw'
     obtain⟨⟨wq,h6⟩,hw''⟩:=hw'
     subst hw''
     clear hc0 hc1 hc2 hc3 hc4 hc5
     go_wp2_with fail
     go_ret
     exact⟨by rw [HE.out];rfl,HB3.out.trans (h6.mono HB3.out.size)⟩
theorem z9i {x:Crs} {retry:Int} (hok:Pgok x.P):0≤z2q x retry∧z2q x retry≤5000∧0≤attP x.P∧attP x.P≤303:=by
 have hfn:(∀ s∈z0h x.P,z3w s)∧(z0h x.P).length≤5:=by
  cases hg:z0l 4 4 x.P with
  | false=>rw [q1d hg];exact⟨(fun s hs=>by cases hs),by simp⟩
  | true=>exact⟨(z1c hg hok).2,(z1c hg hok).1.2⟩
 have ha:=q0i hfn.1 (z0h x.P).length (Nat.le_refl _)
 rw [z6s] at ha
 have hb:0≤attP x.P∧attP x.P≤303:=ha
 refine⟨?_,?_,hb.1,hb.2⟩
 · unfold z2q
   split
   · omega
   split
   · have:=z1f ((z0h x.P).take x.st.toNat)
     omega
   · have h1:=z1f ((z0h x.P).drop x.st.toNat)
     have h2:=z1f (z0h x.P)
     rename_i hg _
     have hg':=(z2e (show z2s x=true by simpa using hg)).2.2.2.2
     have h3:0≤thrC x retry:=by
      unfold thrC q0q
      split <;> split <;> (try split) <;> omega
     have:=Int.mul_nonneg h3 hb.1
     omega
 · unfold z2q
   split
   · omega
   split
   · have:=(z4q (S:=(z0h x.P).take x.st.toNat) (n:=((z0h x.P).take x.st.toNat).length) (z8j hfn.1 _) rfl (by rw [List.length_take];omega)).2
     omega
   · have h1:=(z4q (S:=(z0h x.P).drop x.st.toNat) (n:=((z0h x.P).drop x.st.toNat).length) (z8k hfn.1 _) rfl (by rw [List.length_drop];omega)).2
     have h2:=(z4q hfn.1 rfl hfn.2).2
     rename_i hg _
     have hg':=(z2e (show z2s x=true by simpa using hg)).2.2.2.2
     have h3:0≤thrC x retry∧thrC x retry≤5:=by
      unfold thrC q0q
      split <;> split <;> (try split) <;> omega
     have:=Int.mul_le_mul h3.2 hb.2 hb.1 (by omega)
     omega
theorem q0b (c:Cv) (L:List Ln) (T:List Tk) (M:List Ln) (t:Tv) (retry:Int) (W:World) (hw:Words W) (hP:CvM W c L T M) (hok:Crok (c.x L T M)) (h1:c.p.ln≤400∧c.p.tn≤400∧c.p.wn≤400) (hr:In64 retry) (hz:0≤t.c.sz∧t.c.sz≤1000000000000000000):Calls Tryz.prog 22 #[.agg (ccs c),.agg #[.int .u32 t.c.id,.int .u32 t.c.sg,.int .u8 t.c.st,.bool t.c.cp,.bool t.c.dd,.slice t.p t.n t.m,.int .i64 t.c.fs,.int .i64 t.c.sz],.int .i64 retry] W fun e w'=>e=.returned (.int .i64 (z1p (c.x L T M) t.c.dd t.c.sz retry))∧Below W.heap.size W w':=by
 obtain⟨W1,hW1,hx,ht,hb1⟩:=cr_two8 W c t
 obtain⟨B,hB⟩:∃ B,W.heap.size=B:=⟨_,rfl⟩
 rw [hB] at hx ht
 have HX:=hid hx
 have HT:=hid ht
 have HW1:=hid hW1
 have HB1:=hid hb1
 have HRE:=hid hB
 have hgd:=q0k c L T M W1 (hw.later hb1) (PgM.later hP hb1) hok h1
 cases hg:z2s (c.x L T M) with
 | false =>
  rw [hg] at hgd
  have HE:Hid (z1p (c.x L T M) t.c.dd t.c.sz retry=0):=hid (by unfold z1p;rw [if_pos hg])
  generalize z1p (c.x L T M) t.c.dd t.c.sz retry=RV at *
  clear hW1 hx ht hb1 hB hw hP hok h1 hg hr hz
  go_enter Tryz.func22,Tryz.ntmps22
  go_upto_region 1 with (fail)
  rw [HW1.out,HRE.out]
  go_wp2_with ((with_reducible refine z0f HX.out ?_ ?_);rfl)
  refine hgd.mono ?_
  rintro e w2 ⟨rfl,h2⟩
  have HB2:=hid (HB1.out.trans (h2.mono HB1.out.size))
  clear h2 hgd
  go_wp2_with fail
  go_ret
  exact⟨by rw [HE.out];rfl,HB2.out⟩
 | true =>
  rw [hg] at hgd
  have HRS:Hid (∀ w',Below W.heap.size W w'→Calls Tryz.prog 20 #[.agg (ccs c),.int .i64 retry] w' fun e w''=>e=.returned (.int .i64 (z2q (c.x L T M) retry))∧Below w'.heap.size w' w''):=hid fun w' hb=>nd_rest c L T M retry w' (hw.later hb) (PgM.later hP hb) hok h1 hr
  have HAT:Hid (∀ w',Below W.heap.size W w'→Calls Tryz.prog 18 #[.agg (pcs c.p)] w' fun e w''=>e=.returned (.int .i64 (attP (c.p.pg L T M)))∧Below w'.heap.size w' w''):=hid fun w' hb=>z8u c.p L T M w' (hw.later hb) (PgM.later hP hb) hok.P h1
  have hfew:=z9i (x:=c.x L T M) (retry:=retry) hok.P
  rw [show (c.x L T M).P=c.p.pg L T M from rfl] at hfew
  obtain⟨f1,f2,f3,f4⟩:=hfew
  have hrv:z1p (c.x L T M) t.c.dd t.c.sz retry=if c.tx=0 then z2q (c.x L T M) retry+attP (c.p.pg L T M) else q4k (z2q (c.x L T M) retry+attP (c.p.pg L T M)+(if t.c.dd=true∧c.bk=false then attP (c.p.pg L T M) else 0)) t.c.sz:=by
   unfold z1p
   rw [if_neg (by rw [hg];simp)]
   rfl
  generalize z1p (c.x L T M) t.c.dd t.c.sz retry=RV at *
  generalize z2q (c.x L T M) retry=rs at *
  generalize attP (c.p.pg L T M)=av at *
  have HRV:=hid hrv
  clear hW1 hx ht hb1 hB hw hP hok h1 hg hrv hr
  go_enter Tryz.func22,Tryz.ntmps22
  go_upto_region 1 with (fail)
  rw [HW1.out,HRE.out]
  go_wp2_with ((with_reducible refine z0f HX.out ?_ ?_);rfl)
  refine hgd.mono ?_
  rintro e w2 ⟨rfl,h2⟩
  have HX2:=hid (HX.out.later h2)
  have HT2:=hid (z0b HT.out h2)
  have HB2:=hid (HB1.out.trans (h2.mono HB1.out.size))
  clear h2 HX HT hgd
  go_upto_region 3 with (fail)
  have hbp:=fun (p:After w2)=>HB2.out.trans (p.h.mono HB2.out.size)
  have hc1:=fun (p:After w2)=>HRS.out p.w (hbp p)
  have hc2:=fun (p:After w2)=>HAT.out p.w (hbp p)
  clear hbp
  refine z1g (by kernel_rfl) (by kernel_rfl) ?_
  repeat (first | (go_big_quiet_want;(with_reducible refine z5o HX2.out ?_ ?_);rfl;go_simp;go_big_quiet_on) | (go_big_quiet_want;(with_reducible refine z8t HX2.out ?_ ?_);rfl;go_simp;go_big_quiet_on) | go_big_quiet_step (first | (go_at_call 20;exact z0w _ (hc1 _)) | (go_at_call 18;exact z0w _ (hc2 _))))
  refine wpQuiet_nil ?_
  intro w3 hw'
  obtain⟨⟨wq,h6⟩,hw''⟩:=hw'
  subst hw''
  clear hc1 hc2
  have HB3:=hid (HB2.out.trans (h6.mono HB2.out.size))
  have HX3:=hid (HX2.out.later h6)
  have HT3:=hid (z0b HT2.out h6)
  clear h6 HX2 HT2
  obtain⟨_,a11,_,_,a14⟩:=HX3.out.at
  obtain⟨_,_,_,_,b4,_,_,b7⟩:=z0k HT3.out
  cases q0:(c.tx==0) with
  | true =>
   have HE:Hid (RV=rs+av):=hid (by rw [HRV.out,if_pos (by simpa using q0)])
   clear HRV b4 b7 a11
   go_wp2_with fail
   go_ret
   exact⟨by rw [HE.out];rfl,HB3.out⟩
  | false =>
   have hne:c.tx≠0:=by simpa using q0
   have hrv2:=HRV.out
   rw [if_neg hne] at hrv2
   clear HRV hne
   obtain⟨bb,hbb⟩:∃ bb,c.bk=bb:=⟨_,rfl⟩
   obtain⟨dd,hdd⟩:∃ dd,t.c.dd=dd:=⟨_,rfl⟩
   rw [hbb] at a11 hrv2
   rw [hdd] at b4 hrv2
   generalize t.c.sz=sz at *
   obtain⟨z1,z2⟩:=hz
   clear hbb hdd
   cases dd with
   | false =>
    rw [if_neg (by simp),Int.add_zero] at hrv2
    have HE:=hid hrv2
    clear hrv2 a11
    go_wp2_with fail
    refine (q2w (rs+av) sz _ (by omega) (by omega)).mono ?_
    rintro e w4 ⟨rfl,rfl⟩
    go_wp2_with fail
    go_ret
    exact⟨by rw [HE.out];rfl,HB3.out⟩
   | true =>
    cases bb with
    | true =>
     rw [if_neg (by simp),Int.add_zero] at hrv2
     have HE:=hid hrv2
     clear hrv2
     go_wp2_with fail
     refine (q2w (rs+av) sz _ (by omega) (by omega)).mono ?_
     rintro e w4 ⟨rfl,rfl⟩
     go_wp2_with fail
     go_ret
     exact⟨by rw [HE.out];rfl,HB3.out⟩
    | false =>
     rw [if_pos ⟨rfl,rfl⟩] at hrv2
     have HE:=hid hrv2
     clear hrv2
     go_wp2_with ((with_reducible refine z4f HX3.out ?_ ?_);rfl)
     refine (HAT.out _ HB3.out).mono ?_
     rintro e w4 ⟨rfl,hb4⟩
     have HB4:=hid (HB3.out.trans (hb4.mono HB3.out.size))
     have HT4:=hid (z0b HT3.out hb4)
     clear hb4 HAT HX3 HT3 b4 b7
     obtain⟨_,_,_,_,_,_,_,b7⟩:=z0k HT4.out
     go_wp2_with fail
     refine (q2w (rs+av+av) sz _ (by omega) (by omega)).mono ?_
     rintro e w5 ⟨rfl,rfl⟩
     go_wp2_with fail
     go_ret
     exact⟨by rw [HE.out];rfl,HB4.out⟩
theorem q1q (p:Rv) (L:List Ln) (T:List Tk) (M:List Ln) (retry:Int) (W:World) (hw:Words W) (hP:RvM W p L T M) (hok:Pgok (p.pg L T M)) (h1:p.ln≤400∧p.tn≤400∧p.wn≤400) (hr:In64 retry):Calls Tryz.prog 24 #[.agg (pcs p),.int .i64 retry] W fun e w'=>e=.returned (.int .i64 (z4i (p.pg L T M) retry))∧Below W.heap.size W w':=by
 have HW:=hid fun w' (hb:Below W.heap.size W w')=>hw.later hb
 have HP:=hid fun w' (hb:Below W.heap.size W w')=>PgM.later hP hb
 have HOK:=hid hok
 have HN:=hid h1
 have HR:=hid hr
 have hb0:Below W.heap.size W (W.alloc (.cells (pcs p) 26)):=(Below.refl _ _).alloc (Nat.le_refl _) _
 have hpb:=z0c W (.cells (pcs p) 26)
 have hs0:(W.alloc (.cells (pcs p) 26)).heap.size=W.heap.size+1:=by simp only [World.alloc,Array.size_push]
 obtain⟨W1,hW1⟩:∃ W1,W.alloc (.cells (pcs p) 26)=W1:=⟨_,rfl⟩
 obtain⟨B,hB⟩:∃ B,W.heap.size=B:=⟨_,rfl⟩
 rw [hW1] at hb0 hpb hs0
 rw [hB] at hpb hs0
 obtain⟨hr2,hb2⟩:=rc_new0 W1 (r1p p)
 have hrz:RB (W1.alloc (.cells #[.int .u8 0,.int .u32 0,.int .u32 0,.int .u8 0,.bool false,.int .u8 0,.int .u8 0,.int .u8 0,.int .i64 0,.int .u8 0,.int .u8 0,.int .u32 0,.int .u8 0,.slice none 0 0,.slice none 0 0,.slice none 0 0,.int .u8 0,.int .u8 0,.int .u8 0,.int .i64 0] 42)) W1.heap.size rz:=RB.new W1 rz
 obtain⟨W2,hW2⟩:∃ W2,(W1.alloc (.cells #[.int .u8 0,.int .u32 0,.int .u32 0,.int .u8 0,.bool false,.int .u8 0,.int .u8 0,.int .u8 0,.int .i64 0,.int .u8 0,.int .u8 0,.int .u32 0,.int .u8 0,.slice none 0 0,.slice none 0 0,.slice none 0 0,.int .u8 0,.int .u8 0,.int .u8 0,.int .i64 0] 42)).setRow W1.heap.size (rcs (r1p p))=W2:=⟨_,rfl⟩
 rw [hW2] at hr2 hb2
 rw [hs0] at hr2
 have HPB:=hid hpb
 have HW1:=hid hW1
 have HRE:=hid hB
 have HSZ:=hid hs0
 have HRZ:=hid hrz
 have HW2:=hid hW2
 have HR2:=hid hr2
 have HB2:=hid (hb0.trans (hb2.mono hb0.size))
 have hst:=q0j (r1p p) L T M W2 (HW.out _ HB2.out) (q3w (HP.out _ HB2.out)) (by rw [q1g];exact z9q hok) h1
 rw [q1g] at hst
 have hsz:=z9f (r1p p) L T M
 rw [q1g] at hsz
 clear hw hP hok h1 hr hb0 hpb hs0 hW1 hB hr2 hb2 hrz hW2
 go_enter Tryz.func24,Tryz.ntmps24
 go_upto_region 1 with (fail)
 rw [HW1.out,HRE.out]
 go_upto_region 2 with (first | ((with_reducible refine wpList_load_pl HPB.out ?_ ?_);rfl) | ((with_reducible refine z1a (r1p p) HRZ.out ?_ ?_ ?_);rfl;rfl))
 rw [HW2.out,HSZ.out]
 clear HW2 HRZ HPB
 cases hg:z0l 4 4 (p.pg L T M) with
 | false =>
  have HE:Hid (z4i (p.pg L T M) retry=0):=hid (by unfold z4i;rw [if_neg (by rw [hg];simp)])
  rw [start_bad hg] at hst
  clear hsz
  go_wp2_with ((with_reducible refine z0j HR2.out ?_ ?_);rfl)
  refine hst.mono ?_
  rintro e w3 ⟨c,L3,T3,M3,rfl,hm3,hx3,h3,_⟩
  have HB3:=hid (HB2.out.trans (h3.mono HB2.out.size))
  obtain⟨hc4,hb4⟩:=cr_new0 w3 c
  have hz3:CB (w3.alloc (.cells #[.int .u32 0,.int .u8 0,.int .u32 0,.int .u8 0,.slice none 0 0,.slice none 0 0,.slice none 0 0,.int .u8 0,.int .u8 0,.int .u8 0,.int .i64 0,.bool false,.int .i64 0,.int .i64 0,.int .u32 0] 34)) w3.heap.size cz:=CB.new w3 cz
  obtain⟨w4,hw4⟩:∃ w4,(w3.alloc (.cells #[.int .u32 0,.int .u8 0,.int .u32 0,.int .u8 0,.slice none 0 0,.slice none 0 0,.slice none 0 0,.int .u8 0,.int .u8 0,.int .u8 0,.int .i64 0,.bool false,.int .i64 0,.int .i64 0,.int .u32 0] 34)).setRow w3.heap.size (ccs c)=w4:=⟨_,rfl⟩
  rw [hw4] at hc4 hb4
  have HZ3:=hid hz3
  have HW4:=hid hw4
  have HB4:=hid (HB3.out.trans (hb4.mono HB3.out.size))
  clear hc4 hb4 hz3 hw4 h3 hm3 hx3 hst HR2
  go_upto_region 3 with ((with_reducible refine z0m c HZ3.out ?_ ?_ ?_);rfl;rfl)
  rw [HW4.out]
  go_wp2_with fail
  go_ret
  exact⟨by rw [HE.out];rfl,HB4.out⟩
 | true =>
  have HE:Hid (z4i (p.pg L T M) retry=z0z (x1st (p.pg L T M))+z1p (crs0 (p.pg L T M)) false 0 retry):=hid (by unfold z4i;rw [if_pos hg])
  rw [z9v hg] at hst
  go_wp2_with ((with_reducible refine z0j HR2.out ?_ ?_);rfl)
  refine hst.mono ?_
  rintro e w3 ⟨c,L3,T3,M3,rfl,hm3,hx3,h3,_⟩
  have HB3:=hid (HB2.out.trans (h3.mono HB2.out.size))
  have HR3:=hid (HR2.out.later h3)
  obtain⟨hc4,hb4⟩:=cr_new0 w3 c
  have hz3:CB (w3.alloc (.cells #[.int .u32 0,.int .u8 0,.int .u32 0,.int .u8 0,.slice none 0 0,.slice none 0 0,.slice none 0 0,.int .u8 0,.int .u8 0,.int .u8 0,.int .i64 0,.bool false,.int .i64 0,.int .i64 0,.int .u32 0] 34)) w3.heap.size cz:=CB.new w3 cz
  obtain⟨w4,hw4⟩:∃ w4,(w3.alloc (.cells #[.int .u32 0,.int .u8 0,.int .u32 0,.int .u8 0,.slice none 0 0,.slice none 0 0,.slice none 0 0,.int .u8 0,.int .u8 0,.int .u8 0,.int .i64 0,.bool false,.int .i64 0,.int .i64 0,.int .u32 0] 34)).setRow w3.heap.size (ccs c)=w4:=⟨_,rfl⟩
  obtain⟨A,hA⟩:∃ A,w3.heap.size=A:=⟨_,rfl⟩
  rw [hw4] at hc4 hb4
  rw [hA] at hc4
  have HZ3:=hid hz3
  have HW4:=hid hw4
  have HAA:=hid hA
  have HC4:=hid hc4
  have HB4:=hid (HB3.out.trans (hb4.mono HB3.out.size))
  have HR4:=hid (HR3.out.later hb4)
  have HM4:Hid (CvM w4 c L3 T3 M3):=hid (PgM.later hm3 hb4)
  have HX4:=hid hx3
  clear hc4 hb4 hz3 hw4 h3 hm3 hx3 hst HR2 hA HR3
  go_upto_region 3 with ((with_reducible refine z0m c HZ3.out ?_ ?_ ?_);rfl;rfl)
  rw [HW4.out,HAA.out]
  clear HZ3 HW4 HAA
  have hbp:=fun (q:After w4)=>HB4.out.trans (q.h.mono HB4.out.size)
  have hcl:c.p.ln≤400∧c.p.tn≤400∧c.p.wn≤400:=by
   have e:c.p.pg L3 T3 M3=p.pg L T M:=congrArg Crs.P HX4.out
   have e1:L3=L:=congrArg Pg.lines e
   have e2:T3=T:=congrArg Pg.takes e
   have e3:M3=M:=congrArg Pg.owes e
   have g:=HP.out _ (Below.refl _ _)
   have g1:=HM4.out.l.len
   have g2:=HM4.out.t.len
   have g3:=HM4.out.o.len
   have k1:=g.l.len
   have k2:=g.t.len
   have k3:=g.o.len
   have hn:=HN.out
   subst e1 e2 e3
   omega
  have hc1:=fun (q:After w4)=>hsz q.w (HW.out _ (hbp q)) (q3w (HP.out _ (hbp q))) (by exact z9q HOK.out) HN.out
  have hc2:=fun (q:After w4)=>q0b c L3 T3 M3 tv0 retry q.w (HW.out _ (hbp q)) (PgM.later HM4.out q.h) (by rw [HX4.out];exact⟨by simp only;omega,HOK.out,by unfold In64;simp only;omega,by unfold In64;simp only;omega,by simp only;omega⟩) hcl HR.out ⟨by decide,by decide⟩
  rw [HX4.out] at hc2
  have hc2':∀ (q:After w4),Calls Tryz.prog 22 #[.agg (ccs c),.agg #[.int .u32 0,.int .u32 0,.int .u8 0,.bool false,.bool false,.slice none 0 0,.int .i64 0,.int .i64 0],.int .i64 retry] q.w fun e w'=>e=.returned (.int .i64 (z1p (crs0 (p.pg L T M)) false 0 retry))∧Below q.w.heap.size q.w w':=hc2
  have hh:0≤z1p (crs0 (p.pg L T M)) false 0 retry∧z1p (crs0 (p.pg L T M)) false 0 retry≤6000:=by
   have:=z9i (x:=crs0 (p.pg L T M)) (retry:=retry) HOK.out
   have ha:attP (crs0 (p.pg L T M)).P=attP (p.pg L T M):=rfl
   rw [ha] at this
   rw [z8e hg]
   omega
  have hzz:0≤z0z (x1st (p.pg L T M))∧z0z (x1st (p.pg L T M))≤500:=by
   have hgx:=z7k hg
   have:=z8f hgx
   unfold z0z
   rw [if_pos hgx]
   omega
  generalize z1p (crs0 (p.pg L T M)) false 0 retry=hv at *
  generalize z0z (x1st (p.pg L T M))=sv at *
  clear hc2 hbp hcl hsz hg
  go_upto_region 5 with (fail)
  refine z1g (by kernel_rfl) (by kernel_rfl) ?_
  repeat (first | (go_big_quiet_want;(with_reducible refine z5o HC4.out ?_ ?_);rfl;go_simp;go_big_quiet_on) | (go_big_quiet_want;(with_reducible refine nq_load_rc HR4.out ?_ ?_);rfl;go_simp;go_big_quiet_on) | go_big_quiet_step (first | (go_at_call 28;with_reducible exact z0w _ (hc1 _)) | (go_at_call 22;with_reducible exact z0w _ (hc2' _))))
  refine wpQuiet_nil ?_
  intro w5 hw'
  obtain⟨⟨wq,h6⟩,hw''⟩:=hw'
  subst hw''
  clear hc1 hc2'
  go_wp2_with fail
  go_ret
  exact⟨by rw [HE.out];rfl,HB4.out.trans (h6.mono HB4.out.size)⟩
end Go.Proofs.YtclbkfpbdidaiaaGreatDoor
