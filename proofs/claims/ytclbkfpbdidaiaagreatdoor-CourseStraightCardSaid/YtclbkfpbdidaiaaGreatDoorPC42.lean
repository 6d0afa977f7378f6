import Derived.Test.YtclbkfpbdidaiaaGreatDoorPC99
import Derived.Test.YtclbkfpbdidaiaaGreatDoorPC40
import Derived.Test.YtclbkfpbdidaiaaGreatDoorPC41
namespace Go.Proofs.YtclbkfpbdidaiaaGreatDoor
open Go.Lib (hid)
set_option maxHeartbeats 8000000
open Go.RowKit Go.ChangeShapes Go.WideShapes
set_option linter.unusedVariables false
set_option linter.unusedSimpArgs false
set_option maxRecDepth 10000
def ActX (W:World) (B:Nat) (Q:Nat→Prop) (M:List Tc) (w':World):Prop:=∃ mb H Q',JgX w' B mb H Q'∧H.map (·.c)=M∧(∀ j,Q' j→Q j∨W.heap.size≤j)∧Turn Q W w'
theorem ActX.stay {W w':World} {B:Nat} {mb:Option Nat} {H:List Tv} {Q:Nat→Prop} {M:List Tc} (h:JgX W B mb H Q) (hm:H.map (·.c)=M) (hb:Below W.heap.size W w'):ActX W B Q M w':=⟨mb,H,Q,h.later hb,hm,fun j hj=>.inl hj,Turn.of_below hb⟩
theorem ActX.put {W V w':World} {B:Nat} {mb:Option Nat} {H:List Tv} {Q:Nat→Prop} {M:List Tc} {t:Tv} (h:JgX W B mb H Q) (hm:H.map (·.c)=M) (hv:Turn Q W V) (hp:PutX V B mb H Q t w') (ht:∀ g,t.blk=some g→Q g∨W.heap.size≤g):ActX W B Q (z1x Tc.id M t.c) w':=by
 obtain⟨mb',h1,h2⟩:=hp
 refine⟨mb',_,_,h1,by rw [map_withT (ix:=Tv.id) (jx:=Tc.id) (f:=(·.c)) (fun _=>rfl),hm],fun j hj=>?_,hv.trans h2 fun k _ hk=>?_⟩
 · rcases hj with hj | hj | hj
   · exact .inl hj
   · exact ht j hj
   · exact .inr (Nat.le_trans hv.size hj.1)
 · rcases hk with rfl | hk
   · exact h.qb
   · exact h.qm _ hk
theorem ActX.act {W w':World} {B:Nat} {Q:Nat→Prop} {M:List Tc} (h:ActX W B Q M w'):JActed Jg W w' B M Q:=by
 obtain⟨mb,H,Q',h1,h2,h3,h4⟩:=h
 exact⟨Q',⟨mb,H,h1,h2⟩,h3,h4⟩
theorem owno_none (w:World) (c:Tc) (h:c.dn=[]):OwnO w (⟨c,none,0,0⟩:Tv):=by
 show w.ownsRow 0 _ 4 (.slice none 0 0) 0 (z0n oc c.dn)
 rw [h]
 exact World.ownsRow_nil _ _ _ _
set_option maxRecDepth 100000 in
theorem begin_any (W:World) (B:Nat) (mb:Option Nat) (H:List Tv) (Q:Nat→Prop) (M:List Tc) (at_:Int) (r:Rv) (h:JgX W B mb H Q) (hm:H.map (·.c)=M) (hiQ:∀ t∈H,Uok t.c.id) (hf:∀ t∈H,t.n≤100) (hn:H.length≤1000) (hw:Words W) (hP:RvM W r [] [] []) (hok:Rxok (r.x [] [] [])) :
 Calls Tryz.prog 70 #[.pointer (some ⟨B,0,none⟩),.int .i64 at_,.agg (rcs r)] W fun e w'=>e=.returned (.int .i64 (if (getT Tv.id H r.tx).isSome=true∨(getT Tv.sg H r.sg).isSome=true then 11 else 0))∧ActX W B Q (if (getT Tv.id H r.tx).isSome=true∨(getT Tv.sg H r.sg).isSome=true then M else z1x Tc.id M ⟨r.tx,r.sg,r.st,r.cp,false,[],at_,z1e (r.x [] [] [])⟩) w':=by
 have hb0:Below W.heap.size W (W.alloc (.cells (rcs r) 42)):=(Below.refl _ _).alloc (Nat.le_refl _) _
 have HB0:=hid hb0
 have HY:Hid (RB _ W.heap.size r):=hid (RB.new W r)
 have HJ:=hid fun w' (hb:Below W.heap.size W w')=>h.later hb
 have HJ0:=hid h
 have HM:=hid hm
 have HW:=hid fun w' (hb:Below W.heap.size W w')=>hw.later hb
 have HGET:=hid fun w' (hb:Below W.heap.size W w')=>jget_any w' B mb H Q r.tx (h.later hb) hok.tx (fun t ht=>by have:=hf t ht;omega)
 have HOF:=hid fun w' (hb:Below W.heap.size W w')=>jof_any w' B mb H Q r.sg (h.later hb) hiQ (fun t ht=>by have:=hf t ht;omega)
 have HSZ:Hid (∀ w',Words w'→Calls Tryz.prog 28 #[.agg (rcs r)] w' fun e w''=>e=.returned (.int .i64 (z1e (r.x [] [] [])))∧Below w'.heap.size w' w''):=hid fun w' h=>q1o r [] [] [] w' h (z6m hP w') hok ⟨by have:=hP.l.len;simp at this;omega,by have:=hP.t.len;simp at this;omega,by have:=hP.o.len;simp at this;omega⟩
 have HTX:Hid (0≤r.tx∧r.tx≤4294967295):=hid hok.tx
 have HLN:=hid hn
 generalize z1e (r.x [] [] [])=s at *
 obtain⟨op,hop⟩:∃ q,(getT Tv.id H r.tx).isSome=q:=⟨_,rfl⟩
 obtain⟨bz,hbz⟩:∃ q,(getT Tv.sg H r.sg).isSome=q:=⟨_,rfl⟩
 rw [hop,hbz]
 rw [hop] at HGET
 rw [hbz] at HOF
 generalize (getT Tv.id H r.tx).getD tv0=t at *
 generalize ((getT Tv.sg H r.sg).getD tv0).c=u at *
 obtain⟨Y,hYE⟩:∃ Y,W.heap.size=Y:=⟨_,rfl⟩
 rw [hYE] at HY
 have HYW:=hid hYE
 clear hb0 h hm hiQ hf hn hw hP hok hop hbz
 go_enter Tryz.func70,Tryz.ntmps70
 go_upto_region 1 with (fail)
 clear hYE
 generalize W.alloc (.cells (rcs r) 42)=V0 at *
 have y2:=z0a (j:=2) HY.out (v:=.int .u32 r.tx) rfl
 go_wp2_with fail
 clear y2
 refine (HGET.out _ HB0.out).mono ?_
 rintro e1 w1 ⟨p,m,rfl,hrow,hb1⟩
 have HB1:=hid (HB0.out.trans (hb1.mono HB0.out.size))
 have HY1:=hid (HY.out.later hb1)
 clear hrow hb1 HY HGET
 go_upto_region 2 with (fail)
 have hb2:Below w1.heap.size w1 (w1.alloc (.cells #[.int .u32 t.c.id,.int .u32 t.c.sg,.int .u8 t.c.st,.bool t.c.cp,.bool t.c.dd,.slice p t.n m,.int .i64 t.c.fs,.int .i64 t.c.sz] 46)):=(Below.refl _ _).alloc (Nat.le_refl _) _
 have HB2:=hid (HB1.out.trans (hb2.mono HB1.out.size))
 have HY2:=hid (HY1.out.later hb2)
 clear hb2 HY1
 generalize w1.alloc (.cells #[.int .u32 t.c.id,.int .u32 t.c.sg,.int .u8 t.c.st,.bool t.c.cp,.bool t.c.dd,.slice p t.n m,.int .i64 t.c.fs,.int .i64 t.c.sz] 46)=V2 at *
 have y1:=z0a (j:=1) HY2.out (v:=.int .u32 r.sg) rfl
 go_wp2_with fail
 clear y1
 refine (HOF.out _ HB2.out).mono ?_
 rintro e3 w3 ⟨v,rfl,hvc,hvm,hb3⟩
 clear hvc hvm
 have HB3:=hid (HB2.out.trans (hb3.mono HB2.out.size))
 have HY3:=hid (HY2.out.later hb3)
 clear hb3 HY2 HOF
 go_upto_region 3 with (fail)
 have hb4:Below w3.heap.size w3 (w3.alloc (.cells #[.int .u32 v.c.id,.int .u32 v.c.sg,.int .u8 v.c.st,.bool v.c.cp,.bool v.c.dd,.slice v.p v.n v.m,.int .i64 v.c.fs,.int .i64 v.c.sz] 46)):=(Below.refl _ _).alloc (Nat.le_refl _) _
 have HB4:=hid (HB3.out.trans (hb4.mono HB3.out.size))
 have HY4:=hid (HY3.out.later hb4)
 clear hb4 HY3
 generalize w3.alloc (.cells #[.int .u32 v.c.id,.int .u32 v.c.sg,.int .u8 v.c.st,.bool v.c.cp,.bool v.c.dd,.slice v.p v.n v.m,.int .i64 v.c.fs,.int .i64 v.c.sz] 46)=V4 at *
 cases op with
 | true =>
  go_wp2_with fail
  go_ret
  exact⟨rfl,ActX.stay HJ0.out HM.out HB4.out⟩
 | false =>
  cases bz with
  | true =>
   go_wp2_with fail
   go_ret
   exact⟨rfl,ActX.stay HJ0.out HM.out HB4.out⟩
  | false =>
   go_wp2_with fail
   have hbd:RB V4.drew Y r:=HY4.out
   have HB5:Hid (Below W.heap.size W V4.drew):=hid (z0e HB4.out 1)
   refine wp_region_held_drew (S:=fun w'=>Hid (RB w' Y r)) (by kernel_rfl) (hid hbd) (fun hHeld=>?_)
   clear hbd HY4 HB4
   generalize V4.drew=V5 at *
   refine wpAnyH_take (i:=0) (oi:=⟨some 29,_,_,_,_,_⟩) (v:=.pointer (some ⟨B,0,none⟩)) rfl (by kernel_rfl) (by kernel_rfl) (by kernel_rfl) (fun _ _ _ h=>h) (Or.inl ⟨by rfl,fun w' hw'=>?_⟩) (by assumption) ?_
   · clear hHeld
     go_simp
   simp only [Act.put,sIB,sCZ,sCS]
   refine wpAnyH_take (i:=1) (oi:=⟨some 30,_,_,_,_,_⟩) (v:=.pointer (some ⟨Y,2,none⟩)) rfl (by kernel_rfl) (by kernel_rfl) (by kernel_rfl) (fun _ _ _ h=>h) (Or.inl ⟨by rfl,fun w' hw'=>?_⟩) (by assumption) ?_
   · clear hHeld
     go_simp
   simp only [Act.put,sIB,sCZ,sCS]
   refine wpAnyH_take (i:=2) (oi:=⟨some 31,_,_,_,_,_⟩) (v:=.int .u32 r.tx) rfl (by kernel_rfl) (by kernel_rfl) (by kernel_rfl) (fun _ _ _ h=>h) (Or.inl ⟨by rfl,fun w' hw'=>?_⟩) (by assumption) ?_
   · have y2:=z0a (j:=2) (Hid.out hw') (v:=.int .u32 r.tx) rfl
     clear hHeld
     go_simp
   simp only [Act.put,sIB,sCZ,sCS]
   refine wpAnyH_take (i:=3) (oi:=⟨some 32,_,_,_,_,_⟩) (v:=.pointer (some ⟨Y,1,none⟩)) rfl (by kernel_rfl) (by kernel_rfl) (by kernel_rfl) (fun _ _ _ h=>h) (Or.inl ⟨by rfl,fun w' hw'=>?_⟩) (by assumption) ?_
   · clear hHeld
     go_simp
   simp only [Act.put,sIB,sCZ,sCS]
   refine wpAnyH_take (i:=4) (oi:=⟨some 33,_,_,_,_,_⟩) (v:=.int .u32 r.sg) rfl (by kernel_rfl) (by kernel_rfl) (by kernel_rfl) (fun _ _ _ h=>h) (Or.inl ⟨by rfl,fun w' hw'=>?_⟩) (by assumption) ?_
   · have y1:=z0a (j:=1) (Hid.out hw') (v:=.int .u32 r.sg) rfl
     clear hHeld
     go_simp
   simp only [Act.put,sIB,sCZ,sCS]
   refine wpAnyH_take (i:=5) (oi:=⟨some 34,_,_,_,_,_⟩) (v:=.pointer (some ⟨Y,3,none⟩)) rfl (by kernel_rfl) (by kernel_rfl) (by kernel_rfl) (fun _ _ _ h=>h) (Or.inl ⟨by rfl,fun w' hw'=>?_⟩) (by assumption) ?_
   · clear hHeld
     go_simp
   simp only [Act.put,sIB,sCZ,sCS]
   refine wpAnyH_take (i:=6) (oi:=⟨some 35,_,_,_,_,_⟩) (v:=.int .u8 r.st) rfl (by kernel_rfl) (by kernel_rfl) (by kernel_rfl) (fun _ _ _ h=>h) (Or.inl ⟨by rfl,fun w' hw'=>?_⟩) (by assumption) ?_
   · have y3:=z0a (j:=3) (Hid.out hw') (v:=.int .u8 r.st) rfl
     clear hHeld
     go_simp
   simp only [Act.put,sIB,sCZ,sCS]
   refine wpAnyH_take (i:=7) (oi:=⟨some 36,_,_,_,_,_⟩) (v:=.pointer (some ⟨Y,4,none⟩)) rfl (by kernel_rfl) (by kernel_rfl) (by kernel_rfl) (fun _ _ _ h=>h) (Or.inl ⟨by rfl,fun w' hw'=>?_⟩) (by assumption) ?_
   · clear hHeld
     go_simp
   simp only [Act.put,sIB,sCZ,sCS]
   refine wpAnyH_take (i:=8) (oi:=⟨some 37,_,_,_,_,_⟩) (v:=.bool r.cp) rfl (by kernel_rfl) (by kernel_rfl) (by kernel_rfl) (fun _ _ _ h=>h) (Or.inl ⟨by rfl,fun w' hw'=>?_⟩) (by assumption) ?_
   · have y4:=z0a (j:=4) (Hid.out hw') (v:=.bool r.cp) rfl
     clear hHeld
     go_simp
   simp only [Act.put,sIB,sCZ,sCS]
   refine wpAnyH_take (i:=9) (oi:=⟨some 38,_,_,_,_,_⟩) (v:=.int .i64 at_) rfl (by kernel_rfl) (by kernel_rfl) (by kernel_rfl) (fun _ _ _ h=>h) (Or.inl ⟨by rfl,fun w' hw'=>?_⟩) (by assumption) ?_
   · clear hHeld
     go_simp
   simp only [Act.put,sIB,sCZ,sCS]
   refine wpAnyH_take (i:=10) (oi:=⟨some 39,_,_,_,_,_⟩) (v:=.agg (rcs r)) rfl (by kernel_rfl) (by kernel_rfl) (by kernel_rfl) (fun _ _ _ h=>h) (Or.inl ⟨by rfl,fun w' hw'=>z2z rfl (Hid.out hw')⟩) (by assumption) ?_
   simp only [Act.put,sIB,sCZ,sCS]
   refine wpAnyH_ready (rs:=[11]) (by kernel_rfl) (by simp) (AllReadyH.cons rfl (fun K hK=>?_) (AllReadyH.nil))
   go_simp
   go_wp2_with fail
   refine (HSZ.out _ (HW.out _ HB5.out)).mono ?_
   rintro e6 w6 ⟨rfl,hb6⟩
   have hSN:Hid (RB w6 Y r):=hid (hHeld.out.later hb6)
   have HB6:=hid (HB5.out.trans (hb6.mono HB5.out.size))
   clear hb6
   go_wp2_with fail
   refine hK.out _ _ hSN (fun hHeld2=>?_)
   try simp only [Act.put,sIB,sCZ,sCS]
   clear hSN hK K hHeld
   have hHeld:=hHeld2
   clear hHeld2
   refine wpAnyH_take (i:=12) (oi:=⟨some 41,_,_,_,_,_⟩) (v:=.agg #[.int .u32 r.tx,.int .u32 r.sg,.int .u8 r.st,.bool r.cp,.bool false,.slice none 0 0,.int .i64 at_,.int .i64 s]) rfl (by kernel_rfl) (by kernel_rfl) (by kernel_rfl) (fun _ _ _ h=>h) (Or.inl ⟨by rfl,fun w' hw'=>?_⟩) (by assumption) ?_
   · clear hHeld
     go_simp
   simp only [Act.put,sIB,sCZ,sCS]
   refine wpAnyH_ready (rs:=[13]) (by kernel_rfl) (by simp) (AllReadyH.cons rfl (fun K hK=>?_) (AllReadyH.nil))
   have HPUT:=hid (z7i (⟨⟨r.tx,r.sg,r.st,r.cp,false,[],at_,s⟩,none,0,0⟩:Tv) HTX.out w6 B mb H Q ((HJ.out _ HB6.out).y _) (by have:=HLN.out;omega) (owno_none _ _ rfl) (fun g hg=>by cases hg))
   go_simp
   go_wp2_with fail
   refine HPUT.out.mono ?_
   rintro e7 w7 ⟨rfl,hput⟩
   have HPT:=hid hput
   have hSN:Hid (RB w7 Y r):=hid (by
    obtain⟨mb',_,h2⟩:=hput
    refine (h2.block Y (z0g hHeld.out) (fun e=>?_)).trans hHeld.out
    have h3:=HYW.out
    rcases e with e | e
    · have h4:=HJ0.out.lt _ HJ0.out.qb
      omega
    · have h4:=HJ0.out.lt _ (HJ0.out.qm _ e)
      omega)
   clear hput HPUT
   go_wp2_with fail
   refine hK.out _ _ hSN (fun hHeld2=>?_)
   try simp only [Act.put,sIB,sCZ,sCS]
   clear hSN hK K hHeld
   have hHeld:=hHeld2
   clear hHeld2
   refine wpAnyH_done (by kernel_rfl) ?_ _
   clear hHeld
   go_wp2_with fail
   go_ret
   exact⟨rfl,ActX.put (t:=(⟨⟨r.tx,r.sg,r.st,r.cp,false,[],at_,s⟩,none,0,0⟩:Tv)) HJ0.out HM.out (Turn.of_below HB6.out) HPT.out (fun g hg=>by cases hg)⟩
theorem jget_cm {H:List Tv} {M:List Tc} {i:Int} {t:Tv} (h:H.map (·.c)=M) (hg:getT Tv.id H i=some t):getT Tc.id M i=some t.c:=by
 have h1:=z6b (ix:=Tv.id) (jx:=Tc.id) (f:=(·.c)) (fun _=>rfl) i H
 rw [h,hg] at h1
 exact h1.symm
theorem jget_cn {H:List Tv} {M:List Tc} {i:Int} (h:H.map (·.c)=M) (hg:getT Tv.id H i=none):getT Tc.id M i=none:=by
 have h1:=z6b (ix:=Tv.id) (jx:=Tc.id) (f:=(·.c)) (fun _=>rfl) i H
 rw [h,hg] at h1
 exact h1.symm
theorem app_fit {M:List Tc} {at_:Int} {X:Rx} {c:Tc} (hg:z1j X=true) (h3:3≤X.k∧X.k≤7) (ht:getT Tc.id M X.tx=some c) :
 appC M at_ X=if fitB c X.k X.key X.d=true then (if X.k=4∨X.k=7 then (z1v Tc.id M X.tx,0) else (z1x Tc.id M (aftC c X.k X.key X.d (z1e X)),0)) else (M,12):=by
 rw [z9e hg h3 ht]
 unfold fitB aftC
 have hk:X.k=3∨X.k=4∨X.k=5∨X.k=6∨X.k=7:=by omega
 rcases hk with hk | hk | hk | hk | hk
 · rw [hk]
   simp only [if_pos]
   cases hd:c.dd with
   | true=>simp
   | false =>
    by_cases h6:c.dn.length<6
    · have h7:¬ 6≤c.dn.length:=by omega
      have h8:(c.dn.length:Int)<6:=by omega
      simp [h7,h8]
    · have h7:6≤c.dn.length:=by omega
      have h8:¬ (c.dn.length:Int)<6:=by omega
      simp [h7,h8]
 · rw [hk]
   cases hd:c.dd <;> simp
 · rw [hk]
   cases hd:c.dd <;> simp
 · rw [hk]
   by_cases hl:z2r c=((X.key,X.d),true)
   · simp [hl]
   · have:¬ ((z2r c).2=true∧(z2r c).1=(X.key,X.d)):=fun e=>hl (by rw [← e.1,← e.2])
     simp [hl,this]
 · rw [hk]
   cases hd:c.dn with
   | nil=>simp
   | cons o L => 
    have:¬ ((L.length:Int)+1=0):=by omega
    simp [this]
theorem fit_pos {t:Tv} {k d:Int} {key:K} (h:fitB t.c k key d=true) (hk:k=6) (hl:t.c.dn.length=t.n):1≤t.n:=by
 unfold fitB at h
 rw [if_neg (by omega),if_neg (by omega),if_pos hk] at h
 rcases Nat.eq_zero_or_pos t.n with h0 | h0
 · rw [z5t (by omega)] at h
   cases h
 · exact h0
set_option maxRecDepth 100000 in
theorem z4x (W:World) (B:Nat) (mb:Option Nat) (H:List Tv) (Q:Nat→Prop) (M:List Tc) (at_:Int) (r:Rv) (h:JgX W B mb H Q) (hm:H.map (·.c)=M) (hM:JOk M) (hw:Words W) (hP:RvM W r [] [] []) (hok:Rxok (r.x [] [] [])) (hg:z1j (r.x [] [] [])=true) (hk:3≤r.k∧r.k≤7) :
 Calls Tryz.prog 71 #[.pointer (some ⟨B,0,none⟩),.agg (rcs r)] W fun e w'=>e=.returned (.int .i64 (appC M at_ (r.x [] [] [])).2)∧ActX W B Q (appC M at_ (r.x [] [] [])).1 w':=by
 have hb0:Below W.heap.size W (W.alloc (.cells (rcs r) 42)):=(Below.refl _ _).alloc (Nat.le_refl _) _
 have HB0:=hid hb0
 have HY:Hid (RB _ W.heap.size r):=hid (RB.new W r)
 have HJ:=hid fun w' (hb:Below W.heap.size W w')=>h.later hb
 have HJ0:=hid h
 have HM:=hid hm
 have HW:=hid fun w' (hb:Below W.heap.size W w')=>hw.later hb
 have HTX:Hid (0≤r.tx∧r.tx≤4294967295):=hid hok.tx
 have HOK:=hid hM
 have HP:=hid hP
 have HR:=hid hok
 have HG:=hid hg
 have HK:=hid hk
 obtain⟨g,hgt⟩:∃ g,getT Tv.id H r.tx=g:=⟨_,rfl⟩
 have HGT:=hid hgt
 obtain⟨t,ht⟩:∃ t,g.getD tv0=t:=⟨_,rfl⟩
 obtain⟨q,hq⟩:∃ q,g.isSome=q:=⟨_,rfl⟩
 have HLK:=hid fun w' (hj:JgX w' B mb H Q)=>hj.look (x:=r.tx) hok.tx (t:=t) (by rw [hgt];exact ht) (b:=q) (by rw [hgt];exact hq)
 have HTG:=hid ht
 have HQG:=hid hq
 obtain⟨Y,hYE⟩:∃ Y,W.heap.size=Y:=⟨_,rfl⟩
 rw [hYE] at HY
 have HYW:=hid hYE
 clear hb0 h hm hM hw hP hok hg hk hgt ht hq
 go_enter Tryz.func71,Tryz.ntmps71
 go_upto_region 1 with (fail)
 clear hYE
 generalize W.alloc (.cells (rcs r) 42)=V0 at *
 have hbd:JgX V0.drew B mb H Q∧RB V0.drew Y r:=⟨(HJ.out V0 HB0.out).later ((Below.refl V0.heap.size V0).drew),HY.out⟩
 have HB1:Hid (Below W.heap.size W V0.drew):=hid (z0e HB0.out 1)
 go_wp2_with fail
 refine wp_region_held_drew (S:=fun w'=>Hid (JgX w' B mb H Q∧RB w' Y r)) (by kernel_rfl) (hid hbd) (fun hHeld=>?_)
 clear hbd HY HB0
 generalize V0.drew=V1 at *
 refine wpAnyH_take (i:=0) (oi:=⟨some 8,_,_,_,_,_⟩) (v:=.pointer (some ⟨B,0,none⟩)) rfl (by kernel_rfl) (by kernel_rfl) (by kernel_rfl) (fun _ _ _ h=>h) (Or.inl ⟨by rfl,fun w' hw'=>?_⟩) (by assumption) ?_
 · clear hHeld
   go_simp
 simp only [Act.put,sIB,sCZ,sCS]
 refine wpAnyH_take (i:=1) (oi:=⟨some 9,_,_,_,_,_⟩) (v:=.pointer (some ⟨B,0,none⟩)) rfl (by kernel_rfl) (by kernel_rfl) (by kernel_rfl) (fun _ _ _ h=>h) (Or.inl ⟨by rfl,fun w' hw'=>?_⟩) (by assumption) ?_
 · clear hHeld
   go_simp
 simp only [Act.put,sIB,sCZ,sCS]
 refine wpAnyH_take (i:=2) (oi:=⟨some 10,_,_,_,_,_⟩) (v:=.pointer (some ⟨B,0,none⟩)) rfl (by kernel_rfl) (by kernel_rfl) (by kernel_rfl) (fun _ _ _ h=>h) (Or.inl ⟨by rfl,fun w' hw'=>?_⟩) (by assumption) ?_
 · clear hHeld
   go_simp
 simp only [Act.put,sIB,sCZ,sCS]
 refine wpAnyH_take (i:=3) (oi:=⟨some 11,_,_,_,_,_⟩) (v:=.map mb) rfl (by kernel_rfl) (by kernel_rfl) (by kernel_rfl) (fun _ _ _ h=>h) (Or.inl ⟨by rfl,fun w' hw'=>?_⟩) (by assumption) ?_
 · have c0:=z0a (j:=0) hw'.out.1.b (v:=.map mb) rfl
   clear hHeld
   go_simp
 simp only [Act.put,sIB,sCZ,sCS]
 refine wpAnyH_take (i:=4) (oi:=⟨some 12,_,_,_,_,_⟩) (v:=.pointer (some ⟨Y,2,none⟩)) rfl (by kernel_rfl) (by kernel_rfl) (by kernel_rfl) (fun _ _ _ h=>h) (Or.inl ⟨by rfl,fun w' hw'=>?_⟩) (by assumption) ?_
 · clear hHeld
   go_simp
 simp only [Act.put,sIB,sCZ,sCS]
 refine wpAnyH_take (i:=5) (oi:=⟨some 13,_,_,_,_,_⟩) (v:=.int .u32 r.tx) rfl (by kernel_rfl) (by kernel_rfl) (by kernel_rfl) (fun _ _ _ h=>h) (Or.inl ⟨by rfl,fun w' hw'=>?_⟩) (by assumption) ?_
 · have y2:=z0a (j:=2) hw'.out.2 (v:=.int .u32 r.tx) rfl
   clear hHeld
   go_simp
 simp only [Act.put,sIB,sCZ,sCS]
 refine wpAnyH_take (i:=6) (oi:=⟨some 14,_,_,_,_,_⟩) (v:=.tuple #[.agg #[.int .u32 t.c.id,.int .u32 t.c.sg,.int .u8 t.c.st,.bool t.c.cp,.bool t.c.dd,.slice t.p t.n t.m,.int .i64 t.c.fs,.int .i64 t.c.sz],.bool q]) rfl (by kernel_rfl) (by kernel_rfl) (by kernel_rfl) (fun _ _ _ h=>h) (Or.inl ⟨by rfl,fun w' hw'=>?_⟩) (by assumption) ?_
 · have c0:=HLK.out w' hw'.out.1
   clear hHeld
   go_simp
 simp only [Act.put,sIB,sCZ,sCS]
 refine wpAnyH_take (i:=7) (oi:=⟨some 7,_,_,_,_,_⟩) (v:=.tuple #[.agg #[.int .u32 t.c.id,.int .u32 t.c.sg,.int .u8 t.c.st,.bool t.c.cp,.bool t.c.dd,.slice t.p t.n t.m,.int .i64 t.c.fs,.int .i64 t.c.sz],.bool q]) rfl (by kernel_rfl) (by kernel_rfl) (by kernel_rfl) (fun _ _ _ h=>h) (Or.inl ⟨by rfl,fun w' hw'=>?_⟩) (by assumption) ?_
 · clear hHeld
   go_simp
 simp only [Act.put,sIB,sCZ,sCS]
 refine wpAnyH_take (i:=8) (oi:=⟨some 15,_,_,_,_,_⟩) (v:=.agg #[.int .u32 t.c.id,.int .u32 t.c.sg,.int .u8 t.c.st,.bool t.c.cp,.bool t.c.dd,.slice t.p t.n t.m,.int .i64 t.c.fs,.int .i64 t.c.sz]) rfl (by kernel_rfl) (by kernel_rfl) (by kernel_rfl) (fun _ _ _ h=>h) (Or.inl ⟨by rfl,fun w' hw'=>?_⟩) (by assumption) ?_
 · clear hHeld
   go_simp
 simp only [Act.put,sIB,sCZ,sCS]
 refine wpAnyH_take (i:=9) (oi:=⟨some 16,_,_,_,_,_⟩) (v:=.bool q) rfl (by kernel_rfl) (by kernel_rfl) (by kernel_rfl) (fun _ _ _ h=>h) (Or.inl ⟨by rfl,fun w' hw'=>?_⟩) (by assumption) ?_
 · clear hHeld
   go_simp
 simp only [Act.put,sIB,sCZ,sCS]
 refine wpAnyH_ready (rs:=[10]) (by kernel_rfl) (by simp) (AllReadyH.cons rfl (fun K hK=>?_) (AllReadyH.nil))
 have hal:Below V1.heap.size V1 (V1.alloc (.cells #[.int .u32 0,.int .u32 0,.int .u8 0,.bool false,.bool false,.slice none 0 0,.int .i64 0,.int .i64 0] 46)):=(Below.refl _ _).alloc (Nat.le_refl _) _
 have hSN:Hid (JgX (V1.alloc (.cells #[.int .u32 0,.int .u32 0,.int .u8 0,.bool false,.bool false,.slice none 0 0,.int .i64 0,.int .i64 0] 46)) B mb H Q∧RB (V1.alloc (.cells #[.int .u32 0,.int .u32 0,.int .u8 0,.bool false,.bool false,.slice none 0 0,.int .i64 0,.int .i64 0] 46)) Y r):=hid ⟨hHeld.out.1.later hal,hHeld.out.2.later hal⟩
 have HTZ:=hid (z0c V1 (.cells #[.int .u32 0,.int .u32 0,.int .u8 0,.bool false,.bool false,.slice none 0 0,.int .i64 0,.int .i64 0] 46))
 have HB2:=hid (HB1.out.trans (hal.mono HB1.out.size))
 have HTW:=hid HB1.out.size
 have HTJ:Hid (∀ j,Q j→j≠V1.heap.size):=hid fun j hj=>by have:=hHeld.out.1.lt j hj;omega
 have HTY:Hid (Y≠V1.heap.size):=hid (by have:=z0g hHeld.out.2;omega)
 clear hal
 go_simp
 go_wp2_with fail
 refine hK.out _ _ hSN (fun hHeld2=>?_)
 try simp only [Act.put,sIB,sCZ,sCS]
 clear hSN hK K hHeld
 have hHeld:=hHeld2
 clear hHeld2
 generalize V1.alloc (.cells #[.int .u32 0,.int .u32 0,.int .u8 0,.bool false,.bool false,.slice none 0 0,.int .i64 0,.int .i64 0] 46)=V2 at *
 generalize V1.heap.size=T at *
 refine wpAnyH_ready (rs:=[11]) (by kernel_rfl) (by simp) (AllReadyH.cons rfl (fun K hK=>?_) (AllReadyH.nil))
 obtain⟨z0,z1,z2,z3,z4,z5,z6,z7⟩:=z0i HTZ.out
 obtain⟨f0,f1,f2,f3,f4,f5,f6,f7⟩:=z5j HTZ.out
 have HT3:=hid (z3q (a':=.int .u32 t.c.id) (b':=.int .u32 t.c.sg) (c':=.int .u8 t.c.st) (d':=.bool t.c.cp) (e':=.bool t.c.dd) (f':=.slice t.p t.n t.m) (g':=.int .i64 t.c.fs) (h':=.int .i64 t.c.sz) HTZ.out)
 have hch:=tchg V2 T (.int .u32 t.c.id) (.int .u32 t.c.sg) (.int .u8 t.c.st) (.bool t.c.cp) (.bool t.c.dd) (.slice t.p t.n t.m) (.int .i64 t.c.fs) (.int .i64 t.c.sz)
 have htt:Turn (fun k=>k=T) V2 ((((((((V2.setCell ⟨T,0,none⟩ (.int .u32 t.c.id)).setCell ⟨T,1,none⟩ (.int .u32 t.c.sg)).setCell ⟨T,2,none⟩ (.int .u8 t.c.st)).setCell ⟨T,3,none⟩ (.bool t.c.cp)).setCell ⟨T,4,none⟩ (.bool t.c.dd)).setCell ⟨T,5,none⟩ (.slice t.p t.n t.m)).setCell ⟨T,6,none⟩ (.int .i64 t.c.fs)).setCell ⟨T,7,none⟩ (.int .i64 t.c.sz)):=⟨hch.os,hch.tape,hch.output,hch.size,hch.block⟩
 have hSN:Hid (JgX ((((((((V2.setCell ⟨T,0,none⟩ (.int .u32 t.c.id)).setCell ⟨T,1,none⟩ (.int .u32 t.c.sg)).setCell ⟨T,2,none⟩ (.int .u8 t.c.st)).setCell ⟨T,3,none⟩ (.bool t.c.cp)).setCell ⟨T,4,none⟩ (.bool t.c.dd)).setCell ⟨T,5,none⟩ (.slice t.p t.n t.m)).setCell ⟨T,6,none⟩ (.int .i64 t.c.fs)).setCell ⟨T,7,none⟩ (.int .i64 t.c.sz)) B mb H Q∧RB ((((((((V2.setCell ⟨T,0,none⟩ (.int .u32 t.c.id)).setCell ⟨T,1,none⟩ (.int .u32 t.c.sg)).setCell ⟨T,2,none⟩ (.int .u8 t.c.st)).setCell ⟨T,3,none⟩ (.bool t.c.cp)).setCell ⟨T,4,none⟩ (.bool t.c.dd)).setCell ⟨T,5,none⟩ (.slice t.p t.n t.m)).setCell ⟨T,6,none⟩ (.int .i64 t.c.fs)).setCell ⟨T,7,none⟩ (.int .i64 t.c.sz)) Y r):=hid ⟨hHeld.out.1.keep htt (fun j hj e=>HTJ.out j hj e),(hch.block Y (z0g hHeld.out.2) HTY.out).trans hHeld.out.2⟩
 have HB3:=hid (q1x HB2.out HTW.out (.int .u32 t.c.id) (.int .u32 t.c.sg) (.int .u8 t.c.st) (.bool t.c.cp) (.bool t.c.dd) (.slice t.p t.n t.m) (.int .i64 t.c.fs) (.int .i64 t.c.sz))
 clear hch htt
 go_simp
 go_wp2_with fail
 refine hK.out _ _ hSN (fun hHeld2=>?_)
 try simp only [Act.put,sIB,sCZ,sCS]
 clear hSN hK K hHeld
 have hHeld:=hHeld2
 clear hHeld2
 clear z0 z1 z2 z3 z4 z5 z6 z7 f0 f1 f2 f3 f4 f5 f6 f7
 refine wpAnyH_take (i:=12) (oi:=⟨some 6,_,_,_,_,_⟩) (v:=.bool q) rfl (by kernel_rfl) (by kernel_rfl) (by kernel_rfl) (fun _ _ _ h=>h) (Or.inl ⟨by rfl,fun w' hw'=>?_⟩) (by assumption) ?_
 · clear hHeld
   go_simp
 simp only [Act.put,sIB,sCZ,sCS]
 refine wpAnyH_done (by kernel_rfl) ?_ _
 have HY3:=hid hHeld.out.2
 clear hHeld HTZ HB2 HB1
 generalize ((((((((V2.setCell ⟨T,0,none⟩ (.int .u32 t.c.id)).setCell ⟨T,1,none⟩ (.int .u32 t.c.sg)).setCell ⟨T,2,none⟩ (.int .u8 t.c.st)).setCell ⟨T,3,none⟩ (.bool t.c.cp)).setCell ⟨T,4,none⟩ (.bool t.c.dd)).setCell ⟨T,5,none⟩ (.slice t.p t.n t.m)).setCell ⟨T,6,none⟩ (.int .i64 t.c.fs)).setCell ⟨T,7,none⟩ (.int .i64 t.c.sz))=V3 at *
 cases g with
 | none =>
  obtain rfl:q=false:=HQG.out.symm
  have HAP:Hid (appC M at_ (r.x [] [] [])=(M,10)):=hid (appC_n M _ HG.out HK.out (jget_cn HM.out HGT.out))
  go_wp2_with fail
  go_ret
  exact⟨by rw [HAP.out];rfl,by rw [HAP.out];exact ActX.stay HJ0.out HM.out HB3.out⟩
 | some t0 =>
  obtain rfl:t0=t:=HTG.out
  obtain rfl:q=true:=HQG.out.symm
  have HMEM:=hid (z5g HGT.out)
  have HAP:=hid (app_fit (at_:=at_) HG.out HK.out (jget_cm HM.out HGT.out))
  have hc:=List.mem_map_of_mem (f:=(·.c)) HMEM.out.1
  rw [HM.out] at hc
  have HTO:=hid (HOK.out.ok _ hc)
  have hlen:=HOK.out.few _ hc
  have HTS:=hid (HOK.out.sz _ hc)
  have HTN:Hid (t0.n≤20):=hid (by rw [← (HJ0.out.own t0 HMEM.out.1).len];exact hlen)
  clear hc hlen
  obtain⟨fb,hfb⟩:∃ b,fitB t0.c r.k (r.ka,r.kb,r.kc) r.d=b:=⟨_,rfl⟩
  have HFB:=hid hfb
  have HFIT:=hid (jfits_any t0 r V3 ((HJ.out V3 HB3.out).own t0 HMEM.out.1).m HTO.out.dn (by have:=HTN.out;omega) HK.out)
  rw [hfb] at HFIT
  clear hfb
  have HT3':Hid (V3.heap[T]?=some (.cells #[.int .u32 t0.c.id,.int .u32 t0.c.sg,.int .u8 t0.c.st,.bool t0.c.cp,.bool t0.c.dd,.slice t0.p t0.n t0.m,.int .i64 t0.c.fs,.int .i64 t0.c.sz] 46 (0,0))):=HT3
  obtain⟨x0,x1,x2,x3,x4,x5,x6,x7⟩:=z0i HT3'.out
  go_wp2_with ((with_reducible refine z0j HY3.out ?_ ?_);rfl)
  clear x0 x1 x2 x3 x4 x5 x6 x7
  refine HFIT.out.mono ?_
  rintro e5 w5 ⟨rfl,hb5⟩
  have HB5:=hid (HB3.out.trans (hb5.mono HB3.out.size))
  have HY5:=hid (HY3.out.later hb5)
  have HT5:=hid (z0b HT3'.out hb5)
  clear hb5 HFIT HY3 HT3 HT3'
  cases fb with
  | false =>
   have HAF:Hid (appC M at_ (r.x [] [] [])=(M,12)):=hid (by rw [HAP.out];exact if_neg (by rw [show fitB t0.c (r.x [] [] []).k (r.x [] [] []).key (r.x [] [] []).d=false from HFB.out];decide))
   go_wp2_with fail
   go_ret
   exact⟨by rw [HAF.out];rfl,by rw [HAF.out];exact ActX.stay HJ0.out HM.out HB5.out⟩
  | true =>
   have HAF:Hid (appC M at_ (r.x [] [] [])=(if r.k=4∨r.k=7 then (z1v Tc.id M r.tx,0) else (z1x Tc.id M (aftC t0.c r.k (r.ka,r.kb,r.kc) r.d (z1e (r.x [] [] []))),0))):=hid (by rw [HAP.out];exact if_pos HFB.out)
   clear HAP
   have hy0:=z0a (j:=0) HY5.out (v:=.int .u8 r.k) rfl
   have hkk:r.k=3∨r.k=4∨r.k=5∨r.k=6∨r.k=7:=by have:=HK.out;omega
   rcases hkk with hk | hk | hk | hk | hk
   · have HAD:Hid (appC M at_ (r.x [] [] [])=(z1x Tc.id M (aftC t0.c 3 (r.ka,r.kb,r.kc) r.d (z1e (r.x [] [] []))),0)):=hid (by rw [HAF.out,if_neg (by omega),hk])
     have HSZ:=hid (z8i HG.out)
     have HAFT:=hid (after_3 t0 r w5 (HW.out w5 HB5.out) ((HJ.out w5 HB5.out).own t0 HMEM.out.1) (by have:=HTN.out;omega) hk (z6m HP.out w5) HR.out (z1e (r.x [] [] [])) rfl ⟨HTS.out.1,HSZ.out.1,by have h1:=HTS.out.2;have h2:=HSZ.out.2;omega⟩ (fun e=>by omega))
     generalize z1e (r.x [] [] [])=s at *
     rw [hk] at hy0
     clear HAF hk
     obtain⟨x0,x1,x2,x3,x4,x5,x6,x7⟩:=z0i HT5.out
     go_wp2_with ((with_reducible refine z0j HY5.out ?_ ?_);rfl)
     clear x0 x1 x2 x3 x4 x5 x6 x7 hy0
     refine HAFT.out.mono ?_
     rintro e6 w6 ⟨p6,n6,m6,rfl,hown6,htn6,hblk6⟩
     have HID:Hid ((aftC t0.c 3 (r.ka,r.kb,r.kc) r.d s).id=t0.c.id):=hid rfl
     have HTN6:=hid htn6
     have HBL6:=hid hblk6
     have hj5:=HJ.out w5 HB5.out
     have hy6:=(hj5.y t0.c.id).keep htn6 (fun e=>(hj5.nm (hj5.own t0 HMEM.out.1) e).2 rfl) (fun b hb e=>(hj5.nm (hj5.own t0 HMEM.out.1) e).1 hb) (fun u hu hi g hg e=>hj5.apart t0 HMEM.out.1 u hu (fun e'=>hi e'.symm) g e hg)
     have HPUT:=hid (z7i (⟨aftC t0.c 3 (r.ka,r.kb,r.kc) r.d s,p6,n6,m6⟩:Tv) HTO.out.id w6 B mb H Q hy6 (by have h1:=HOK.out.len;rw [← HM.out,List.length_map] at h1;omega) hown6 (fun g hg u hu hi e=>by
      rcases hblk6 g hg with h1 | h1
      · exact hj5.apart t0 HMEM.out.1 u hu (fun e'=>hi e'.symm) g h1 e
      · have h2:=(hj5.own u hu).lt e
        omega))
     have HBW:Hid (∀ g,(⟨aftC t0.c 3 (r.ka,r.kb,r.kc) r.d s,p6,n6,m6⟩:Tv).blk=some g→Q g∨W.heap.size≤g):=hid fun g hg=>by
      rcases hblk6 g hg with h1 | h1
      · exact .inl (HJ0.out.qr t0 HMEM.out.1 g h1)
      · exact .inr (Nat.le_trans HB5.out.size h1)
     have HTT:Hid (Turn Q W w6):=hid ((Turn.of_below HB5.out).trans htn6 fun k _ e=>HJ0.out.qr t0 HMEM.out.1 k e)
     clear hown6 htn6 hblk6 hj5 hy6 HAFT
     generalize aftC t0.c 3 (r.ka,r.kb,r.kc) r.d s=c6 at *
     go_wp2_with fail
     refine HPUT.out.mono ?_
     rintro e7 w7 ⟨rfl,hput⟩
     have HACT:=hid (ActX.put (t:=⟨c6,p6,n6,m6⟩) HJ0.out HM.out HTT.out hput HBW.out)
     clear hput HPUT
     go_wp2_with fail
     go_ret
     exact⟨by rw [HAD.out];rfl,by rw [HAD.out];exact HACT.out⟩
   · have HAD:Hid (appC M at_ (r.x [] [] [])=(z1v Tc.id M r.tx,0)):=hid (by rw [HAF.out,if_pos (by omega)])
     rw [hk] at hy0
     clear HAF hk
     cases mb with
     | none =>
      have h1:=HJ0.out.none_ rfl
      have h2:=HMEM.out.1
      rw [h1] at h2
      cases h2
     | some b =>
      have hj5:=HJ.out w5 HB5.out
      obtain⟨D,hown,hT⟩:=hj5.some_ b rfl
      have HOW:=hid hown
      have HT:=hid hT
      have HJ5:=hid hj5
      clear hown hT hj5
      have c0:=z0a (j:=0) HJ5.out.b (v:=.map (some b)) rfl
      have y2:=z0a (j:=2) HY5.out (v:=.int .u32 r.tx) rfl
      go_wp2_with fail
      go_still_tail 6,(by kernel_rfl)
      repeat still_step
      change wpList _ _ _ _ _ w5.drew
      refine wpList_delete_own _ rfl _ _ _ _ rfl _ q0t Tryz.underlying91 z5k b H.length D rfl HOW.out.drew _ (kU r.tx) rfl (z6c (z9k HTX.out)) fun w6 r1 r2=>?_
      have htn:Turn (fun k=>k=b) w5 w6:=(Turn.of_grown (S:=fun k=>k=b) r2.grown fun k e=>by cases e;rfl).drewl
      have HACT:Hid (ActX W B Q (z1v Tc.id M r.tx) w6):=hid ⟨some b,_,Q,HJ5.out.struck htn r1 (HT.out.del HJ0.out.up (by rw [HGT.out];rfl)),by rw [z7f (ix:=Tv.id) (jx:=Tc.id) (f:=(·.c)) (fun _=>rfl),HM.out],fun j hj=>.inl hj,(Turn.of_below HB5.out).trans htn fun k _ e=>by rw [e];exact HJ0.out.qm b rfl⟩
      clear r1 r2 htn c0 y2 hy0
      go_wp2_with fail
      go_ret
      exact⟨by rw [HAD.out];rfl,by rw [HAD.out];exact HACT.out⟩
   · have HAD:Hid (appC M at_ (r.x [] [] [])=(z1x Tc.id M (aftC t0.c 5 (r.ka,r.kb,r.kc) r.d (z1e (r.x [] [] []))),0)):=hid (by rw [HAF.out,if_neg (by omega),hk])
     have HSZ:=hid (z8i HG.out)
     have HAFT:=hid (after_5 t0 r w5 (HW.out w5 HB5.out) ((HJ.out w5 HB5.out).own t0 HMEM.out.1) (by have:=HTN.out;omega) hk (z6m HP.out w5) HR.out (z1e (r.x [] [] [])) rfl ⟨HTS.out.1,HSZ.out.1,by have h1:=HTS.out.2;have h2:=HSZ.out.2;omega⟩ (fun e=>by omega))
     generalize z1e (r.x [] [] [])=s at *
     rw [hk] at hy0
     clear HAF hk
     obtain⟨x0,x1,x2,x3,x4,x5,x6,x7⟩:=z0i HT5.out
     go_wp2_with ((with_reducible refine z0j HY5.out ?_ ?_);rfl)
     clear x0 x1 x2 x3 x4 x5 x6 x7 hy0
     refine HAFT.out.mono ?_
     rintro e6 w6 ⟨p6,n6,m6,rfl,hown6,htn6,hblk6⟩
     have HID:Hid ((aftC t0.c 5 (r.ka,r.kb,r.kc) r.d s).id=t0.c.id):=hid rfl
     have HTN6:=hid htn6
     have HBL6:=hid hblk6
     have hj5:=HJ.out w5 HB5.out
     have hy6:=(hj5.y t0.c.id).keep htn6 (fun e=>(hj5.nm (hj5.own t0 HMEM.out.1) e).2 rfl) (fun b hb e=>(hj5.nm (hj5.own t0 HMEM.out.1) e).1 hb) (fun u hu hi g hg e=>hj5.apart t0 HMEM.out.1 u hu (fun e'=>hi e'.symm) g e hg)
     have HPUT:=hid (z7i (⟨aftC t0.c 5 (r.ka,r.kb,r.kc) r.d s,p6,n6,m6⟩:Tv) HTO.out.id w6 B mb H Q hy6 (by have h1:=HOK.out.len;rw [← HM.out,List.length_map] at h1;omega) hown6 (fun g hg u hu hi e=>by
      rcases hblk6 g hg with h1 | h1
      · exact hj5.apart t0 HMEM.out.1 u hu (fun e'=>hi e'.symm) g h1 e
      · have h2:=(hj5.own u hu).lt e
        omega))
     have HBW:Hid (∀ g,(⟨aftC t0.c 5 (r.ka,r.kb,r.kc) r.d s,p6,n6,m6⟩:Tv).blk=some g→Q g∨W.heap.size≤g):=hid fun g hg=>by
      rcases hblk6 g hg with h1 | h1
      · exact .inl (HJ0.out.qr t0 HMEM.out.1 g h1)
      · exact .inr (Nat.le_trans HB5.out.size h1)
     have HTT:Hid (Turn Q W w6):=hid ((Turn.of_below HB5.out).trans htn6 fun k _ e=>HJ0.out.qr t0 HMEM.out.1 k e)
     clear hown6 htn6 hblk6 hj5 hy6 HAFT
     generalize aftC t0.c 5 (r.ka,r.kb,r.kc) r.d s=c6 at *
     go_wp2_with fail
     refine HPUT.out.mono ?_
     rintro e7 w7 ⟨rfl,hput⟩
     have HACT:=hid (ActX.put (t:=⟨c6,p6,n6,m6⟩) HJ0.out HM.out HTT.out hput HBW.out)
     clear hput HPUT
     go_wp2_with fail
     go_ret
     exact⟨by rw [HAD.out];rfl,by rw [HAD.out];exact HACT.out⟩
   · have HAD:Hid (appC M at_ (r.x [] [] [])=(z1x Tc.id M (aftC t0.c 6 (r.ka,r.kb,r.kc) r.d (z1e (r.x [] [] []))),0)):=hid (by rw [HAF.out,if_neg (by omega),hk])
     have HSZ:=hid (z8i HG.out)
     have HAFT:=hid (after_6 t0 r w5 (HW.out w5 HB5.out) ((HJ.out w5 HB5.out).own t0 HMEM.out.1) (by have:=HTN.out;omega) hk (z6m HP.out w5) HR.out (z1e (r.x [] [] [])) rfl ⟨HTS.out.1,HSZ.out.1,by have h1:=HTS.out.2;have h2:=HSZ.out.2;omega⟩ (fun e=>fit_pos HFB.out hk (HJ0.out.own t0 HMEM.out.1).len))
     generalize z1e (r.x [] [] [])=s at *
     rw [hk] at hy0
     clear HAF hk
     obtain⟨x0,x1,x2,x3,x4,x5,x6,x7⟩:=z0i HT5.out
     go_wp2_with ((with_reducible refine z0j HY5.out ?_ ?_);rfl)
     clear x0 x1 x2 x3 x4 x5 x6 x7 hy0
     refine HAFT.out.mono ?_
     rintro e6 w6 ⟨p6,n6,m6,rfl,hown6,htn6,hblk6⟩
     have HID:Hid ((aftC t0.c 6 (r.ka,r.kb,r.kc) r.d s).id=t0.c.id):=hid rfl
     have HTN6:=hid htn6
     have HBL6:=hid hblk6
     have hj5:=HJ.out w5 HB5.out
     have hy6:=(hj5.y t0.c.id).keep htn6 (fun e=>(hj5.nm (hj5.own t0 HMEM.out.1) e).2 rfl) (fun b hb e=>(hj5.nm (hj5.own t0 HMEM.out.1) e).1 hb) (fun u hu hi g hg e=>hj5.apart t0 HMEM.out.1 u hu (fun e'=>hi e'.symm) g e hg)
     have HPUT:=hid (z7i (⟨aftC t0.c 6 (r.ka,r.kb,r.kc) r.d s,p6,n6,m6⟩:Tv) HTO.out.id w6 B mb H Q hy6 (by have h1:=HOK.out.len;rw [← HM.out,List.length_map] at h1;omega) hown6 (fun g hg u hu hi e=>by
      rcases hblk6 g hg with h1 | h1
      · exact hj5.apart t0 HMEM.out.1 u hu (fun e'=>hi e'.symm) g h1 e
      · have h2:=(hj5.own u hu).lt e
        omega))
     have HBW:Hid (∀ g,(⟨aftC t0.c 6 (r.ka,r.kb,r.kc) r.d s,p6,n6,m6⟩:Tv).blk=some g→Q g∨W.heap.size≤g):=hid fun g hg=>by
      rcases hblk6 g hg with h1 | h1
      · exact .inl (HJ0.out.qr t0 HMEM.out.1 g h1)
      · exact .inr (Nat.le_trans HB5.out.size h1)
     have HTT:Hid (Turn Q W w6):=hid ((Turn.of_below HB5.out).trans htn6 fun k _ e=>HJ0.out.qr t0 HMEM.out.1 k e)
     clear hown6 htn6 hblk6 hj5 hy6 HAFT
     generalize aftC t0.c 6 (r.ka,r.kb,r.kc) r.d s=c6 at *
     go_wp2_with fail
     refine HPUT.out.mono ?_
     rintro e7 w7 ⟨rfl,hput⟩
     have HACT:=hid (ActX.put (t:=⟨c6,p6,n6,m6⟩) HJ0.out HM.out HTT.out hput HBW.out)
     clear hput HPUT
     go_wp2_with fail
     go_ret
     exact⟨by rw [HAD.out];rfl,by rw [HAD.out];exact HACT.out⟩
   · have HAD:Hid (appC M at_ (r.x [] [] [])=(z1v Tc.id M r.tx,0)):=hid (by rw [HAF.out,if_pos (by omega)])
     rw [hk] at hy0
     clear HAF hk
     cases mb with
     | none =>
      have h1:=HJ0.out.none_ rfl
      have h2:=HMEM.out.1
      rw [h1] at h2
      cases h2
     | some b =>
      have hj5:=HJ.out w5 HB5.out
      obtain⟨D,hown,hT⟩:=hj5.some_ b rfl
      have HOW:=hid hown
      have HT:=hid hT
      have HJ5:=hid hj5
      clear hown hT hj5
      have c0:=z0a (j:=0) HJ5.out.b (v:=.map (some b)) rfl
      have y2:=z0a (j:=2) HY5.out (v:=.int .u32 r.tx) rfl
      go_wp2_with fail
      go_still_tail 6,(by kernel_rfl)
      repeat still_step
      change wpList _ _ _ _ _ w5.drew
      refine wpList_delete_own _ rfl _ _ _ _ rfl _ q0t Tryz.underlying91 z5k b H.length D rfl HOW.out.drew _ (kU r.tx) rfl (z6c (z9k HTX.out)) fun w6 r1 r2=>?_
      have htn:Turn (fun k=>k=b) w5 w6:=(Turn.of_grown (S:=fun k=>k=b) r2.grown fun k e=>by cases e;rfl).drewl
      have HACT:Hid (ActX W B Q (z1v Tc.id M r.tx) w6):=hid ⟨some b,_,Q,HJ5.out.struck htn r1 (HT.out.del HJ0.out.up (by rw [HGT.out];rfl)),by rw [z7f (ix:=Tv.id) (jx:=Tc.id) (f:=(·.c)) (fun _=>rfl),HM.out],fun j hj=>.inl hj,(Turn.of_below HB5.out).trans htn fun k _ e=>by rw [e];exact HJ0.out.qm b rfl⟩
      clear r1 r2 htn c0 y2 hy0
      go_wp2_with fail
      go_ret
      exact⟨by rw [HAD.out];rfl,by rw [HAD.out];exact HACT.out⟩
theorem jget_s {H:List Tv} {M:List Tc} (h:H.map (·.c)=M) (i:Int):(getT Tc.sg M i).isSome=(getT Tv.sg H i).isSome:=by
 have h1:=z6b (ix:=Tv.sg) (jx:=Tc.sg) (f:=(·.c)) (fun _=>rfl) i H
 rw [h] at h1
 rw [← h1]
 cases getT Tv.sg H i <;> rfl
theorem q0n (M:List Tc) (at_:Int) (X:Rx) (h:z1j X=false∨X.k<2∨7<X.k):appC M at_ X=(M,1):=if_pos h
set_option maxRecDepth 100000 in
theorem japply_any (W:World) (B:Nat) (M:List Tc) (Q:Nat→Prop) (at_:Int) (r:Rv) (La:List Ln) (Ta:List Tk) (Ma:List Ln) (hw:Words W) (hj:Jg W B M Q) (hM:JOk M) (ha:In64 at_) (hP:RvM W r La Ta Ma) (hok:Rxok (r.x La Ta Ma)) (hs:SmV r) :
 Calls Tryz.prog 32 #[.pointer (some ⟨B,0,none⟩),.int .i64 at_,.agg (rcs r)] W fun e w'=>e=.returned (.int .i64 (appC M at_ (r.x La Ta Ma)).2)∧JActed Jg W w' B (appC M at_ (r.x La Ta Ma)).1 Q:=by
 obtain⟨mb,H,hx,hm⟩:=hj
 have hb0:Below W.heap.size W (W.alloc (.cells (rcs r) 42)):=(Below.refl _ _).alloc (Nat.le_refl _) _
 have HB0:=hid hb0
 have HY:Hid (RB _ W.heap.size r):=hid (RB.new W r)
 have HJ:=hid hx
 have HM:=hid hm
 have HOK:=hid hM
 have HW:=hid fun w' (hb:Below W.heap.size W w')=>hw.later hb
 have HGD:=hid fun w' (hb:Below W.heap.size W w')=>z8j r La Ta Ma w' (hw.later hb) (hP.later hb) hok ⟨by have:=hs.1;omega,by have:=hs.2.1;omega,by have:=hs.2.2;omega⟩
 have HP:=hid hP
 have HR:=hid hok
 have HA:=hid ha
 obtain⟨gd,hgd⟩:∃ g,z1j (r.x La Ta Ma)=g:=⟨_,rfl⟩
 have HG:=hid hgd
 rw [hgd] at HGD
 obtain⟨Y,hYE⟩:∃ Y,W.heap.size=Y:=⟨_,rfl⟩
 rw [hYE] at HY
 have HYW:=hid hYE
 clear hb0 hx hm hM hw hP hok ha hs hgd
 go_enter Tryz.func32,Tryz.ntmps32
 go_upto_region 1 with (fail)
 clear hYE
 generalize W.alloc (.cells (rcs r) 42)=V0 at *
 go_wp2_with ((with_reducible refine z0w HY.out ?_ ?_ ?_);rfl;rfl)
 refine (HGD.out _ HB0.out).mono ?_
 rintro e1 w1 ⟨rfl,hb1⟩
 have HB1:=hid (HB0.out.trans (hb1.mono HB0.out.size))
 have HY2:=hid (HY.out.later hb1)
 clear hb1 HGD HY
 cases gd with
 | false =>
  have HAP:=hid (q0n M at_ _ (.inl HG.out))
  go_wp2_with fail
  go_ret
  exact⟨by rw [HAP.out];rfl,by rw [HAP.out];exact (ActX.stay HJ.out HM.out HB1.out).act⟩
 | true =>
  have hkk:r.k=1∨r.k=2∨r.k=3∨r.k=4∨r.k=5∨r.k=6∨r.k=7∨r.k=8∨r.k=9:=z7h (z7k HG.out)
  have hy0:=z0a (j:=0) HY2.out (v:=.int .u8 r.k) rfl
  rcases hkk with hk | hk | hk | hk | hk | hk | hk | hk | hk
  · have HAP:=hid (q0n M at_ (r.x La Ta Ma) (.inr (by rw [show (r.x La Ta Ma).k=r.k from rfl,hk];omega)))
    rw [hk] at hy0
    clear hk
    go_wp2_with fail
    go_ret
    exact⟨by rw [HAP.out];rfl,by rw [HAP.out];exact (ActX.stay HJ.out HM.out HB1.out).act⟩
  · obtain⟨rfl,rfl,rfl⟩:=z8a HG.out (by omega)
    have HIDS:Hid (∀ t∈H,Uok t.c.id):=hid fun t ht=>(HOK.out.ok t.c (by rw [← HM.out];exact List.mem_map_of_mem ht)).id
    have HFEW:Hid (∀ t∈H,t.n≤100):=hid fun t ht=>by
     have h1:=HOK.out.few t.c (by rw [← HM.out];exact List.mem_map_of_mem ht)
     have h2:=(HJ.out.own t ht).len
     omega
    have hb:=begin_any w1 B mb H Q M at_ r (HJ.out.later HB1.out) HM.out HIDS.out HFEW.out (by have h1:=HOK.out.len;rw [← HM.out,List.length_map] at h1;omega) (HW.out _ HB1.out) (HP.out.later HB1.out) HR.out
    have hap:=z9o (at_:=at_) M (r.x [] [] []) HG.out hk
    rw [(jget_c HM.out (r.x [] [] []).tx).2,jget_s HM.out (r.x [] [] []).sg] at hap
    by_cases hc:(getT Tv.id H r.tx).isSome=true∨(getT Tv.sg H r.sg).isSome=true
    · have hap2:=hap.trans (if_pos hc)
      simp only [if_pos hc] at hb
      have HAP:=hid hap2
      have HBG:=hid hb
      clear hb hap hap2 hc
      rw [hk] at hy0
      clear hk
      go_wp2_with ((with_reducible refine z0j HY2.out ?_ ?_);rfl)
      refine HBG.out.mono ?_
      rintro e3 w3 ⟨rfl,hact⟩
      have HACT:=hid (JActed.ahead HB1.out hact.act)
      clear hact HBG
      go_wp2_with fail
      go_ret
      exact⟨by rw [HAP.out];rfl,by rw [HAP.out];exact HACT.out⟩
    · have hap2:=hap.trans (if_neg hc)
      simp only [if_neg hc] at hb
      have HAP:=hid hap2
      have HBG:=hid hb
      clear hb hap hap2 hc
      rw [hk] at hy0
      clear hk
      go_wp2_with ((with_reducible refine z0j HY2.out ?_ ?_);rfl)
      refine HBG.out.mono ?_
      rintro e3 w3 ⟨rfl,hact⟩
      have HACT:=hid (JActed.ahead HB1.out hact.act)
      clear hact HBG
      go_wp2_with fail
      go_ret
      exact⟨by rw [HAP.out];rfl,by rw [HAP.out];exact HACT.out⟩
  · obtain⟨rfl,rfl,rfl⟩:=z8a HG.out (by omega)
    have HCG:=hid (z4x w1 B mb H Q M at_ r (HJ.out.later HB1.out) HM.out HOK.out (HW.out _ HB1.out) (HP.out.later HB1.out) HR.out HG.out (by omega))
    rw [hk] at hy0
    clear hk
    go_wp2_with ((with_reducible refine z0j HY2.out ?_ ?_);rfl)
    refine HCG.out.mono ?_
    rintro e3 w3 ⟨rfl,hact⟩
    have HACT:=hid (JActed.ahead HB1.out hact.act)
    clear hact HCG
    go_wp2_with fail
    go_ret
    exact⟨rfl,HACT.out⟩
  · obtain⟨rfl,rfl,rfl⟩:=z8a HG.out (by omega)
    have HCG:=hid (z4x w1 B mb H Q M at_ r (HJ.out.later HB1.out) HM.out HOK.out (HW.out _ HB1.out) (HP.out.later HB1.out) HR.out HG.out (by omega))
    rw [hk] at hy0
    clear hk
    go_wp2_with ((with_reducible refine z0j HY2.out ?_ ?_);rfl)
    refine HCG.out.mono ?_
    rintro e3 w3 ⟨rfl,hact⟩
    have HACT:=hid (JActed.ahead HB1.out hact.act)
    clear hact HCG
    go_wp2_with fail
    go_ret
    exact⟨rfl,HACT.out⟩
  · obtain⟨rfl,rfl,rfl⟩:=z8a HG.out (by omega)
    have HCG:=hid (z4x w1 B mb H Q M at_ r (HJ.out.later HB1.out) HM.out HOK.out (HW.out _ HB1.out) (HP.out.later HB1.out) HR.out HG.out (by omega))
    rw [hk] at hy0
    clear hk
    go_wp2_with ((with_reducible refine z0j HY2.out ?_ ?_);rfl)
    refine HCG.out.mono ?_
    rintro e3 w3 ⟨rfl,hact⟩
    have HACT:=hid (JActed.ahead HB1.out hact.act)
    clear hact HCG
    go_wp2_with fail
    go_ret
    exact⟨rfl,HACT.out⟩
  · obtain⟨rfl,rfl,rfl⟩:=z8a HG.out (by omega)
    have HCG:=hid (z4x w1 B mb H Q M at_ r (HJ.out.later HB1.out) HM.out HOK.out (HW.out _ HB1.out) (HP.out.later HB1.out) HR.out HG.out (by omega))
    rw [hk] at hy0
    clear hk
    go_wp2_with ((with_reducible refine z0j HY2.out ?_ ?_);rfl)
    refine HCG.out.mono ?_
    rintro e3 w3 ⟨rfl,hact⟩
    have HACT:=hid (JActed.ahead HB1.out hact.act)
    clear hact HCG
    go_wp2_with fail
    go_ret
    exact⟨rfl,HACT.out⟩
  · obtain⟨rfl,rfl,rfl⟩:=z8a HG.out (by omega)
    have HCG:=hid (z4x w1 B mb H Q M at_ r (HJ.out.later HB1.out) HM.out HOK.out (HW.out _ HB1.out) (HP.out.later HB1.out) HR.out HG.out (by omega))
    rw [hk] at hy0
    clear hk
    go_wp2_with ((with_reducible refine z0j HY2.out ?_ ?_);rfl)
    refine HCG.out.mono ?_
    rintro e3 w3 ⟨rfl,hact⟩
    have HACT:=hid (JActed.ahead HB1.out hact.act)
    clear hact HCG
    go_wp2_with fail
    go_ret
    exact⟨rfl,HACT.out⟩
  · have HAP:=hid (q0n M at_ (r.x La Ta Ma) (.inr (by rw [show (r.x La Ta Ma).k=r.k from rfl,hk];omega)))
    rw [hk] at hy0
    clear hk
    go_wp2_with fail
    go_ret
    exact⟨by rw [HAP.out];rfl,by rw [HAP.out];exact (ActX.stay HJ.out HM.out HB1.out).act⟩
  · have HAP:=hid (q0n M at_ (r.x La Ta Ma) (.inr (by rw [show (r.x La Ta Ma).k=r.k from rfl,hk];omega)))
    rw [hk] at hy0
    clear hk
    go_wp2_with fail
    go_ret
    exact⟨by rw [HAP.out];rfl,by rw [HAP.out];exact (ActX.stay HJ.out HM.out HB1.out).act⟩
theorem jids {w:World} {B:Nat} {mb:Option Nat} {H:List Tv} {Q:Nat→Prop} {M:List Tc} (h:JgX w B mb H Q) (hm:H.map (·.c)=M) (hM:JOk M):(∀ t∈H,Uok t.c.id)∧(∀ t∈H,t.n≤20)∧H.length=M.length:=by
 refine⟨fun t ht=>(hM.ok t.c (by rw [← hm];exact List.mem_map_of_mem ht)).id,fun t ht=>?_,by rw [← hm,List.length_map]⟩
 have h1:=hM.few t.c (by rw [← hm];exact List.mem_map_of_mem ht)
 have h2:=(h.own t ht).len
 omega
theorem jget_sv {H:List Tv} {M:List Tc} (h:H.map (·.c)=M) (i:Int):(getT Tc.sg M i).getD tc0=((getT Tv.sg H i).getD tv0).c:=by
 have h1:=z6b (ix:=Tv.sg) (jx:=Tc.sg) (f:=(·.c)) (fun _=>rfl) i H
 rw [h] at h1
 rw [← h1]
 cases getT Tv.sg H i <;> rfl
theorem jn_f:JnF Words Jg where
 wd h hb:=h.later hb
 keep h hc hs:=h.keep hc hs
 lt h:=h.lt
 new p n c L w hl hn hf hiQ:=jnew_any p n c L w hl hn hf hiQ
 of_ w B M Q i h hM hi:=by
  obtain⟨mb,H,hx,hm⟩:=h
  obtain⟨h1,h2,h3⟩:=jids hx hm hM
  refine (jof_any w B mb H Q i hx h1 (fun t ht=>by have:=h2 t ht;omega)).mono ?_
  rintro e w' ⟨t,rfl,g1,g2,g3⟩
  exact⟨t,by rw [jget_s hm i],by rw [jget_sv hm i];exact g1,g2,g3⟩
 apply w B M Q at_ r La Ta Ma hw h hM ha hP hok hs:=japply_any w B M Q at_ r La Ta Ma hw h hM ha hP hok hs
end Go.Proofs.YtclbkfpbdidaiaaGreatDoor
