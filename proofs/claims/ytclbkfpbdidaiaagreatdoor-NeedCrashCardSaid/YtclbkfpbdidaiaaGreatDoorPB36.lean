import Derived.Test.YtclbkfpbdidaiaaGreatDoorPB99
import Derived.Test.YtclbkfpbdidaiaaGreatDoorPB35
import Derived.Test.YtclbkfpbdidaiaaGreatDoorPB29
import Derived.Test.YtclbkfpbdidaiaaGreatDoorPB40
namespace Go.Proofs.YtclbkfpbdidaiaaGreatDoor
open Go.Lib (hid)
set_option maxHeartbeats 16000000
open Go.RowKit Go.ChangeShapes Go.WideShapes
set_option linter.unusedVariables false
set_option linter.unusedSimpArgs false
set_option maxRecDepth 10000
theorem gives_no {W w:World} (hb:Below W.heap.size W w):z6l W [] (.returned (.slice none 0 0)) w:=⟨none,0,rfl,SlG.empty _,hb,fun _ h=>by cases h⟩
theorem givesO_since {W W2:World} {V:List O} {e:Ending} {w':World} (h:z6l W2 V e w') (hb:Below W.heap.size W W2):z6l W V e w':=GivesG.since h hb
theorem q1c {c:Crs} (hg:z2s c=true) (hok:Pgok c.P) (ht:(z2g c).2=true):∃ i:Nat,(z2g c).1=(i:Int)∧i<(z0h c.P).length∧stpC c=(z0h c.P).getD i stp0∧z3w (stpC c):=by
 obtain⟨_,g2,g3,g4,_⟩:=z2e hg
 have hi:0≤(z2g c).1∧(z2g c).1<((z0h c.P).length:Int):=by
  unfold z2g lenC at *
  split at ht
  · rename_i h
    simp only [if_pos h,decide_eq_true_eq] at ht ⊢
    omega
  · rename_i h
    simp only [if_neg h,decide_eq_true_eq] at ht ⊢
    omega
 have hlt:(z2g c).1.toNat<(z0h c.P).length:=by omega
 refine⟨(z2g c).1.toNat,by omega,hlt,rfl,(z1c g2 hok).2 _ ?_⟩
 unfold stpC
 rw [List.getD,List.getElem?_eq_getElem hlt]
 exact List.getElem_mem _
theorem cr_ops (c:Cv) (L:List Ln) (T:List Tk) (M:List Ln) (W:World) (hw:Words W) (hP:CvM W c L T M) (hok:Crok (c.x L T M)) (h1:c.p.ln≤400∧c.p.tn≤400∧c.p.wn≤400):Calls Tryz.prog 67 #[.agg (ccs c)] W (z6l W (opsC (c.x L T M))):=by
 obtain⟨W1,hW1,hx,hb1⟩:∃ W1,W.alloc (.cells (ccs c) 34)=W1∧CB W1 W.heap.size c∧Below W.heap.size W W1:=⟨_,rfl,CB.new W c,(Below.refl _ _).alloc (Nat.le_refl _) _⟩
 obtain⟨B,hB⟩:∃ B,W.heap.size=B:=⟨_,rfl⟩
 rw [hB] at hx
 have HX:=hid hx
 have HW1:=hid hW1
 have HB1:=hid hb1
 have HRE:=hid hB
 have hgd:=q0k c L T M W1 (hw.later hb1) (hP.later hb1) hok h1
 cases hg:z2s (c.x L T M) with
 | false =>
  rw [hg] at hgd
  have HE:Hid (opsC (c.x L T M)=[]):=hid (by unfold opsC;rw [if_pos (.inl hg)])
  clear hW1 hx hb1 hB hw hP hok h1 hg
  go_enter Tryz.func67,Tryz.ntmps67
  go_upto_region 1 with (fail)
  rw [HW1.out,HRE.out]
  go_wp2_with ((with_reducible refine z0f HX.out ?_ ?_);rfl)
  refine hgd.mono ?_
  rintro e w2 ⟨rfl,h2⟩
  have HB2:=hid (HB1.out.trans (h2.mono HB1.out.size))
  clear h2 hgd
  go_wp2_with fail
  go_ret
  rw [HE.out]
  exact gives_no HB2.out
 | true =>
  rw [hg] at hgd
  have HTU:=hid fun w' (hb:Below W1.heap.size W1 w')=>q2y c L T M w' (hw.later (hb1.trans (hb.mono hb1.size))) ((hP.later hb1).later hb) hok h1 hg
  have HBK:Hid ((z2g (c.x L T M)).2=true→opsC (c.x L T M)=if c.bk then negF (opsT (stpC (c.x L T M))) else opsT (stpC (c.x L T M))):=hid fun h=>by unfold opsC;rw [if_neg (by simp [hg,h])];rfl
  have HNO:Hid ((z2g (c.x L T M)).2=false→opsC (c.x L T M)=[]):=hid fun h=>by unfold opsC;rw [if_pos (.inr h)]
  have HAT:=hid (fun h=>q1c (c:=c.x L T M) hg hok.P h)
  have HS:Hid (∀ w',Below W1.heap.size W1 w'→Calls Tryz.prog 48 #[.agg #[.int .u8 c.p.pk,.int .u32 c.p.od,.int .u8 c.p.po,.slice c.p.lp c.p.ln c.p.lcp,.slice c.p.tp c.p.tn c.p.tcp,.slice c.p.wp c.p.wn c.p.wcp,.int .u8 c.p.sk,.int .u8 c.p.fr,.int .u8 c.p.to,.int .i64 c.p.q]] w' (GivesS w' (z0h (c.p.pg L T M)))):=hid fun w' hb=>z9u c.p.pk c.p.od c.p.po c.p.lp c.p.ln c.p.lcp c.p.tp c.p.tn c.p.tcp c.p.wp c.p.wn c.p.wcp c.p.sk c.p.fr c.p.to c.p.q L T M w' (hw.later (hb1.trans (hb.mono hb1.size))) ((hP.later hb1).later hb) hok.P h1
  have HXP:Hid ((c.x L T M).P=c.p.pg L T M):=hid rfl
  clear hW1 hx hb1 hB hw hP hok h1 hg
  generalize c.x L T M=X at *
  generalize c.p.pg L T M=P at *
  rw [HXP.out] at HAT
  clear HXP
  obtain⟨y,hy⟩:∃ y,(z2g X).2=y:=⟨_,rfl⟩
  rw [hy] at HTU HBK HNO HAT
  clear hy
  cases y with
  | false =>
   go_enter Tryz.func67,Tryz.ntmps67
   go_upto_region 1 with (fail)
   rw [HW1.out,HRE.out]
   go_wp2_with ((with_reducible refine z0f HX.out ?_ ?_);rfl)
   refine hgd.mono ?_
   rintro e w2 ⟨rfl,h2⟩
   have HX2:=hid (HX.out.later h2)
   have HB2:=hid h2
   clear h2 hgd
   go_wp2_with ((with_reducible refine z0f HX2.out ?_ ?_);rfl)
   refine (HTU.out _ HB2.out).mono ?_
   rintro e w3 ⟨rfl,h3⟩
   have HB3:=hid (HB2.out.trans (h3.mono HB2.out.size))
   clear h3
   go_wp2_with fail
   go_ret
   rw [HNO.out (by first | rfl | trivial)]
   exact gives_no (HB1.out.trans (HB3.out.mono HB1.out.size))
  | true =>
   obtain⟨i,hi1,hi2,hi3,hf⟩:=HAT.out rfl
   have hbk:=HBK.out rfl
   rw [hi3] at hf hbk
   rw [hi1] at HTU
   have HBY:=hid hbk
   have HFI:=hid hf
   clear HAT HBK HNO hi1 hi3 hf hbk
   obtain⟨n,hn⟩:∃ n,(z0h P).length=n:=⟨_,rfl⟩
   rw [hn] at hi2
   have HN:=hid hn
   clear hn
   go_enter Tryz.func67,Tryz.ntmps67
   go_upto_region 1 with (fail)
   rw [HW1.out,HRE.out]
   go_wp2_with ((with_reducible refine z0f HX.out ?_ ?_);rfl)
   refine hgd.mono ?_
   rintro e w2 ⟨rfl,h2⟩
   have HX2:=hid (HX.out.later h2)
   have HB2:=hid h2
   clear h2 hgd
   go_wp2_with ((with_reducible refine z0f HX2.out ?_ ?_);rfl)
   refine (HTU.out _ HB2.out).mono ?_
   rintro e w3 ⟨rfl,h3⟩
   have HX3:=hid (HX2.out.later h3)
   have HB3:=hid (HB2.out.trans (h3.mono HB2.out.size))
   clear h3
   go_wp2_with ((with_reducible refine z4f HX3.out ?_ ?_);rfl)
   refine (HS.out _ HB3.out).mono ?_
   rintro e w4 ⟨p4,c4,H4,rfl,hs4,h4⟩
   have HX4:=hid (HX3.out.later h4)
   have HB4:=hid (HB3.out.trans (h4.mono HB3.out.size))
   simp only [HN.out] at hs4 ⊢
   have hc4:=hs4.row.cap
   obtain⟨b,off,rfl,_,k0,k1,k2⟩:=z5l hs4.row hi2
   obtain⟨t1,t2,t3⟩:=hs4.tells.at i (by rw [hs4.row.len];exact hi2)
   rw [t1] at k0
   rw [t2] at k1
   rw [show (z0h P).getD i stp0=(z0h P).getD i (0,0,[]) from rfl] at HBY HFI
   generalize (z0h P).getD i (0,0,[])=sj at *
   obtain⟨ts,rs,Lq⟩:=sj
   generalize H4.getD i hs0=hd at *
   obtain⟨y1,y2,ip,il,ic⟩:=hd
   dsimp only at k0 k1 k2 t1 t2 t3
   obtain⟨f1,f2,f3,f4,f5⟩:=HFI.out
   dsimp only at f1 f2 f3 f4 f5
   have hl1:=t3.len
   have hba:Below w4.heap.size w4 (w4.alloc (.cells #[.int .u8 ts,.int .u8 rs,.slice ip il ic] 52)):=(Below.refl _ _).alloc (Nat.le_refl _) _
   have HOP:=hid (q1k ts rs ip il ic Lq (w4.alloc (.cells #[.int .u8 ts,.int .u8 rs,.slice ip il ic] 52)) (t3.later hba) f4 (by omega))
   have HUN:=hid (undo_any ts rs ip il ic Lq (w4.alloc (.cells #[.int .u8 ts,.int .u8 rs,.slice ip il ic] 52)) (t3.later hba) f4 f3 (by omega))
   have a11:=(HX4.out.later hba).at.2.1
   have HB5:=hid (HB1.out.trans ((HB4.out.trans (hba.mono HB4.out.size)).mono HB1.out.size))
   clear t1 t2 t3 f1 f2 f3 f4 f5 hl1 hba hs4 h4 HFI HS HTU
   cases hbk:c.bk
   all_goals
    rw [hbk] at a11 HBY
    have HBZ:=HBY.out
    first | rw [if_pos rfl] at HBZ | rw [if_neg (by simp)] at HBZ
    have HBW:=hid HBZ
    clear HBZ HBY
    go_wp2_with fail
    first | refine HOP.out.mono ?_ | refine HUN.out.mono ?_
    intro e w6 h6
    have h7:=givesO_since h6 HB5.out
    obtain⟨p6,c6,rfl,h8⟩:=h7
    have H8:=hid h8
    clear h8 h6
    go_wp2_with fail
    go_ret
    rw [HBW.out]
    exact⟨p6,c6,rfl,H8.out⟩
end Go.Proofs.YtclbkfpbdidaiaaGreatDoor
namespace Go.Proofs.YtclbkfpbdidaiaaGreatDoor
open Go.Lib (hid)
set_option maxHeartbeats 16000000
open Go.RowKit
set_option linter.unusedVariables false
set_option linter.unusedSimpArgs false
set_option maxRecDepth 10000
theorem z5i {k sg tx st d o:Int} {cp:Bool} {key:K} (h1:0≤k∧k≤255) (h2:0≤sg∧sg≤4294967295) (h3:0≤tx∧tx≤4294967295) (h4:0≤st∧st≤255) (h5:Kok key) (h6:In64 d) (h7:0≤o∧o≤255):Rxok (recK k sg tx st cp key d o):=⟨h1,h2,h3,h4,h5,h6,h7,q4a⟩
theorem k000:Kok (0,0,0):=⟨by decide,by decide,by decide⟩
theorem in0:In64 0:=by unfold In64;decide
theorem opsC_ok {c:Crs} (hok:Pgok c.P):∀ o∈opsC c,FineO o:=by
 intro o ho
 unfold opsC at ho
 split at ho
 · cases ho
 · rename_i h
   have hg:z2s c=true:=by
    cases hg:z2s c with
    | true=>rfl
    | false=>exact absurd (.inl hg) h
   have ht:(z2g c).2=true:=by
    cases ht:(z2g c).2 with
    | true=>rfl
    | false=>exact absurd (.inr ht) h
   obtain⟨i,_,_,_,hf⟩:=q1c hg hok ht
   split at ho
   · exact q1p (z4k hf) o ho
   · exact z4k hf o ho
theorem lastC_ok {t:Tc} (h:∀ o∈t.dn,Ook o):Kok (z3a t).1.1∧In64 (z3a t).1.2:=by
 rcases Nat.eq_zero_or_pos t.dn.length with e | e
 · rw [z5r e]
   exact⟨k000,in0⟩
 · obtain⟨q,hq⟩:∃ q,t.dn.length=q+1:=⟨t.dn.length-1,by omega⟩
   have ho:=h _ (z6f t.dn q (by omega))
   rw [z8a hq]
   split
   · exact⟨k000,in0⟩
   · refine⟨ho.1,?_⟩
     have h2:=ho.2
     unfold In64 at h2 ⊢
     simp only
     omega
theorem nextC_ok {c:Crs} {t:Tc} {R id:Int} (hc:Crok c) (ht:Tcok t) (hiQ:0≤id∧id≤4294967295):Rxok (z2m c t R id):=by
 unfold z2m
 split
 · exact⟨by decide,by decide,by decide,by decide,k000,in0,by decide,q4a⟩
 rename_i hg
 have hg':z2s c=true:=by simpa using hg
 have hl:=z5q hg' hc.P
 obtain⟨_,_,g3,g4,_⟩:=z2e hg'
 split
 · split
   · unfold z4x
     split
     · exact z5i (by decide) (by decide) ht.id (by decide) (lastC_ok ht.dn).1 (lastC_ok ht.dn).2 (by decide)
     · exact z5i (by decide) (by decide) ht.id (by decide) k000 in0 (by decide)
   · unfold z3y
     split
     · rename_i hlt
       have hf:=opsC_ok hc.P _ (z6f (opsC c) t.dn.length hlt)
       exact z5i (by decide) (by decide) ht.id (by decide) hf.kok (by unfold In64;have:=hf.lo;have:=hf.hi;omega) (by decide)
     · exact z5i (by decide) (by decide) ht.id (by decide) k000 in0 (by decide)
 · split
   · exact z5i (by decide) hc.sg (by decide) (by decide) k000 in0 (by decide)
   · unfold z6h
     split
     · rename_i htn
       refine z5i (by decide) hc.sg hiQ ?_ k000 in0 (by decide)
       obtain⟨i,hi,hlt,_⟩:=q1c hg' hc.P htn
       have:((z0h c.P).length:Int)≤5:=hl.2
       omega
     · refine z5i (by decide) hc.sg (by decide) (by decide) k000 in0 ?_
       unfold outC
       split <;> decide
theorem si_crok {P:Pg} {R:Int} (hok:Pgok P) (hg:z0l 4 4 P=true) (hR:0≤R∧R≤4) {c:Crs} {M:List Tc} {m:Int} (h:SI P R c M m):Crok c:=by
 have hn5:lenA P≤5:=by
  have:=(z1c hg hok).1
  unfold lenA
  omega
 cases h with
 | free s tr h ht=>exact⟨by simp only;omega,hok,by unfold In64;simp only;omega,by unfold In64;simp only;omega,by simp only;omega⟩
 | op s tr id2 sz k h ht hid2 hk=>exact⟨by simp only;omega,hok,by unfold In64;simp only;omega,by unfold In64;simp only;omega,by simp only;omega⟩
 | dead s tr id2 sz k h ht hid2 hk=>exact⟨by simp only;omega,hok,by unfold In64;simp only;omega,by unfold In64;simp only;omega,by simp only;omega⟩
 | back s h=>exact⟨by simp only;omega,hok,by unfold In64;simp only;omega,by unfold In64;simp only;omega,by simp only;omega⟩
 | undo s id2 sz k h hid2 hk=>exact⟨by simp only;omega,hok,by unfold In64;simp only;omega,by unfold In64;simp only;omega,by simp only;omega⟩
theorem si_pos {P:Pg} {R:Int} (hok:Pgok P) (hg:z0l 4 4 P=true) (hR:0≤R∧R≤4) {c:Crs} {M:List Tc} {m:Int} (h:SI P R c M m):0≤m:=by
 have hn5:1≤lenA P∧lenA P≤5:=by
  have:=(z1c hg hok).1
  unfold lenA
  omega
 cases h with
 | free s tr h ht=>omega
 | op s tr id2 sz k h ht hid2 hk =>
  have:=z4z (z2t hg hok h)
  omega
 | dead s tr id2 sz k h ht hid2 hk=>omega
 | back s h=>omega
 | undo s id2 sz k h hid2 hk =>
  have:=z4z (z2t hg hok (s:=s-1) ⟨by omega,by omega⟩)
  have h2:(negF (opsT (stpA P (s-1)))).length≤6:=by
   unfold negF
   rw [List.length_reverse,List.length_map]
   exact this
  omega
def z3x (K:List Bool) (i:Nat):Bool:=K.getD i false
def cntK (H:List Rx) (k:Int):Nat:=H.countP fun X=>X.k==k
theorem q2b (H:List Rx) (X:Rx) (k:Int):cntK (H ++ [X]) k=cntK H k+(if X.k=k then 1 else 0):=by
 unfold cntK
 rw [List.countP_append]
 by_cases h:X.k=k
 · simp [h]
 · simp [h]
structure Fol (P:Pg) (R:Int) (K:List Bool) (c:Crs) (M:List Tc) (H:List Rx) (i:Nat):Prop where
 si:∃ m,SI P R c M m∧m+i≤158
 len:H.length=i+1
 tr:(cntK H 5:Int)=c.tr
 bk:cntK H 8=if c.bk then 1 else 0
 no:K=[]→c.tr=0
 ts:TsOk M (i+1) (10000*i)
structure FolEnd (R:Int) (K:List Bool) (H:List Rx) (X:Rx):Prop where
 len:1≤H.length
 k:X.k=9
 o:(X.o=1∧cntK (H ++ [X]) 8=0∧(cntK (H ++ [X]) 5:Int)≤R)∨(X.o=2∧cntK (H ++ [X]) 8=1∧(cntK (H ++ [X]) 5:Int)=R+1)
 no:K=[]→X.o=1
theorem Fol.step {P:Pg} {R:Int} (hg:z0l 4 4 P=true) (hok:Pgok P) (hR:0≤R∧R≤4) {K:List Bool} {c:Crs} {M:List Tc} {H:List Rx} {i:Nat} (h:Fol P R K c M H i):∃ X c' M',X=z1u c M R ((i:Int)+1) (z3x K i)∧z1q X=true∧Rxok X∧2≤X.k∧X.k≤9∧appX c X=(c',0)∧(X.k≤7→appC M 0 X=(M',0))∧(¬ X.k≤7→M'=M)∧(X.k≠9→Fol P R K c' M' (H ++ [X]) (i+1))∧(X.k=9→FolEnd R K H X)∧i<159:=by
 obtain⟨m,hsi,hm⟩:=h.si
 have hpos:=si_pos hok hg hR hsi
 obtain⟨c',M',ho⟩:=step_any hg hok hR hsi (z3x K i) (id:=(i:Int)+1) ⟨by omega,by omega⟩
 have hc:=si_crok hok hg hR hsi
 have htk:Tcok (tOf M):=by
  unfold tOf
  cases hgt:getT Tc.sg M 1 with
  | none=>exact⟨by decide,by decide,by decide,(fun o ho=>by cases ho),in0,in0⟩
  | some t=>exact h.ts.ok t (z6e hgt).1
 have hrx:Rxok (z1u c M R ((i:Int)+1) (z3x K i)):=by
  unfold z1u
  split
  · exact z5i (by decide) (by decide) hc.tx (by decide) k000 in0 (by decide)
  · exact nextC_ok hc htk ⟨by omega,by omega⟩
 have hno:K=[]→(z1u c M R ((i:Int)+1) (z3x K i)).k≠5:=fun hk=>by
  unfold z1u
  rw [if_neg (by
   rintro ⟨h1,_⟩
   rw [hk] at h1
   simp [z3x] at h1)]
  unfold z2m
  split
  · decide
  split
  · split
    · unfold z4x
      split <;> (simp [recK])
    · unfold z3y
      split <;> (simp [recK])
  · split
    · simp [recK]
    · unfold z6h
      split <;> (simp [recK])
 refine⟨_,c',M',rfl,ho.good,hrx,ho.k2,ho.k9,ho.app,ho.jn,ho.same,fun h9=>?_,fun h9=>?_,by omega⟩
 · obtain⟨m',hs',hlt⟩:=ho.go h9
   generalize z1u c M R ((i:Int)+1) (z3x K i)=X at *
   refine⟨⟨m',hs',by omega⟩,by rw [List.length_append,h.len];rfl,?_,?_,fun hk=>?_,?_⟩
   · rw [q2b,ho.tr,← h.tr]
     split <;> simp
   · rw [q2b,h.bk,ho.bk]
     cases hb:c.bk with
     | true =>
      rw [if_neg (ho.once hb)]
      simp
     | false=>by_cases h8:X.k=8 <;> simp [h8]
   · rw [ho.tr,h.no hk,if_neg (hno hk)]
     rfl
   · by_cases h7:X.k≤7
     · have h1:=TsOk.app (X:=X) (at_:=0) h.ts ⟨by omega,by omega⟩ hrx in0
       rw [ho.jn h7] at h1
       exact h1.mono (Nat.le_refl _) (by omega)
     · rw [ho.same h7]
       exact h.ts.mono (by omega) (by omega)
 · generalize z1u c M R ((i:Int)+1) (z3x K i)=X at *
   have h5:cntK (H ++ [X]) 5=cntK H 5:=by rw [q2b,if_neg (by omega)];rfl
   have h8:cntK (H ++ [X]) 8=cntK H 8:=by rw [q2b,if_neg (by omega)];rfl
   refine⟨by rw [h.len];omega,h9,?_,fun hk=>?_⟩
   · rw [h5,h8,h.tr,h.bk]
     rcases ho.fin h9 with ⟨a1,a2,a3⟩ | ⟨a1,a2,a3⟩
     · exact .inl ⟨a1,by rw [a2];rfl,a3⟩
     · exact .inr ⟨a1,by rw [a2];rfl,a3⟩
   · rcases ho.fin h9 with ⟨a1,_⟩ | ⟨_,_,a3⟩
     · exact a1
     · have:=h.no hk
       omega
def x1st (P:Pg):Rx:=⟨1,1,0,0,false,(0,0,0),0,0,P⟩
theorem z7k {P:Pg} (hg:z0l 4 4 P=true):z1q (x1st P)=true:=by
 simp [z1q,x1st,kOk,kS,kT,kB,kA,kO,kP,z7p,addB,outB,z8r,hg]
theorem z9q {P:Pg} (hok:Pgok P):Rxok (x1st P):=⟨by show (0:Int)≤1∧(1:Int)≤255;decide,by show (0:Int)≤1∧(1:Int)≤4294967295;decide,by show (0:Int)≤0∧(0:Int)≤4294967295;decide,by show (0:Int)≤0∧(0:Int)≤255;decide,k000,in0,by show (0:Int)≤0∧(0:Int)≤255;decide,hok⟩
theorem z9v {P:Pg} (hg:z0l 4 4 P=true):z9e (x1st P)=(⟨1,P,false,0,0,0⟩,0):=by
 unfold z9e
 rw [if_pos ⟨rfl,z7k hg⟩]
 rfl
theorem Fol.first {P:Pg} {R:Int} (hg:z0l 4 4 P=true) (hok:Pgok P) (hR:0≤R∧R≤4) (K:List Bool) (X:Rx) (hX:X.k=1):Fol P R K ⟨1,P,false,0,0,0⟩ [] [X] 0:=by
 have hn5:1≤lenA P∧lenA P≤5:=by
  have:=(z1c hg hok).1
  unfold lenA
  omega
 have h5:cntK [X] 5=0:=by
  unfold cntK
  simp [hX]
 have h8:cntK [X] 8=0:=by
  unfold cntK
  simp [hX]
 refine⟨⟨_,.free 0 0 ⟨by omega,by omega⟩ ⟨by omega,by omega⟩,by omega⟩,rfl,by rw [h5];rfl,by rw [h8];rfl,fun _=>rfl,⟨fun t ht=>(by cases ht),?_,Nat.zero_le _,fun t ht=>(by cases ht),fun t ht=>(by cases ht)⟩⟩
 simp [UpT]
theorem nextC_pg (c:Crs) (t:Tc) (R id:Int):(z2m c t R id).pg=noP:=by
 unfold z2m
 split
 · rfl
 split
 · split
   · unfold z4x
     split <;> rfl
   · unfold z3y
     split <;> rfl
 · split
   · rfl
   · unfold z6h
     split <;> rfl
theorem nextS_pg (c:Crs) (M:List Tc) (R id:Int) (b:Bool):(z1u c M R id b).pg=noP:=by
 unfold z1u
 split
 · rfl
 · exact nextC_pg _ _ _ _
end Go.Proofs.YtclbkfpbdidaiaaGreatDoor
namespace Go.Proofs.YtclbkfpbdidaiaaGreatDoor
open Go.Lib (hid)
set_option maxHeartbeats 16000000
open Go.RowKit Go.ChangeShapes Go.WideShapes
set_option linter.unusedVariables false
set_option linter.unusedSimpArgs false
set_option maxRecDepth 10000
theorem q4d {w w':World} {B:Nat} {T:TypeId} {k n:Nat} {v:Value} {xs:List Value} {S:Nat→Prop} (h:w.ownsRow B T k v n xs) (ht:Turn S w w') (hs:∀ b,v.ownBlock=some b→¬ S b):w'.ownsRow B T k v n xs:=by
 refine⟨h.1,?_⟩
 rcases h.2 with hn | ⟨g,cap,cur,rfl,h1,h2,h3⟩
 · exact .inl hn
 · exact .inr ⟨g,cap,cur,rfl,h1,(ht.block g (Array.getElem?_eq_some_iff.1 h2).1 (hs g rfl)).trans h2,h3⟩
theorem q4q {α:Type} {enc:α→List Value} {k:Nat} {d0:α} {w:World} {p:Option Addr} {n c:Nat} {L:List α} (h:SlG enc k d0 w p n c L) (h0:0<n) {a:Addr} (e:p=some a):a.block<w.heap.size:=by
 obtain⟨b,off,hp,hb,_⟩:=h.cell h0
 rw [hp] at e
 cases e
 exact hb
structure Off (S:Nat→Prop) (p:Rv):Prop where
 l:0<p.ln→∀ a,p.lp=some a→¬ S a.block
 t:0<p.tn→∀ a,p.tp=some a→¬ S a.block
 o:0<p.wn→∀ a,p.wp=some a→¬ S a.block
theorem q1h {w w':World} {p:Rv} {L:List Ln} {T:List Tk} {M:List Ln} {S:Nat→Prop} (h:RvM w p L T M) (ht:Turn S w w') (ho:Off S p):RvM w' p L T M :=
 ⟨h.l.turn ht.size fun h0 a ha hlt=>ht.block a.block hlt (ho.l h0 a ha),h.t.turn ht.size fun h0 a ha hlt=>ht.block a.block hlt (ho.t h0 a ha),h.o.turn ht.size fun h0 a ha hlt=>ht.block a.block hlt (ho.o h0 a ha)⟩
theorem Off.grow {w:World} {p:Rv} {L:List Ln} {T:List Tk} {M:List Ln} {S S':Nat→Prop} (h:Off S p) (hm:RvM w p L T M) (hs:∀ j,S' j→S j∨w.heap.size≤j):Off S' p :=
 ⟨fun h0 a e hq=>by
  rcases hs _ hq with g | g
  · exact h.l h0 a e g
  · have:=q4q hm.l h0 e;omega,fun h0 a e hq=>by
  rcases hs _ hq with g | g
  · exact h.t h0 a e g
  · have:=q4q hm.t h0 e;omega,fun h0 a e hq=>by
  rcases hs _ hq with g | g
  · exact h.o h0 a e g
  · have:=q4q hm.o h0 e;omega⟩
theorem NewP.off {W:World} {p:Rv} (h:NewP W p) {S:Nat→Prop} (hs:∀ j,S j→j<W.heap.size):Off S p :=
 ⟨fun _ a e hq=>by have:=h.1 a e;have:=hs _ hq;omega,fun _ a e hq=>by have:=h.2.1 a e;have:=hs _ hq;omega,fun _ a e hq=>by have:=h.2.2 a e;have:=hs _ hq;omega⟩
variable {Wd:World→Prop} {Ju:World→Nat→List Tc→(Nat→Prop)→Prop}
def fblk (A:Nat) (Q:Nat→Prop) (v:Value) (j:Nat):Prop:=j=A∨Q j∨v.ownBlock=some j
structure FoM (Ju:World→Nat→List Tc→(Nat→Prop)→Prop) (W wr:World) (A B:Nat) (Q:Nat→Prop) (c:Cv) (L:List Ln) (T:List Tk) (M:List Ln) (J:List Tc) (v:Value) (H:List Rv):Prop where
 cb:CB wr A c
 cm:CvM wr c L T M
 off:Off (fblk A Q v) c.p
 ju:Ju wr B J Q
 qa:¬ Q A
 low:∀ j,fblk A Q v j→W.heap.size≤j
 own:wr.ownsRow 0 42 20 v H.length (z0p rce H)
 va:v.ownBlock≠some A
 vq:∀ j,v.ownBlock=some j→¬ Q j
 below:Below W.heap.size W wr
theorem FoM.lt (I:JnF Wd Ju) {W wr:World} {A B:Nat} {Q:Nat→Prop} {c:Cv} {L:List Ln} {T:List Tk} {M:List Ln} {J:List Tc} {v:Value} {H:List Rv} (h:FoM Ju W wr A B Q c L T M J v H):∀ j,fblk A Q v j→j<wr.heap.size:=by
 rintro j (rfl | hq | hv)
 · exact h.cb.lt
 · exact I.lt h.ju j hq
 · exact (World.ownsRow.lt h.own j hv).2
theorem FoM.later (I:JnF Wd Ju) {W wr w':World} {A B:Nat} {Q:Nat→Prop} {c:Cv} {L:List Ln} {T:List Tk} {M:List Ln} {J:List Tc} {v:Value} {H:List Rv} (h:FoM Ju W wr A B Q c L T M J v H) (hb:Below wr.heap.size wr w'):FoM Ju W w' A B Q c L T M J v H :=
 ⟨h.cb.later hb,h.cm.later hb,h.off,I.later h.ju hb,h.qa,h.low,q4d (S:=fun _=>False) h.own (Turn.of_below hb) (fun _ _ h=>h),h.va,h.vq,h.below.trans (hb.mono h.below.size)⟩
theorem FoM.acted {W w w':World} {A B:Nat} {Q:Nat→Prop} {c:Cv} {L:List Ln} {T:List Tk} {M:List Ln} {J J':List Tc} {v:Value} {H:List Rv} (h:FoM Ju W w A B Q c L T M J v H) (ha:JActed Ju w w' B J' Q):∃ Q',FoM Ju W w' A B Q' c L T M J' v H∧(∀ j,Q' j→Q j∨w.heap.size≤j)∧Turn Q w w':=by
 obtain⟨Q',g1,g2,g3⟩:=ha
 have hs:∀ j,fblk A Q' v j→fblk A Q v j∨w.heap.size≤j:=by
  rintro j (e | hq | hv)
  · exact .inl (.inl e)
  · rcases g2 j hq with g | g
    · exact .inl (.inr (.inl g))
    · exact .inr g
  · exact .inl (.inr (.inr hv))
 refine⟨Q',⟨?_,q1h h.cm g3 ⟨fun h0 a e hq=>h.off.l h0 a e (.inr (.inl hq)),fun h0 a e hq=>h.off.t h0 a e (.inr (.inl hq)),fun h0 a e hq=>h.off.o h0 a e (.inr (.inl hq))⟩,h.off.grow h.cm hs,g1,fun hq=>?_,fun j hj=>?_,q4d h.own g3 h.vq,h.va,fun j hj hq=>?_,h.below.trans (g3.below h.below.size fun j hj=>h.low j (.inr (.inl hj)))⟩,g2,g3⟩
 · exact (g3.block A h.cb.lt h.qa).trans h.cb
 · rcases g2 _ hq with g | g
   · exact h.qa g
   · have:=h.cb.lt;omega
 · rcases hs j hj with g | g
   · exact h.low j g
   · exact Nat.le_trans h.below.size g
 · rcases g2 _ hq with g | g
   · exact h.vq j hj g
   · have:=(World.ownsRow.lt h.own j hj).2;omega
theorem FoM.put (I:JnF Wd Ju) {W w:World} {A B:Nat} {Q:Nat→Prop} {c d:Cv} {L L':List Ln} {T T':List Tk} {M M':List Ln} {J:List Tc} {v:Value} {H:List Rv} (h:FoM Ju W w A B Q c L T M J v H) (hd:CvM w d L' T' M') (ho:Off (fblk A Q v) d.p):FoM Ju W (w.setRow A (ccs d)) A B Q d L' T' M' J v H:=by
 have ht:Turn (fun k=>k=A) w (w.setRow A (ccs d)):=⟨rfl,rfl,rfl,by simp [World.setRow],fun k _ hn=>setRow_other _ _ _ _ hn⟩
 exact⟨h.cb.set d,q1h hd ht ⟨fun h0 a e hq=>ho.l h0 a e (.inl hq),fun h0 a e hq=>ho.t h0 a e (.inl hq),fun h0 a e hq=>ho.o h0 a e (.inl hq)⟩,ho,I.keep h.ju ht (fun j hj e=>h.qa (e ▸ hj)),h.qa,h.low,q4d h.own ht (fun b hb e=>h.va (e ▸ hb)),h.va,h.vq,h.below.trans (ht.below h.below.size fun k hk=>h.low k (.inl hk))⟩
def rvK (X:Rx):Rv:=⟨X.k,X.sg,X.tx,X.st,X.cp,X.key.1,X.key.2.1,X.key.2.2,X.d,X.o,0,0,0,none,0,0,none,0,0,none,0,0,0,0,0,0⟩
theorem z7c {X:Rx} (h:X.pg=noP):(rvK X).x [] [] []=X:=by
 obtain⟨k,sg,tx,st,cp,key,d,o,pg⟩:=X
 simp only at h
 subst h
 rfl
theorem q2m (X:Rx) (w:World):RvM w (rvK X) [] [] []:=⟨SlG.empty _,SlG.empty _,SlG.empty _⟩
theorem z2h {fn:Func} {q:Tmp} (h:fn.results=#[.cell q 42]) (tmps:Array Value) (W:World) (R:Nat) (r:Rv) (hp:tmps.getD q undef=.pointer (some ⟨R,0,none⟩))
 (hB:RB W R r):(results fn tmps).run Tryz.prog W=.ok (.agg (rcs r)) W :=
 results_cell_row h tmps _ R 42 (rcs r) (0,0) _ hp hB Tryz.underlying42 rfl (by kernel_rfl)
theorem cr_undo (t:Tv) (W:World) (hT:TvM W t) (hx:∀ o∈t.c.dn,Ook o) (hn:t.n≤1000):Calls Tryz.prog 33 #[.agg #[.int .u32 t.c.id,.int .u32 t.c.sg,.int .u8 t.c.st,.bool t.c.cp,.bool t.c.dd,.slice t.p t.n t.m,.int .i64 t.c.fs,.int .i64 t.c.sz]] W fun e w'=>e=.returned (.agg (rcs (rvK (z4x t.c))))∧Below W.heap.size W w':=by
 obtain⟨W1,hW1,hxb,hz,hb1⟩:∃ W1,(W.alloc (.cells #[.int .u32 t.c.id,.int .u32 t.c.sg,.int .u8 t.c.st,.bool t.c.cp,.bool t.c.dd,.slice t.p t.n t.m,.int .i64 t.c.fs,.int .i64 t.c.sz] 46)).alloc (.cells #[.int .u8 0,.int .u32 0,.int .u32 0,.int .u8 0,.bool false,.int .u8 0,.int .u8 0,.int .u8 0,.int .i64 0,.int .u8 0,.int .u8 0,.int .u32 0,.int .u8 0,.slice none 0 0,.slice none 0 0,.slice none 0 0,.int .u8 0,.int .u8 0,.int .u8 0,.int .i64 0] 42)=W1∧W1.heap[W.heap.size]?=some (.cells #[.int .u32 t.c.id,.int .u32 t.c.sg,.int .u8 t.c.st,.bool t.c.cp,.bool t.c.dd,.slice t.p t.n t.m,.int .i64 t.c.fs,.int .i64 t.c.sz] 46 (0,0))∧RB W1 (W.heap.size+1) rz∧Below W.heap.size W W1:=by
  have hb0:Below W.heap.size W (W.alloc (.cells #[.int .u32 t.c.id,.int .u32 t.c.sg,.int .u8 t.c.st,.bool t.c.cp,.bool t.c.dd,.slice t.p t.n t.m,.int .i64 t.c.fs,.int .i64 t.c.sz] 46)):=(Below.refl _ _).alloc (Nat.le_refl _) _
  have hs:(W.alloc (.cells #[.int .u32 t.c.id,.int .u32 t.c.sg,.int .u8 t.c.st,.bool t.c.cp,.bool t.c.dd,.slice t.p t.n t.m,.int .i64 t.c.fs,.int .i64 t.c.sz] 46)).heap.size=W.heap.size+1:=by simp only [World.alloc,Array.size_push]
  have hb1:Below (W.alloc (.cells #[.int .u32 t.c.id,.int .u32 t.c.sg,.int .u8 t.c.st,.bool t.c.cp,.bool t.c.dd,.slice t.p t.n t.m,.int .i64 t.c.fs,.int .i64 t.c.sz] 46)).heap.size (W.alloc (.cells #[.int .u32 t.c.id,.int .u32 t.c.sg,.int .u8 t.c.st,.bool t.c.cp,.bool t.c.dd,.slice t.p t.n t.m,.int .i64 t.c.fs,.int .i64 t.c.sz] 46)) ((W.alloc (.cells #[.int .u32 t.c.id,.int .u32 t.c.sg,.int .u8 t.c.st,.bool t.c.cp,.bool t.c.dd,.slice t.p t.n t.m,.int .i64 t.c.fs,.int .i64 t.c.sz] 46)).alloc (.cells #[.int .u8 0,.int .u32 0,.int .u32 0,.int .u8 0,.bool false,.int .u8 0,.int .u8 0,.int .u8 0,.int .i64 0,.int .u8 0,.int .u8 0,.int .u32 0,.int .u8 0,.slice none 0 0,.slice none 0 0,.slice none 0 0,.int .u8 0,.int .u8 0,.int .u8 0,.int .i64 0] 42)):=(Below.refl _ _).alloc (Nat.le_refl _) _
  refine⟨_,rfl,z0b (z0c W _) hb1,?_,hb0.trans (hb1.mono hb0.size)⟩
  have h:=RB.new (W.alloc (.cells #[.int .u32 t.c.id,.int .u32 t.c.sg,.int .u8 t.c.st,.bool t.c.cp,.bool t.c.dd,.slice t.p t.n t.m,.int .i64 t.c.fs,.int .i64 t.c.sz] 46)) rz
  rw [hs] at h
  exact h
 obtain⟨B,hB⟩:∃ B,W.heap.size=B:=⟨_,rfl⟩
 rw [hB] at hxb hz
 have HX:=hid hxb
 have HZ:=hid hz
 have HW1:=hid hW1
 have HB1:=hid hb1
 have HRE:=hid hB
 have hla:=jlast_any t W1 (hT.later hb1) hx (by omega)
 have HU:Hid (z4x t.c=if (z3a t.c).2 then recK 6 0 t.c.id 0 false (z3a t.c).1.1 (z3a t.c).1.2 0 else recK 7 0 t.c.id 0 false (0,0,0) 0 0):=hid rfl
 generalize z4x t.c=U at *
 obtain⟨lc,hlc⟩:∃ lc,z3a t.c=lc:=⟨_,rfl⟩
 rw [hlc] at hla HU
 obtain⟨⟨⟨ka,kb,kc⟩,d⟩,b⟩:=lc
 dsimp only at hla
 obtain⟨a0,a1,a2,a3,a4,a5,a6,a7⟩:=z0k hxb
 clear hW1 hxb hz hb1 hB hT hx hn hlc
 go_enter Tryz.func33,Tryz.ntmps33
 go_upto_region 1 with (fail)
 rw [HW1.out,HRE.out]
 go_wp2_with fail
 refine hla.mono ?_
 rintro e w2 ⟨rfl,h2⟩
 have hba:Below w2.heap.size w2 (w2.alloc (.cells #[.int .u8 ka,.int .u8 kb,.int .u8 kc,.int .i64 d] 105)):=(Below.refl _ _).alloc (Nat.le_refl _) _
 have HZ3:=hid ((HZ.out.later h2).later hba)
 have hb2:=HB1.out.trans (h2.mono HB1.out.size)
 have HB3:=hid (hb2.trans (hba.mono hb2.size))
 have hx3:=z0b (z0b HX.out h2) hba
 have ho3:=z0c w2 (.cells #[.int .u8 ka,.int .u8 kb,.int .u8 kc,.int .i64 d] 105)
 obtain⟨G,hG⟩:∃ G,w2.heap.size=G:=⟨_,rfl⟩
 rw [hG] at ho3
 have HG:=hid hG
 clear a0 a1 a2 a3 a4 a5 a6 a7 h2 hba hb2 hla hG HX HZ
 go_upto_region 2 with (fail)
 rw [HG.out]
 generalize w2.alloc (.cells #[.int .u8 ka,.int .u8 kb,.int .u8 kc,.int .i64 d] 105)=w3 at *
 have a0:=(z0k hx3).1
 have o0:=z0a (j:=0) ho3 (v:=.int .u8 ka) rfl
 have o1:=z0a (j:=1) ho3 (v:=.int .u8 kb) rfl
 have o2:=z0a (j:=2) ho3 (v:=.int .u8 kc) rfl
 have o3:=z0a (j:=3) ho3 (v:=.int .i64 d) rfl
 clear hx3 ho3
 cases b
 · have HE:Hid (U=recK 7 0 t.c.id 0 false (0,0,0) 0 0):=hid HU.out
   clear HU
   go_wp2_with ((with_reducible refine z1a (rvK (recK 7 0 t.c.id 0 false (0,0,0) 0 0)) HZ3.out ?_ ?_ ?_);rfl;rfl)
   (try simp only [Exit.inBlock,Exit.then])
   refine bodyPost_ret (v:=.agg (rcs (rvK (recK 7 0 t.c.id 0 false (0,0,0) 0 0)))) ?_ rfl ⟨by rw [HE.out],below_setRow HB3.out (by have:=HRE.out;omega) _⟩
   exact z2h rfl _ _ (B+1) _ rfl (HZ3.out.set _)
 · have HE:Hid (U=recK 6 0 t.c.id 0 false (ka,kb,kc) d 0):=hid HU.out
   clear HU
   go_wp2_with ((with_reducible refine z1a (rvK (recK 6 0 t.c.id 0 false (ka,kb,kc) d 0)) HZ3.out ?_ ?_ ?_);rfl;rfl)
   (try simp only [Exit.inBlock,Exit.then])
   refine bodyPost_ret (v:=.agg (rcs (rvK (recK 6 0 t.c.id 0 false (ka,kb,kc) d 0)))) ?_ rfl ⟨by rw [HE.out],below_setRow HB3.out (by have:=HRE.out;omega) _⟩
   exact z2h rfl _ _ (B+1) _ rfl (HZ3.out.set _)
theorem cr_three8 (W:World) (c:Cv) (t:Tv):∃ W1,((W.alloc (.cells (ccs c) 34)).alloc (.cells #[.int .u32 t.c.id,.int .u32 t.c.sg,.int .u8 t.c.st,.bool t.c.cp,.bool t.c.dd,.slice t.p t.n t.m,.int .i64 t.c.fs,.int .i64 t.c.sz] 46)).alloc (.cells #[.int .u8 0,.int .u32 0,.int .u32 0,.int .u8 0,.bool false,.int .u8 0,.int .u8 0,.int .u8 0,.int .i64 0,.int .u8 0,.int .u8 0,.int .u32 0,.int .u8 0,.slice none 0 0,.slice none 0 0,.slice none 0 0,.int .u8 0,.int .u8 0,.int .u8 0,.int .i64 0] 42)=W1∧CB W1 W.heap.size c∧W1.heap[W.heap.size+1]?=some (.cells #[.int .u32 t.c.id,.int .u32 t.c.sg,.int .u8 t.c.st,.bool t.c.cp,.bool t.c.dd,.slice t.p t.n t.m,.int .i64 t.c.fs,.int .i64 t.c.sz] 46 (0,0))∧RB W1 (W.heap.size+2) rz∧Below W.heap.size W W1:=by
 have hb0:Below W.heap.size W (W.alloc (.cells (ccs c) 34)):=(Below.refl _ _).alloc (Nat.le_refl _) _
 have hs:(W.alloc (.cells (ccs c) 34)).heap.size=W.heap.size+1:=by simp only [World.alloc,Array.size_push]
 have hx:=CB.new W c
 obtain⟨V,hV⟩:∃ V,W.alloc (.cells (ccs c) 34)=V:=⟨_,rfl⟩
 rw [hV] at hb0 hs hx ⊢
 have hb1:Below V.heap.size V (V.alloc (.cells #[.int .u32 t.c.id,.int .u32 t.c.sg,.int .u8 t.c.st,.bool t.c.cp,.bool t.c.dd,.slice t.p t.n t.m,.int .i64 t.c.fs,.int .i64 t.c.sz] 46)):=(Below.refl _ _).alloc (Nat.le_refl _) _
 have ht:=z0c V (.cells #[.int .u32 t.c.id,.int .u32 t.c.sg,.int .u8 t.c.st,.bool t.c.cp,.bool t.c.dd,.slice t.p t.n t.m,.int .i64 t.c.fs,.int .i64 t.c.sz] 46)
 have hs1:(V.alloc (.cells #[.int .u32 t.c.id,.int .u32 t.c.sg,.int .u8 t.c.st,.bool t.c.cp,.bool t.c.dd,.slice t.p t.n t.m,.int .i64 t.c.fs,.int .i64 t.c.sz] 46)).heap.size=W.heap.size+2:=by simp only [World.alloc,Array.size_push];omega
 obtain⟨U,hU⟩:∃ U,V.alloc (.cells #[.int .u32 t.c.id,.int .u32 t.c.sg,.int .u8 t.c.st,.bool t.c.cp,.bool t.c.dd,.slice t.p t.n t.m,.int .i64 t.c.fs,.int .i64 t.c.sz] 46)=U:=⟨_,rfl⟩
 rw [hU] at hb1 ht hs1 ⊢
 rw [hs] at ht
 have hb2:Below U.heap.size U (U.alloc (.cells #[.int .u8 0,.int .u32 0,.int .u32 0,.int .u8 0,.bool false,.int .u8 0,.int .u8 0,.int .u8 0,.int .i64 0,.int .u8 0,.int .u8 0,.int .u32 0,.int .u8 0,.slice none 0 0,.slice none 0 0,.slice none 0 0,.int .u8 0,.int .u8 0,.int .u8 0,.int .i64 0] 42)):=(Below.refl _ _).alloc (Nat.le_refl _) _
 have hz:=RB.new U rz
 rw [hs1] at hz
 have h3:=hb0.trans (hb1.mono hb0.size)
 exact⟨_,rfl,(hx.later hb1).later hb2,z0b ht hb2,hz,h3.trans (hb2.mono h3.size)⟩
theorem cr_next (c:Cv) (L:List Ln) (T:List Tk) (M:List Ln) (W:World) (hw:Words W) (hP:CvM W c L T M) (hok:Crok (c.x L T M)) (h1:c.p.ln≤400∧c.p.tn≤400∧c.p.wn≤400) (t:Tv) (retry id:Int) (hT:TvM W t) (hx:∀ o∈t.c.dn,Ook o) (hn:t.n≤1000):Calls Tryz.prog 30 #[.agg (ccs c),.agg #[.int .u32 t.c.id,.int .u32 t.c.sg,.int .u8 t.c.st,.bool t.c.cp,.bool t.c.dd,.slice t.p t.n t.m,.int .i64 t.c.fs,.int .i64 t.c.sz],.int .i64 retry,.int .u32 id] W fun e w'=>e=.returned (.agg (rcs (rvK (z2m (c.x L T M) t.c retry id))))∧Below W.heap.size W w':=by
 obtain⟨W1,hW1,hxb,htb,hz,hb1⟩:=cr_three8 W c t
 obtain⟨B,hB⟩:∃ B,W.heap.size=B:=⟨_,rfl⟩
 rw [hB] at hxb htb hz
 have HX:=hid hxb
 have HT:=hid htb
 have HZ:=hid hz
 have HW1:=hid hW1
 have HB1:=hid hb1
 have HRE:=hid hB
 have hgd:=q0k c L T M W1 (hw.later hb1) (hP.later hb1) hok h1
 cases hg:z2s (c.x L T M) with
 | false =>
  rw [hg] at hgd
  have HE:Hid (z2m (c.x L T M) t.c retry id=noX):=hid (by unfold z2m;rw [if_pos hg])
  generalize z2m (c.x L T M) t.c retry id=N at *
  clear hW1 hxb htb hz hb1 hB hg hw hP hok h1 hT hx hn
  go_enter Tryz.func30,Tryz.ntmps30
  go_wp2_with fail
  refine z3m ?_
  go_upto_region 1 with (fail)
  rw [HW1.out,HRE.out]
  try rw [show B+1+1=B+2 from rfl]
  go_wp2_with ((with_reducible refine z0f HX.out ?_ ?_);rfl)
  refine hgd.mono ?_
  rintro e w2 ⟨rfl,h2⟩
  have HX2:=hid (HX.out.later h2)
  have HT2:=hid (z0b HT.out h2)
  have HZ2:=hid (HZ.out.later h2)
  have HB2:=hid (HB1.out.trans (h2.mono HB1.out.size))
  clear h2 HX HT HZ
  clear hgd
  go_wp2_with (((with_reducible refine z1a (rvK noX) HZ2.out ?_ ?_ ?_);rfl;rfl))
  (try simp only [Exit.inBlock,Exit.then])
  try rw [z8i]
  refine bodyPost_ret (v:=.agg (rcs (rvK noX))) ?_ rfl ⟨by rw [HE.out],below_setRow HB2.out (by have:=HRE.out;omega) _⟩
  exact z2h rfl _ _ (B+2) _ rfl (HZ2.out.set _)
 | true =>
  rw [hg] at hgd
  have HTU:=hid fun w' (hb:Below W.heap.size W w')=>q2y c L T M w' (hw.later hb) (hP.later hb) hok h1 hg
  have HO:=hid (fun W=>cr_outcome c L T M W)
  have HOP:=hid fun w' (hb:Below W.heap.size W w')=>cr_ops c L T M w' (hw.later hb) (hP.later hb) hok h1
  have HUN:=hid fun w' (hb:Below W.heap.size W w')=>cr_undo t w' (hT.later hb) hx hn
  have HNX:Hid (z2m (c.x L T M) t.c retry id=if c.tx≠0 then (if t.c.dd then z4x t.c else z3y (c.x L T M) t.c) else if c.bk=false∧retry<c.tr then recK 8 c.sg 0 0 false (0,0,0) 0 0 else z6h (c.x L T M) id):=hid (by unfold z2m;rw [if_neg (by rw [hg];simp)];rfl)
  have HTL:Hid (t.c.dn.length=t.n):=hid hT.len
  have HAT:=hid (fun h=>q1c (c:=c.x L T M) hg hok.P h)
  have HLL:=hid (z5q hg hok.P)
  have HSL:=hid (z1c (z2e hg).2.1 hok.P).1
  generalize z2m (c.x L T M) t.c retry id=N at *
  have HBT:Hid (z6h (c.x L T M) id=if (z2g (c.x L T M)).2 then recK 2 c.sg id (z2g (c.x L T M)).1 c.bk (0,0,0) 0 0 else recK 9 c.sg 0 0 false (0,0,0) 0 (outC (c.x L T M))):=hid rfl
  have HWI:Hid (z3y (c.x L T M) t.c=if t.c.dn.length<(opsC (c.x L T M)).length then recK 3 0 t.c.id 0 false ((opsC (c.x L T M)).getD t.c.dn.length o0).1 ((opsC (c.x L T M)).getD t.c.dn.length o0).2 0 else recK 4 0 t.c.id 0 false (0,0,0) 0 0):=hid rfl
  rw [HTL.out] at HWI
  have HXP:Hid ((c.x L T M).P=c.p.pg L T M):=hid rfl
  clear hW1 hxb htb hz hb1 hB hg hw hP hok h1 hT hx hn HTL
  generalize c.x L T M=X at *
  generalize opsC X=LO at *
  generalize z6h X id=NB at *
  generalize z3y X t.c=NW at *
  generalize z4x t.c=NU at *
  have HAB:Hid ((z2g X).2=true→(0≤(z2g X).1∧(z2g X).1≤5)∧IntKind.u8.wrap (z2g X).1=(z2g X).1):=hid fun h=>by
   obtain⟨i,hi,hlt,_⟩:=HAT.out h
   have hb:0≤(z2g X).1∧(z2g X).1≤5:=by
    have:=HSL.out
    omega
   exact⟨hb,IntWalk.u8_in _ (by omega)⟩
  obtain⟨a,ha⟩:∃ a,(z2g X).1=a:=⟨_,rfl⟩
  obtain⟨ty,hty⟩:∃ a,(z2g X).2=a:=⟨_,rfl⟩
  obtain⟨o,ho⟩:∃ a,outC X=a:=⟨_,rfl⟩
  rw [ha,hty] at HTU HAB HBT
  rw [ho] at HO HBT
  clear ha hty ho HAT HLL HSL HXP
  cases q1:(c.tx != 0) with
  | true =>
   have hne:c.tx≠0:=bne_iff_ne.1 q1
   obtain⟨dd,hd⟩:∃ dd,t.c.dd=dd:=⟨_,rfl⟩
   cases dd with
   | true =>
    have HE:Hid (N=NU):=hid (by rw [HNX.out,if_pos hne,hd];rfl)
    have HD:=hid hd
    clear HNX HBT HWI HTU HO HOP HAB hne hd
    go_enter Tryz.func30,Tryz.ntmps30
    go_wp2_with fail
    refine z3m ?_
    go_upto_region 1 with (fail)
    rw [HW1.out,HRE.out]
    try rw [show B+1+1=B+2 from rfl]
    go_wp2_with ((with_reducible refine z0f HX.out ?_ ?_);rfl)
    refine hgd.mono ?_
    rintro e w2 ⟨rfl,h2⟩
    have HX2:=hid (HX.out.later h2)
    have HT2:=hid (z0b HT.out h2)
    have HZ2:=hid (HZ.out.later h2)
    have HB2:=hid (HB1.out.trans (h2.mono HB1.out.size))
    clear h2 HX HT HZ
    clear hgd
    have a14:=HX2.out.at.2.2.2.2
    have b4:=(z0k HT2.out).2.2.2.2.1
    rw [HD.out] at b4
    go_upto_region 4 with (fail)
    clear a14 b4
    obtain⟨d0,d1,d2,d3,d4,d5,d6,d7⟩:=z0k HT2.out
    go_wp2_with fail
    refine (HUN.out _ HB2.out).mono ?_
    rintro e w3 ⟨rfl,h3⟩
    clear d0 d1 d2 d3 d4 d5 d6 d7
    have HX3:=hid (HX2.out.later h3)
    have HT3:=hid (z0b HT2.out h3)
    have HZ3:=hid (HZ2.out.later h3)
    have HB3:=hid (HB2.out.trans (h3.mono HB2.out.size))
    clear h3 HX2 HT2 HZ2
    clear HUN
    go_wp2_with (((with_reducible refine z1a (rvK NU) HZ3.out ?_ ?_ ?_);rfl;rfl))
    (try simp only [Exit.inBlock,Exit.then])
    try rw [z8i]
    refine bodyPost_ret (v:=.agg (rcs (rvK NU))) ?_ rfl ⟨by rw [HE.out],below_setRow HB3.out (by have:=HRE.out;omega) _⟩
    exact z2h rfl _ _ (B+2) _ rfl (HZ3.out.set _)
   | false =>
    have HNW:Hid (N=NW):=hid (by rw [HNX.out,if_pos hne,hd];rfl)
    have HNE:Hid (t.n<LO.length→N=recK 3 0 t.c.id 0 false (LO.getD t.n o0).1 (LO.getD t.n o0).2 0):=hid fun h=>by rw [HNW.out,HWI.out,if_pos h]
    have HNF:Hid (¬ t.n<LO.length→N=recK 4 0 t.c.id 0 false (0,0,0) 0 0):=hid fun h=>by rw [HNW.out,HWI.out,if_neg h]
    have HD:=hid hd
    clear HNX HBT HWI HTU HO HUN HAB hne HNW hd
    go_enter Tryz.func30,Tryz.ntmps30
    go_wp2_with fail
    refine z3m ?_
    go_upto_region 1 with (fail)
    rw [HW1.out,HRE.out]
    try rw [show B+1+1=B+2 from rfl]
    go_wp2_with ((with_reducible refine z0f HX.out ?_ ?_);rfl)
    refine hgd.mono ?_
    rintro e w2 ⟨rfl,h2⟩
    have HX2:=hid (HX.out.later h2)
    have HT2:=hid (z0b HT.out h2)
    have HZ2:=hid (HZ.out.later h2)
    have HB2:=hid (HB1.out.trans (h2.mono HB1.out.size))
    clear h2 HX HT HZ
    clear hgd
    have a14:=HX2.out.at.2.2.2.2
    have b4:=(z0k HT2.out).2.2.2.2.1
    rw [HD.out] at b4
    go_wp2_with fail
    clear a14 b4
    go_step3
    (try simp only [Exit.inBlock,Exit.then])
    refine⟨_,by rfl,?_⟩
    go_wp2_with ((with_reducible refine z0f HX2.out ?_ ?_);rfl)
    refine (HOP.out _ HB2.out).mono ?_
    rintro e w3 ⟨p3,k3,rfl,hs3,h3,_⟩
    have hs4:=hs3
    have HX3:=hid (HX2.out.later h3)
    have HT3:=hid (z0b HT2.out h3)
    have HZ3:=hid (HZ2.out.later h3)
    have HB3:=hid (HB2.out.trans (h3.mono HB2.out.size))
    clear h3 HX2 HT2 HZ2
    clear HOP
    have a0:=(z0k HT3.out).1
    have a5:=(z0k HT3.out).2.2.2.2.2.1
    have hc3:=hs3.cap
    obtain⟨n,hn⟩:∃ n,LO.length=n:=⟨_,rfl⟩
    simp only [hn] at hs3 hs4 hc3 ⊢
    have HN:=hid hn
    clear hn hs4
    by_cases hlt:t.n<n
    · have hltz:(t.n:Int)<(n:Int):=by omega
      obtain⟨b,off,rfl,_,k0,k1,k2,k3'⟩:=q1m hs3 hlt
      have hne:=HNE.out (by rw [HN.out];exact hlt)
      generalize LO.getD t.n o0=oo at *
      obtain⟨⟨ka,kb,kc⟩,d⟩:=oo
      dsimp only at k0 k1 k2 k3' hne
      have HE:Hid (N=recK 3 0 t.c.id 0 false (ka,kb,kc) d 0):=hid hne
      have hba:Below w3.heap.size w3 (w3.alloc (.cells #[.int .u8 ka,.int .u8 kb,.int .u8 kc,.int .i64 d] 105)):=(Below.refl _ _).alloc (Nat.le_refl _) _
      have ho4:=z0c w3 (.cells #[.int .u8 ka,.int .u8 kb,.int .u8 kc,.int .i64 d] 105)
      have HZ4:=hid (HZ3.out.later hba)
      have ht4:=z0b HT3.out hba
      have HB4:=hid (HB3.out.trans (hba.mono HB3.out.size))
      obtain⟨G,hG⟩:∃ G,w3.heap.size=G:=⟨_,rfl⟩
      rw [hG] at ho4
      have HG:=hid hG
      clear hba hG hs3 hne HNE HNF HX3 HT3 HZ3
      go_upto_region 16 with (fail)
      rw [HG.out]
      clear k0 k1 k2 k3' a0 a5
      generalize w3.alloc (.cells #[.int .u8 ka,.int .u8 kb,.int .u8 kc,.int .i64 d] 105)=w4 at *
      have a0:=(z0k ht4).1
      have o0:=z0a (j:=0) ho4 (v:=.int .u8 ka) rfl
      have o1:=z0a (j:=1) ho4 (v:=.int .u8 kb) rfl
      have o2:=z0a (j:=2) ho4 (v:=.int .u8 kc) rfl
      have o3:=z0a (j:=3) ho4 (v:=.int .i64 d) rfl
      clear ht4 ho4
      go_wp2_with (((with_reducible refine z1a (rvK (recK 3 0 t.c.id 0 false (ka,kb,kc) d 0)) HZ4.out ?_ ?_ ?_);rfl;rfl))
      (try simp only [Exit.inBlock,Exit.then])
      try rw [Exit.noGoto_ret]
      refine bodyPost_ret (v:=.agg (rcs (rvK (recK 3 0 t.c.id 0 false (ka,kb,kc) d 0)))) ?_ rfl ⟨by rw [HE.out],below_setRow HB4.out (by have:=HRE.out;omega) _⟩
      exact z2h rfl _ _ (B+2) _ rfl (HZ4.out.set _)
    · have hltz:¬ (t.n:Int)<(n:Int):=by omega
      have HE:Hid (N=recK 4 0 t.c.id 0 false (0,0,0) 0 0):=hid (HNF.out (by rw [HN.out];exact hlt))
      clear HNE HNF hs3
      go_wp2_with (((with_reducible refine z1a (rvK (recK 4 0 t.c.id 0 false (0,0,0) 0 0)) HZ3.out ?_ ?_ ?_);rfl;rfl))
      (try simp only [Exit.inBlock,Exit.then])
      try rw [Exit.noGoto_ret]
      refine bodyPost_ret (v:=.agg (rcs (rvK (recK 4 0 t.c.id 0 false (0,0,0) 0 0)))) ?_ rfl ⟨by rw [HE.out],below_setRow HB3.out (by have:=HRE.out;omega) _⟩
      exact z2h rfl _ _ (B+2) _ rfl (HZ3.out.set _)
  | false =>
   have heq:c.tx=0:=by simpa using q1
   cases hb:c.bk with
   | true =>
    have HBE:Hid (N=if ty then recK 2 c.sg id a c.bk (0,0,0) 0 0 else recK 9 c.sg 0 0 false (0,0,0) 0 o):=hid (by rw [HNX.out,if_neg (by omega),if_neg (by rw [hb];simp),HBT.out])
    have HBK:=hid hb
    clear HNX HBT HWI HOP HUN heq hb
    go_enter Tryz.func30,Tryz.ntmps30
    go_wp2_with fail
    refine z3m ?_
    go_upto_region 1 with (fail)
    rw [HW1.out,HRE.out]
    try rw [show B+1+1=B+2 from rfl]
    go_wp2_with ((with_reducible refine z0f HX.out ?_ ?_);rfl)
    refine hgd.mono ?_
    rintro e w2 ⟨rfl,h2⟩
    have HX2:=hid (HX.out.later h2)
    have HT2:=hid (z0b HT.out h2)
    have HZ2:=hid (HZ.out.later h2)
    have HB2:=hid (HB1.out.trans (h2.mono HB1.out.size))
    clear h2 HX HT HZ
    clear hgd
    have a14:=HX2.out.at.2.2.2.2
    have b4:=(z0k HT2.out).2.2.2.2.1
    have a11:=HX2.out.at.2.1
    rw [HBK.out] at a11
    go_wp2_with fail
    clear a14 b4 a11
    go_step3
    (try simp only [Exit.inBlock,Exit.then])
    refine⟨_,by rfl,?_⟩
    go_wp2_with ((with_reducible refine z0f HX2.out ?_ ?_);rfl)
    refine (HTU.out _ HB2.out).mono ?_
    rintro e w3 ⟨rfl,h3⟩
    have HX3:=hid (HX2.out.later h3)
    have HT3:=hid (z0b HT2.out h3)
    have HZ3:=hid (HZ2.out.later h3)
    have HB3:=hid (HB2.out.trans (h3.mono HB2.out.size))
    clear h3 HX2 HT2 HZ2
    clear HTU
    have a0:=HX3.out.at.1
    have a11:=HX3.out.at.2.1
    cases ty
    case true =>
     obtain⟨hab,hwa⟩:=HAB.out rfl
     have HE:Hid (N=recK 2 c.sg id a c.bk (0,0,0) 0 0):=hid (by rw [HBE.out];rfl)
     clear HBE HO
     go_wp2_with (((with_reducible refine z1a (rvK (recK 2 c.sg id a c.bk (0,0,0) 0 0)) HZ3.out ?_ ?_ ?_);rfl;rfl))
     (try simp only [Exit.inBlock,Exit.then])
     try rw [Exit.noGoto_ret]
     refine bodyPost_ret (v:=.agg (rcs (rvK (recK 2 c.sg id a c.bk (0,0,0) 0 0)))) ?_ rfl ⟨by rw [HE.out],below_setRow HB3.out (by have:=HRE.out;omega) _⟩
     exact z2h rfl _ _ (B+2) _ rfl (HZ3.out.set _)
    case false =>
     have HE:Hid (N=recK 9 c.sg 0 0 false (0,0,0) 0 o):=hid (by rw [HBE.out];rfl)
     clear HBE HAB a11
     go_upto_region 12 with (fail)
     have hbd:CB w3.drew B c:=HX3.out
     have HZ4:Hid (RB w3.drew (B+2) rz):=hid HZ3.out
     have HB4:Hid (Below W.heap.size W w3.drew):=hid HB3.out.drew
     refine wp_region_held_drew (S:=fun w'=>Hid (CB w' B c)) (by kernel_rfl) (hid hbd) (fun hHeld=>?_)
     clear hbd a0 HX3 HZ3 HB3 HT3
     generalize w3.drew=Wd at *
     refine wpAnyH_take (i:=0) (oi:=⟨some 57,_,_,_,_,_⟩) (v:=.pointer (some ⟨B,0,none⟩)) rfl (by kernel_rfl) (by kernel_rfl) (by kernel_rfl) (fun _ _ _ h=>h) (Or.inl ⟨by rfl,fun w' hw'=>?_⟩) (by assumption) ?_
     · clear hHeld
       go_simp
     try simp only [Act.put,sIB,sCZ,sCS]
     refine wpAnyH_take (i:=1) (oi:=⟨some 58,_,_,_,_,_⟩) (v:=.int .u32 c.sg) rfl (by kernel_rfl) (by kernel_rfl) (by kernel_rfl) (fun _ _ _ h=>h) (Or.inl ⟨by rfl,fun w' hw'=>?_⟩) (by assumption) ?_
     · have hcx:=hw'.out.at.1
       clear hHeld hw'
       go_simp
     try simp only [Act.put,sIB,sCZ,sCS]
     refine wpAnyH_take (i:=2) (oi:=⟨some 59,_,_,_,_,_⟩) (v:=.agg (ccs c)) rfl (by kernel_rfl) (by kernel_rfl) (by kernel_rfl) (fun _ _ _ h=>h) (Or.inl ⟨by rfl,fun w' hw'=>z6q rfl (Hid.out hw')⟩) (by assumption) ?_
     try simp only [Act.put,sIB,sCZ,sCS]
     refine wpAnyH_ready (rs:=[3]) (by kernel_rfl) (by simp) (AllReadyH.cons rfl (fun K hK=>?_) (AllReadyH.nil))
     go_simp
     go_wp2_with fail
     refine (HO.out _).mono ?_
     rintro e w5 ⟨rfl,h5⟩
     have hSN:Hid (CB w5 B c):=hid (hHeld.out.later h5)
     have HZ5:=hid (HZ4.out.later h5)
     have HB5:=hid (HB4.out.trans (h5.mono HB4.out.size))
     clear h5 HZ4 HB4 HO
     go_wp2_with fail
     refine hK.out _ _ hSN (fun hHeld2=>?_)
     try simp only [Act.put,sIB,sCZ,sCS]
     clear hSN hK K hHeld
     have hHeld:=hHeld2
     clear hHeld2
     refine wpAnyH_take (i:=4) (oi:=⟨some 61,_,_,_,_,_⟩) (v:=.agg #[.int .u8 9,.int .u32 c.sg,.int .u32 0,.int .u8 0,.bool false,.int .u8 0,.int .u8 0,.int .u8 0,.int .i64 0,.int .u8 o,.int .u8 0,.int .u32 0,.int .u8 0,.slice none 0 0,.slice none 0 0,.slice none 0 0,.int .u8 0,.int .u8 0,.int .u8 0,.int .i64 0]) rfl (by kernel_rfl) (by kernel_rfl) (by kernel_rfl) (fun _ _ _ h=>h) (Or.inl ⟨by rfl,fun w' hw'=>?_⟩) (by assumption) ?_
     · clear hHeld
       go_simp
     try simp only [Act.put,sIB,sCZ,sCS]
     refine wpAnyH_ready (rs:=[5]) (by kernel_rfl) (by simp) (AllReadyH.cons rfl (fun K hK=>?_) (AllReadyH.nil))
     rw [if_pos (by rfl)]
     refine wp_store_row 42 _ _ rfl (B+2) (rcs (rvK (recK 9 c.sg 0 0 false (0,0,0) 0 o))) rfl rfl 42 _ HZ5.out (by kernel_rfl) rfl (q1f _) ?_
     have HZ6:Hid (RB (w5.setRow (B+2) (rcs (rvK (recK 9 c.sg 0 0 false (0,0,0) 0 o)))) (B+2) (rvK (recK 9 c.sg 0 0 false (0,0,0) 0 o))):=hid (HZ5.out.set _)
     have hSN:Hid (CB (w5.setRow (B+2) (rcs (rvK (recK 9 c.sg 0 0 false (0,0,0) 0 o)))) B c):=hid (hHeld.out.chg (S:=fun k=>k=B+2) ⟨rfl,rfl,rfl,by simp [World.setRow],fun k _ hn=>setRow_other _ _ _ _ hn⟩ (by omega))
     have HB6:Hid (Below W.heap.size W (w5.setRow (B+2) (rcs (rvK (recK 9 c.sg 0 0 false (0,0,0) 0 o))))):=hid (below_setRow HB5.out (by have:=HRE.out;omega) _)
     clear HZ5 HB5
     generalize w5.setRow (B+2) (rcs (rvK (recK 9 c.sg 0 0 false (0,0,0) 0 o)))=w6 at *
     refine hK.out _ _ hSN (fun hHeld2=>?_)
     try simp only [Act.put,sIB,sCZ,sCS]
     clear hSN hK K hHeld
     have hHeld:=hHeld2
     clear hHeld2
     refine wpAnyH_done (by kernel_rfl) ?_ _
     clear hHeld
     go_wp2_with fail
     (try simp only [Exit.inBlock,Exit.then])
     try rw [Exit.noGoto_ret]
     refine bodyPost_ret (v:=.agg (rcs (rvK (recK 9 c.sg 0 0 false (0,0,0) 0 o)))) ?_ rfl ⟨by rw [HE.out],HB6.out⟩
     exact z2h rfl _ _ (B+2) _ rfl HZ6.out
   | false =>
    by_cases hr:retry<c.tr
    · have HE:Hid (N=recK 8 c.sg 0 0 false (0,0,0) 0 0):=hid (by rw [HNX.out,if_neg (by omega),if_pos ⟨hb,hr⟩])
      have HBK:=hid hb
      clear HNX HBT HWI HOP HUN HTU HO HAB heq hb
      go_enter Tryz.func30,Tryz.ntmps30
      go_wp2_with fail
      refine z3m ?_
      go_upto_region 1 with (fail)
      rw [HW1.out,HRE.out]
      try rw [show B+1+1=B+2 from rfl]
      go_wp2_with ((with_reducible refine z0f HX.out ?_ ?_);rfl)
      refine hgd.mono ?_
      rintro e w2 ⟨rfl,h2⟩
      have HX2:=hid (HX.out.later h2)
      have HT2:=hid (z0b HT.out h2)
      have HZ2:=hid (HZ.out.later h2)
      have HB2:=hid (HB1.out.trans (h2.mono HB1.out.size))
      clear h2 HX HT HZ
      clear hgd
      have a14:=HX2.out.at.2.2.2.2
      have b4:=(z0k HT2.out).2.2.2.2.1
      obtain⟨a0,a11,a12,a13,_⟩:=HX2.out.at
      rw [HBK.out] at a11
      go_wp2_with (((with_reducible refine z1a (rvK (recK 8 c.sg 0 0 false (0,0,0) 0 0)) HZ2.out ?_ ?_ ?_);rfl;rfl))
      (try simp only [Exit.inBlock,Exit.then])
      try rw [z8i]
      refine bodyPost_ret (v:=.agg (rcs (rvK (recK 8 c.sg 0 0 false (0,0,0) 0 0)))) ?_ rfl ⟨by rw [HE.out],below_setRow HB2.out (by have:=HRE.out;omega) _⟩
      exact z2h rfl _ _ (B+2) _ rfl (HZ2.out.set _)
    · have HBE:Hid (N=if ty then recK 2 c.sg id a c.bk (0,0,0) 0 0 else recK 9 c.sg 0 0 false (0,0,0) 0 o):=hid (by rw [HNX.out,if_neg (by omega),if_neg (fun h=>hr h.2),HBT.out])
      have HBK:=hid hb
      clear HNX HBT HWI HOP HUN heq hb
      go_enter Tryz.func30,Tryz.ntmps30
      go_wp2_with fail
      refine z3m ?_
      go_upto_region 1 with (fail)
      rw [HW1.out,HRE.out]
      try rw [show B+1+1=B+2 from rfl]
      go_wp2_with ((with_reducible refine z0f HX.out ?_ ?_);rfl)
      refine hgd.mono ?_
      rintro e w2 ⟨rfl,h2⟩
      have HX2:=hid (HX.out.later h2)
      have HT2:=hid (z0b HT.out h2)
      have HZ2:=hid (HZ.out.later h2)
      have HB2:=hid (HB1.out.trans (h2.mono HB1.out.size))
      clear h2 HX HT HZ
      clear hgd
      have a14:=HX2.out.at.2.2.2.2
      have b4:=(z0k HT2.out).2.2.2.2.1
      obtain⟨a0,a11,a12,a13,_⟩:=HX2.out.at
      rw [HBK.out] at a11
      go_wp2_with fail
      clear a14 b4 a0 a11 a12 a13
      go_step3
      go_wp2_with ((with_reducible refine z0f HX2.out ?_ ?_);rfl)
      refine (HTU.out _ HB2.out).mono ?_
      rintro e w3 ⟨rfl,h3⟩
      have HX3:=hid (HX2.out.later h3)
      have HT3:=hid (z0b HT2.out h3)
      have HZ3:=hid (HZ2.out.later h3)
      have HB3:=hid (HB2.out.trans (h3.mono HB2.out.size))
      clear h3 HX2 HT2 HZ2
      clear HTU
      have a0:=HX3.out.at.1
      have a11:=HX3.out.at.2.1
      cases ty
      case true =>
       obtain⟨hab,hwa⟩:=HAB.out rfl
       have HE:Hid (N=recK 2 c.sg id a c.bk (0,0,0) 0 0):=hid (by rw [HBE.out];rfl)
       clear HBE HO
       go_wp2_with (((with_reducible refine z1a (rvK (recK 2 c.sg id a c.bk (0,0,0) 0 0)) HZ3.out ?_ ?_ ?_);rfl;rfl))
       (try simp only [Exit.inBlock,Exit.then])
       try rw [z8i]
       refine bodyPost_ret (v:=.agg (rcs (rvK (recK 2 c.sg id a c.bk (0,0,0) 0 0)))) ?_ rfl ⟨by rw [HE.out],below_setRow HB3.out (by have:=HRE.out;omega) _⟩
       exact z2h rfl _ _ (B+2) _ rfl (HZ3.out.set _)
      case false =>
       have HE:Hid (N=recK 9 c.sg 0 0 false (0,0,0) 0 o):=hid (by rw [HBE.out];rfl)
       clear HBE HAB a11
       go_upto_region 12 with (fail)
       have hbd:CB w3.drew B c:=HX3.out
       have HZ4:Hid (RB w3.drew (B+2) rz):=hid HZ3.out
       have HB4:Hid (Below W.heap.size W w3.drew):=hid HB3.out.drew
       refine wp_region_held_drew (S:=fun w'=>Hid (CB w' B c)) (by kernel_rfl) (hid hbd) (fun hHeld=>?_)
       clear hbd a0 HX3 HZ3 HB3 HT3
       generalize w3.drew=Wd at *
       refine wpAnyH_take (i:=0) (oi:=⟨some 57,_,_,_,_,_⟩) (v:=.pointer (some ⟨B,0,none⟩)) rfl (by kernel_rfl) (by kernel_rfl) (by kernel_rfl) (fun _ _ _ h=>h) (Or.inl ⟨by rfl,fun w' hw'=>?_⟩) (by assumption) ?_
       · clear hHeld
         go_simp
       try simp only [Act.put,sIB,sCZ,sCS]
       refine wpAnyH_take (i:=1) (oi:=⟨some 58,_,_,_,_,_⟩) (v:=.int .u32 c.sg) rfl (by kernel_rfl) (by kernel_rfl) (by kernel_rfl) (fun _ _ _ h=>h) (Or.inl ⟨by rfl,fun w' hw'=>?_⟩) (by assumption) ?_
       · have hcx:=hw'.out.at.1
         clear hHeld hw'
         go_simp
       try simp only [Act.put,sIB,sCZ,sCS]
       refine wpAnyH_take (i:=2) (oi:=⟨some 59,_,_,_,_,_⟩) (v:=.agg (ccs c)) rfl (by kernel_rfl) (by kernel_rfl) (by kernel_rfl) (fun _ _ _ h=>h) (Or.inl ⟨by rfl,fun w' hw'=>z6q rfl (Hid.out hw')⟩) (by assumption) ?_
       try simp only [Act.put,sIB,sCZ,sCS]
       refine wpAnyH_ready (rs:=[3]) (by kernel_rfl) (by simp) (AllReadyH.cons rfl (fun K hK=>?_) (AllReadyH.nil))
       go_simp
       go_wp2_with fail
       refine (HO.out _).mono ?_
       rintro e w5 ⟨rfl,h5⟩
       have hSN:Hid (CB w5 B c):=hid (hHeld.out.later h5)
       have HZ5:=hid (HZ4.out.later h5)
       have HB5:=hid (HB4.out.trans (h5.mono HB4.out.size))
       clear h5 HZ4 HB4 HO
       go_wp2_with fail
       refine hK.out _ _ hSN (fun hHeld2=>?_)
       try simp only [Act.put,sIB,sCZ,sCS]
       clear hSN hK K hHeld
       have hHeld:=hHeld2
       clear hHeld2
       refine wpAnyH_take (i:=4) (oi:=⟨some 61,_,_,_,_,_⟩) (v:=.agg #[.int .u8 9,.int .u32 c.sg,.int .u32 0,.int .u8 0,.bool false,.int .u8 0,.int .u8 0,.int .u8 0,.int .i64 0,.int .u8 o,.int .u8 0,.int .u32 0,.int .u8 0,.slice none 0 0,.slice none 0 0,.slice none 0 0,.int .u8 0,.int .u8 0,.int .u8 0,.int .i64 0]) rfl (by kernel_rfl) (by kernel_rfl) (by kernel_rfl) (fun _ _ _ h=>h) (Or.inl ⟨by rfl,fun w' hw'=>?_⟩) (by assumption) ?_
       · clear hHeld
         go_simp
       try simp only [Act.put,sIB,sCZ,sCS]
       refine wpAnyH_ready (rs:=[5]) (by kernel_rfl) (by simp) (AllReadyH.cons rfl (fun K hK=>?_) (AllReadyH.nil))
       rw [if_pos (by rfl)]
       refine wp_store_row 42 _ _ rfl (B+2) (rcs (rvK (recK 9 c.sg 0 0 false (0,0,0) 0 o))) rfl rfl 42 _ HZ5.out (by kernel_rfl) rfl (q1f _) ?_
       have HZ6:Hid (RB (w5.setRow (B+2) (rcs (rvK (recK 9 c.sg 0 0 false (0,0,0) 0 o)))) (B+2) (rvK (recK 9 c.sg 0 0 false (0,0,0) 0 o))):=hid (HZ5.out.set _)
       have hSN:Hid (CB (w5.setRow (B+2) (rcs (rvK (recK 9 c.sg 0 0 false (0,0,0) 0 o)))) B c):=hid (hHeld.out.chg (S:=fun k=>k=B+2) ⟨rfl,rfl,rfl,by simp [World.setRow],fun k _ hn=>setRow_other _ _ _ _ hn⟩ (by omega))
       have HB6:Hid (Below W.heap.size W (w5.setRow (B+2) (rcs (rvK (recK 9 c.sg 0 0 false (0,0,0) 0 o))))):=hid (below_setRow HB5.out (by have:=HRE.out;omega) _)
       clear HZ5 HB5
       generalize w5.setRow (B+2) (rcs (rvK (recK 9 c.sg 0 0 false (0,0,0) 0 o)))=w6 at *
       refine hK.out _ _ hSN (fun hHeld2=>?_)
       try simp only [Act.put,sIB,sCZ,sCS]
       clear hSN hK K hHeld
       have hHeld:=hHeld2
       clear hHeld2
       refine wpAnyH_done (by kernel_rfl) ?_ _
       clear hHeld
       go_wp2_with fail
       (try simp only [Exit.inBlock,Exit.then])
       try rw [z8i]
       refine bodyPost_ret (v:=.agg (rcs (rvK (recK 9 c.sg 0 0 false (0,0,0) 0 o)))) ?_ rfl ⟨by rw [HE.out],HB6.out⟩
       exact z2h rfl _ _ (B+2) _ rfl HZ6.out
theorem cr_new0 (w:World) (c:Cv):CB ((w.alloc (.cells #[.int .u32 0,.int .u8 0,.int .u32 0,.int .u8 0,.slice none 0 0,.slice none 0 0,.slice none 0 0,.int .u8 0,.int .u8 0,.int .u8 0,.int .i64 0,.bool false,.int .i64 0,.int .i64 0,.int .u32 0] 34)).setRow w.heap.size (ccs c)) w.heap.size c∧Below w.heap.size w ((w.alloc (.cells #[.int .u32 0,.int .u8 0,.int .u32 0,.int .u8 0,.slice none 0 0,.slice none 0 0,.slice none 0 0,.int .u8 0,.int .u8 0,.int .u8 0,.int .i64 0,.bool false,.int .i64 0,.int .i64 0,.int .u32 0] 34)).setRow w.heap.size (ccs c)) :=
 ⟨(CB.new w cz).set c,below_setRow ((Below.refl _ _).alloc (Nat.le_refl _) _) (Nat.le_refl _) _⟩
theorem rc_new0 (w:World) (r:Rv):RB ((w.alloc (.cells #[.int .u8 0,.int .u32 0,.int .u32 0,.int .u8 0,.bool false,.int .u8 0,.int .u8 0,.int .u8 0,.int .i64 0,.int .u8 0,.int .u8 0,.int .u32 0,.int .u8 0,.slice none 0 0,.slice none 0 0,.slice none 0 0,.int .u8 0,.int .u8 0,.int .u8 0,.int .i64 0] 42)).setRow w.heap.size (rcs r)) w.heap.size r∧Below w.heap.size w ((w.alloc (.cells #[.int .u8 0,.int .u32 0,.int .u32 0,.int .u8 0,.bool false,.int .u8 0,.int .u8 0,.int .u8 0,.int .i64 0,.int .u8 0,.int .u8 0,.int .u32 0,.int .u8 0,.slice none 0 0,.slice none 0 0,.slice none 0 0,.int .u8 0,.int .u8 0,.int .u8 0,.int .i64 0] 42)).setRow w.heap.size (rcs r)) :=
 ⟨(RB.new w rz).set r,below_setRow ((Below.refl _ _).alloc (Nat.le_refl _) _) (Nat.le_refl _) _⟩
end Go.Proofs.YtclbkfpbdidaiaaGreatDoor
namespace Go.Proofs.YtclbkfpbdidaiaaGreatDoor
open Go.Lib (hid)
set_option maxHeartbeats 16000000
open Go.RowKit
set_option linter.unusedVariables false
set_option linter.unusedSimpArgs false
set_option maxRecDepth 10000
def q3m (n:Nat):Int:=28+22*(n:Int)
def q3q (n:Nat):Int:=39+44*(n:Int)
def z8s (s:Stp):Int:=q3m (opsT s).length
def z6a (s:Stp):Int:=q3q (opsT s).length
def z1i:List Stp→Int
 | []=>0
 | s::S=>z8s s+z1i S
def z4m (S:List Stp):Int:=S.foldl (fun m s=>if m<z6a s then z6a s else m) 0
theorem passL_app (A B:List Stp):z1i (A++B)=z1i A+z1i B:=by
 induction A with
 | nil=>simp [z1i]
 | cons s A ih=>simp only [List.cons_append,z1i,ih];omega
theorem passL_one (S:List Stp) (j:Nat) (h:j<S.length):z1i (S.take (j+1))=z1i (S.take j)+z8s (S.getD j (0,0,[])):=by
 rw [List.take_add_one,List.getElem?_eq_getElem h,passL_app]
 simp [z1i,List.getD,List.getElem?_eq_getElem h]
theorem z1f (S:List Stp):0≤z1i S:=by
 induction S with
 | nil=>exact Int.le_refl 0
 | cons s A ih=>simp only [z1i,z8s,q3m];omega
theorem z7h (S:List Stp) (j:Nat):z1i S=z1i (S.take j)+z1i (S.drop j):=by
 rw [← passL_app,List.take_append_drop]
theorem passL_at (S:List Stp) (j:Nat) (h:j<S.length):z1i (S.drop j)=z8s (S.getD j (0,0,[]))+z1i (S.drop (j+1)):=by
 rw [List.drop_eq_getElem_cons h]
 simp [z1i,List.getD,List.getElem?_eq_getElem h]
theorem take_end (S:List Stp) (j:Nat) (h:j<S.length):S.take (j+1)=S.take j ++ [S.getD j (0,0,[])]:=by
 rw [List.take_add_one,List.getElem?_eq_getElem h]
 simp [List.getD,List.getElem?_eq_getElem h]
theorem q0h (S:List Stp) (j:Nat) (h:j<S.length):z4m (S.take (j+1))=if z4m (S.take j)<z6a (S.getD j (0,0,[])) then z6a (S.getD j (0,0,[])) else z4m (S.take j):=by
 rw [take_end S j h]
 unfold z4m
 rw [List.foldl_append]
 rfl
theorem q2a (S:List Stp):∀ j,j≤S.length→0≤z4m (S.take j)∧∀ i,i<j→z6a (S.getD i (0,0,[]))≤z4m (S.take j):=by
 intro j
 induction j with
 | zero=>intro _;exact⟨by simp [z4m],fun i h=>by omega⟩
 | succ j ih =>
  intro hj
  obtain⟨h1,h2⟩:=ih (by omega)
  rw [q0h S j (by omega)]
  refine⟨by split <;> omega,fun i hi=>?_⟩
  rcases (by omega:i=j∨i<j) with rfl | h
  · split <;> omega
  · have:=h2 i h
    split <;> omega
theorem failL_le (S:List Stp) (b:Int) (hb:0≤b) (h:∀ s∈S,z6a s≤b):∀ j,j≤S.length→z4m (S.take j)≤b:=by
 intro j
 induction j with
 | zero=>intro _;simpa [z4m] using hb
 | succ j ih =>
  intro hj
  have h1:=ih (by omega)
  have h2:=h (S.getD j (0,0,[])) (by rw [List.getD,List.getElem?_eq_getElem (by omega)];exact List.getElem_mem _)
  rw [q0h S j (by omega)]
  split <;> omega
theorem z6s (S:List Stp):z4m (S.take S.length)=z4m S:=by rw [List.take_length]
theorem opsS_fine {s:Stp} (h:z3w s):(opsS s.1 s.2.1 s.2.2).length≤6:=(good_counts h.1 ⟨h.2.2.1.1,h.2.2.1.2⟩ h.2.2.2.1).2.2.2
theorem passL_le (S:List Stp) (h:∀ s∈S,z3w s):z1i S≤160*(S.length:Int):=by
 induction S with
 | nil=>simp [z1i]
 | cons s A ih =>
  have h1:=ih fun t ht=>h t (List.mem_cons.2 (.inr ht))
  have h2:=opsS_fine (h s (List.mem_cons.2 (.inl rfl)))
  simp only [z1i,z8s,q3m,opsT,List.length_cons]
  omega
theorem q1z {s:Stp} (h:z3w s):z6a s≤303:=by
 have:=opsS_fine h
 unfold z6a q3q opsT
 omega
def q0q (retry:Int):Int:=if retry<0 then 0 else if 4<retry then 4 else retry
def thrC (c:Crs) (retry:Int):Int:=if c.tr≤q0q retry then q0q retry+1-c.tr else 0
def attP (P:Pg):Int:=z4m (z0h P)
def z2q (c:Crs) (retry:Int):Int :=
 if z2s c=false then 0
 else if c.bk then z1i ((z0h c.P).take c.st.toNat)+12
 else z1i ((z0h c.P).drop c.st.toNat)+thrC c retry*attP c.P+11+z1i (z0h c.P)+12
def allC (c:Crs) (dd:Bool) (retry:Int):Int:=z2q c retry+attP c.P+(if dd=true∧c.bk=false then attP c.P else 0)
def z1p (c:Crs) (dd:Bool) (sz retry:Int):Int :=
 if z2s c=false then 0
 else if c.tx=0 then z2q c retry+attP c.P
 else if allC c dd retry≤sz then 0 else allC c dd retry-sz
def crs0 (P:Pg):Crs:=⟨1,P,false,0,0,0⟩
def z4i (P:Pg) (retry:Int):Int:=if z0l 4 4 P=true then z0z (x1st P)+z1p (crs0 P) false 0 retry else 0
theorem z2k {X:Rx} (h:z1q X=true) (hk:X.k≠1):z0z X=q4e X.k:=by
 have hko:=z8g h
 have h1:q4e X.k=6+(lenK X.k:Int):=if_pos ⟨hko,hk⟩
 have h2:z0z X=6+((z0o X).length:Int):=if_pos h
 rw [h1,h2,z3h hko,if_neg hk]
 rfl
theorem crs0_good {P:Pg} (hg:z0l 4 4 P=true):z2s (crs0 P)=true:=by
 refine goodC_of (show (1:Int)≠0 by decide) hg (Int.le_refl 0) ?_ (Int.le_refl 0)
 show (0:Int)≤lenC (crs0 P)
 unfold lenC
 omega
theorem z8e {P:Pg} (hg:z0l 4 4 P=true) {dd:Bool} {sz retry:Int}:z1p (crs0 P) dd sz retry=z2q (crs0 P) retry+attP P:=by
 have hgc:=crs0_good hg
 unfold z1p
 rw [if_neg (by rw [hgc];simp)]
 exact if_pos rfl
end Go.Proofs.YtclbkfpbdidaiaaGreatDoor
