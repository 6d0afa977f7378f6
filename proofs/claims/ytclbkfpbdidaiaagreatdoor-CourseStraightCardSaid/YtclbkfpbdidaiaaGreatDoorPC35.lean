import Derived.Test.YtclbkfpbdidaiaaGreatDoorPC99
import Derived.Test.YtclbkfpbdidaiaaGreatDoorPC34
import Derived.Test.YtclbkfpbdidaiaaGreatDoorPC29
import Derived.Test.YtclbkfpbdidaiaaGreatDoorPC37
namespace Go.Proofs.YtclbkfpbdidaiaaGreatDoor
open Go.Lib (hid)
set_option maxHeartbeats 16000000
open Go.RowKit Go.ChangeShapes Go.WideShapes
set_option linter.unusedVariables false
set_option linter.unusedSimpArgs false
set_option maxRecDepth 10000
theorem gives_no {W w:World} (hb:Below W.heap.size W w):z5n W [] (.returned (.slice none 0 0)) w:=⟨none,0,rfl,SlG.empty _,hb,fun _ h=>by cases h⟩
theorem givesO_since {W W2:World} {V:List O} {e:Ending} {w':World} (h:z5n W2 V e w') (hb:Below W.heap.size W W2):z5n W V e w':=GivesG.since h hb
theorem z9t {c:Crs} (hg:z3c c=true) (hok:Pgok c.P) (ht:(z1u c).2=true):∃ i:Nat,(z1u c).1=(i:Int)∧i<(z0k c.P).length∧stpC c=(z0k c.P).getD i stp0∧z9i (stpC c):=by
 obtain⟨_,g2,g3,g4,_⟩:=z2x hg
 have hi:0≤(z1u c).1∧(z1u c).1<((z0k c.P).length:Int):=by
  unfold z1u lenC at *
  split at ht
  · rename_i h
    simp only [if_pos h,decide_eq_true_eq] at ht ⊢
    omega
  · rename_i h
    simp only [if_neg h,decide_eq_true_eq] at ht ⊢
    omega
 have hlt:(z1u c).1.toNat<(z0k c.P).length:=by omega
 refine⟨(z1u c).1.toNat,by omega,hlt,rfl,(z1r g2 hok).2 _ ?_⟩
 unfold stpC
 rw [List.getD,List.getElem?_eq_getElem hlt]
 exact List.getElem_mem _
theorem cr_ops (c:Cv) (L:List Ln) (T:List Tk) (M:List Ln) (W:World) (hw:Words W) (hP:CvM W c L T M) (hok:Crok (c.x L T M)) (h1:c.p.ln≤400∧c.p.tn≤400∧c.p.wn≤400):Calls Tryz.prog 67 #[.agg (ccs c)] W (z5n W (opsC (c.x L T M))):=by
 obtain⟨W1,hW1,hx,hb1⟩:∃ W1,W.alloc (.cells (ccs c) 34)=W1∧CB W1 W.heap.size c∧Below W.heap.size W W1:=⟨_,rfl,CB.new W c,(Below.refl _ _).alloc (Nat.le_refl _) _⟩
 obtain⟨B,hB⟩:∃ B,W.heap.size=B:=⟨_,rfl⟩
 rw [hB] at hx
 have HX:=hid hx
 have HW1:=hid hW1
 have HB1:=hid hb1
 have HRE:=hid hB
 have hgd:=q1j c L T M W1 (hw.later hb1) (hP.later hb1) hok h1
 cases hg:z3c (c.x L T M) with
 | false =>
  rw [hg] at hgd
  have HE:Hid (opsC (c.x L T M)=[]):=hid (by unfold opsC;rw [if_pos (.inl hg)])
  clear hW1 hx hb1 hB hw hP hok h1 hg
  go_enter Tryz.func67,Tryz.ntmps67
  go_upto_region 1 with (fail)
  rw [HW1.out,HRE.out]
  go_wp2_with ((with_reducible refine z0f HX.out ?_ ?_);rfl)
  refine hgd.mono ?_
  rintro e w2 ⟨rfl,h2⟩
  have HB2:=hid (HB1.out.trans (h2.mono HB1.out.size))
  clear h2 hgd
  go_wp2_with fail
  go_ret
  rw [HE.out]
  exact gives_no HB2.out
 | true =>
  rw [hg] at hgd
  have HTU:=hid fun w' (hb:Below W1.heap.size W1 w')=>q1i c L T M w' (hw.later (hb1.trans (hb.mono hb1.size))) ((hP.later hb1).later hb) hok h1 hg
  have HBK:Hid ((z1u (c.x L T M)).2=true→opsC (c.x L T M)=if c.bk then negF (opsT (stpC (c.x L T M))) else opsT (stpC (c.x L T M))):=hid fun h=>by unfold opsC;rw [if_neg (by simp [hg,h])];rfl
  have HNO:Hid ((z1u (c.x L T M)).2=false→opsC (c.x L T M)=[]):=hid fun h=>by unfold opsC;rw [if_pos (.inr h)]
  have HAT:=hid (fun h=>z9t (c:=c.x L T M) hg hok.P h)
  have HS:Hid (∀ w',Below W1.heap.size W1 w'→Calls Tryz.prog 48 #[.agg #[.int .u8 c.p.pk,.int .u32 c.p.od,.int .u8 c.p.po,.slice c.p.lp c.p.ln c.p.lcp,.slice c.p.tp c.p.tn c.p.tcp,.slice c.p.wp c.p.wn c.p.wcp,.int .u8 c.p.sk,.int .u8 c.p.fr,.int .u8 c.p.to,.int .i64 c.p.q]] w' (GivesS w' (z0k (c.p.pg L T M)))):=hid fun w' hb=>q0y c.p.pk c.p.od c.p.po c.p.lp c.p.ln c.p.lcp c.p.tp c.p.tn c.p.tcp c.p.wp c.p.wn c.p.wcp c.p.sk c.p.fr c.p.to c.p.q L T M w' (hw.later (hb1.trans (hb.mono hb1.size))) ((hP.later hb1).later hb) hok.P h1
  have HXP:Hid ((c.x L T M).P=c.p.pg L T M):=hid rfl
  clear hW1 hx hb1 hB hw hP hok h1 hg
  generalize c.x L T M=X at *
  generalize c.p.pg L T M=P at *
  rw [HXP.out] at HAT
  clear HXP
  obtain⟨y,hy⟩:∃ y,(z1u X).2=y:=⟨_,rfl⟩
  rw [hy] at HTU HBK HNO HAT
  clear hy
  cases y with
  | false =>
   go_enter Tryz.func67,Tryz.ntmps67
   go_upto_region 1 with (fail)
   rw [HW1.out,HRE.out]
   go_wp2_with ((with_reducible refine z0f HX.out ?_ ?_);rfl)
   refine hgd.mono ?_
   rintro e w2 ⟨rfl,h2⟩
   have HX2:=hid (HX.out.later h2)
   have HB2:=hid h2
   clear h2 hgd
   go_wp2_with ((with_reducible refine z0f HX2.out ?_ ?_);rfl)
   refine (HTU.out _ HB2.out).mono ?_
   rintro e w3 ⟨rfl,h3⟩
   have HB3:=hid (HB2.out.trans (h3.mono HB2.out.size))
   clear h3
   go_wp2_with fail
   go_ret
   rw [HNO.out (by first | rfl | trivial)]
   exact gives_no (HB1.out.trans (HB3.out.mono HB1.out.size))
  | true =>
   obtain⟨i,hi1,hi2,hi3,hf⟩:=HAT.out rfl
   have hbk:=HBK.out rfl
   rw [hi3] at hf hbk
   rw [hi1] at HTU
   have HBY:=hid hbk
   have HFI:=hid hf
   clear HAT HBK HNO hi1 hi3 hf hbk
   obtain⟨n,hn⟩:∃ n,(z0k P).length=n:=⟨_,rfl⟩
   rw [hn] at hi2
   have HN:=hid hn
   clear hn
   go_enter Tryz.func67,Tryz.ntmps67
   go_upto_region 1 with (fail)
   rw [HW1.out,HRE.out]
   go_wp2_with ((with_reducible refine z0f HX.out ?_ ?_);rfl)
   refine hgd.mono ?_
   rintro e w2 ⟨rfl,h2⟩
   have HX2:=hid (HX.out.later h2)
   have HB2:=hid h2
   clear h2 hgd
   go_wp2_with ((with_reducible refine z0f HX2.out ?_ ?_);rfl)
   refine (HTU.out _ HB2.out).mono ?_
   rintro e w3 ⟨rfl,h3⟩
   have HX3:=hid (HX2.out.later h3)
   have HB3:=hid (HB2.out.trans (h3.mono HB2.out.size))
   clear h3
   go_wp2_with ((with_reducible refine wpList_load_cp HX3.out ?_ ?_);rfl)
   refine (HS.out _ HB3.out).mono ?_
   rintro e w4 ⟨p4,c4,H4,rfl,hs4,h4⟩
   have HX4:=hid (HX3.out.later h4)
   have HB4:=hid (HB3.out.trans (h4.mono HB3.out.size))
   simp only [HN.out] at hs4 ⊢
   have hc4:=hs4.row.cap
   obtain⟨b,off,rfl,_,k0,k1,k2⟩:=z7r hs4.row hi2
   obtain⟨t1,t2,t3⟩:=hs4.tells.at i (by rw [hs4.row.len];exact hi2)
   rw [t1] at k0
   rw [t2] at k1
   rw [show (z0k P).getD i stp0=(z0k P).getD i (0,0,[]) from rfl] at HBY HFI
   generalize (z0k P).getD i (0,0,[])=sj at *
   obtain⟨ts,rs,Lq⟩:=sj
   generalize H4.getD i hs0=hd at *
   obtain⟨y1,y2,ip,il,ic⟩:=hd
   dsimp only at k0 k1 k2 t1 t2 t3
   obtain⟨f1,f2,f3,f4,f5⟩:=HFI.out
   dsimp only at f1 f2 f3 f4 f5
   have hl1:=t3.len
   have hba:Below w4.heap.size w4 (w4.alloc (.cells #[.int .u8 ts,.int .u8 rs,.slice ip il ic] 52)):=(Below.refl _ _).alloc (Nat.le_refl _) _
   have HOP:=hid (ops_any ts rs ip il ic Lq (w4.alloc (.cells #[.int .u8 ts,.int .u8 rs,.slice ip il ic] 52)) (t3.later hba) f4 (by omega))
   have HUN:=hid (undo_any ts rs ip il ic Lq (w4.alloc (.cells #[.int .u8 ts,.int .u8 rs,.slice ip il ic] 52)) (t3.later hba) f4 f3 (by omega))
   have a11:=(HX4.out.later hba).at.2.1
   have HB5:=hid (HB1.out.trans ((HB4.out.trans (hba.mono HB4.out.size)).mono HB1.out.size))
   clear t1 t2 t3 f1 f2 f3 f4 f5 hl1 hba hs4 h4 HFI HS HTU
   cases hbk:c.bk
   all_goals
    rw [hbk] at a11 HBY
    have HBZ:=HBY.out
    first | rw [if_pos rfl] at HBZ | rw [if_neg (by simp)] at HBZ
    have HBW:=hid HBZ
    clear HBZ HBY
    go_wp2_with fail
    first | refine HOP.out.mono ?_ | refine HUN.out.mono ?_
    intro e w6 h6
    have h7:=givesO_since h6 HB5.out
    obtain⟨p6,c6,rfl,h8⟩:=h7
    have H8:=hid h8
    clear h8 h6
    go_wp2_with fail
    go_ret
    rw [HBW.out]
    exact⟨p6,c6,rfl,H8.out⟩
end Go.Proofs.YtclbkfpbdidaiaaGreatDoor
namespace Go.Proofs.YtclbkfpbdidaiaaGreatDoor
open Go.Lib (hid)
set_option maxHeartbeats 16000000
open Go.RowKit
set_option linter.unusedVariables false
set_option linter.unusedSimpArgs false
set_option maxRecDepth 10000
theorem z5r {k sg tx st d o:Int} {cp:Bool} {key:K} (h1:0≤k∧k≤255) (h2:0≤sg∧sg≤4294967295) (h3:0≤tx∧tx≤4294967295) (h4:0≤st∧st≤255) (h5:Kok key) (h6:In64 d) (h7:0≤o∧o≤255):Rxok (recK k sg tx st cp key d o):=⟨h1,h2,h3,h4,h5,h6,h7,noP_ok⟩
theorem k000:Kok (0,0,0):=⟨by decide,by decide,by decide⟩
theorem in0:In64 0:=by unfold In64;decide
theorem opsC_ok {c:Crs} (hok:Pgok c.P):∀ o∈opsC c,FineO o:=by
 intro o ho
 unfold opsC at ho
 split at ho
 · cases ho
 · rename_i h
   have hg:z3c c=true:=by
    cases hg:z3c c with
    | true=>rfl
    | false=>exact absurd (.inl hg) h
   have ht:(z1u c).2=true:=by
    cases ht:(z1u c).2 with
    | true=>rfl
    | false=>exact absurd (.inr ht) h
   obtain⟨i,_,_,_,hf⟩:=z9t hg hok ht
   split at ho
   · exact neg_fine (z6a hf) o ho
   · exact z6a hf o ho
theorem lastC_ok {t:Tc} (h:∀ o∈t.dn,Ook o):Kok (z2r t).1.1∧In64 (z2r t).1.2:=by
 rcases Nat.eq_zero_or_pos t.dn.length with e | e
 · rw [z5t e]
   exact⟨k000,in0⟩
 · obtain⟨q,hq⟩:∃ q,t.dn.length=q+1:=⟨t.dn.length-1,by omega⟩
   have ho:=h _ (z6f t.dn q (by omega))
   rw [z8o hq]
   split
   · exact⟨k000,in0⟩
   · refine⟨ho.1,?_⟩
     have h2:=ho.2
     unfold In64 at h2 ⊢
     simp only
     omega
theorem nextC_ok {c:Crs} {t:Tc} {R id:Int} (hc:Crok c) (ht:Tcok t) (hiQ:0≤id∧id≤4294967295):Rxok (z2d c t R id):=by
 unfold z2d
 split
 · exact⟨by decide,by decide,by decide,by decide,k000,in0,by decide,noP_ok⟩
 rename_i hg
 have hg':z3c c=true:=by simpa using hg
 have hl:=z5s hg' hc.P
 obtain⟨_,_,g3,g4,_⟩:=z2x hg'
 split
 · split
   · unfold z6i
     split
     · exact z5r (by decide) (by decide) ht.id (by decide) (lastC_ok ht.dn).1 (lastC_ok ht.dn).2 (by decide)
     · exact z5r (by decide) (by decide) ht.id (by decide) k000 in0 (by decide)
   · unfold z3j
     split
     · rename_i hlt
       have hf:=opsC_ok hc.P _ (z6f (opsC c) t.dn.length hlt)
       exact z5r (by decide) (by decide) ht.id (by decide) hf.kok (by unfold In64;have:=hf.lo;have:=hf.hi;omega) (by decide)
     · exact z5r (by decide) (by decide) ht.id (by decide) k000 in0 (by decide)
 · split
   · exact z5r (by decide) hc.sg (by decide) (by decide) k000 in0 (by decide)
   · unfold z5i
     split
     · rename_i htn
       refine z5r (by decide) hc.sg hiQ ?_ k000 in0 (by decide)
       obtain⟨i,hi,hlt,_⟩:=z9t hg' hc.P htn
       have:((z0k c.P).length:Int)≤5:=hl.2
       omega
     · refine z5r (by decide) hc.sg (by decide) (by decide) k000 in0 ?_
       unfold outC
       split <;> decide
theorem si_crok {P:Pg} {R:Int} (hok:Pgok P) (hg:z0l 4 4 P=true) (hR:0≤R∧R≤4) {c:Crs} {M:List Tc} {m:Int} (h:SI P R c M m):Crok c:=by
 have hn5:lenA P≤5:=by
  have:=(z1r hg hok).1
  unfold lenA
  omega
 cases h with
 | free s tr h ht=>exact⟨by simp only;omega,hok,by unfold In64;simp only;omega,by unfold In64;simp only;omega,by simp only;omega⟩
 | op s tr id2 sz k h ht hid2 hk=>exact⟨by simp only;omega,hok,by unfold In64;simp only;omega,by unfold In64;simp only;omega,by simp only;omega⟩
 | dead s tr id2 sz k h ht hid2 hk=>exact⟨by simp only;omega,hok,by unfold In64;simp only;omega,by unfold In64;simp only;omega,by simp only;omega⟩
 | back s h=>exact⟨by simp only;omega,hok,by unfold In64;simp only;omega,by unfold In64;simp only;omega,by simp only;omega⟩
 | undo s id2 sz k h hid2 hk=>exact⟨by simp only;omega,hok,by unfold In64;simp only;omega,by unfold In64;simp only;omega,by simp only;omega⟩
theorem si_pos {P:Pg} {R:Int} (hok:Pgok P) (hg:z0l 4 4 P=true) (hR:0≤R∧R≤4) {c:Crs} {M:List Tc} {m:Int} (h:SI P R c M m):0≤m:=by
 have hn5:1≤lenA P∧lenA P≤5:=by
  have:=(z1r hg hok).1
  unfold lenA
  omega
 cases h with
 | free s tr h ht=>omega
 | op s tr id2 sz k h ht hid2 hk =>
  have:=z7b (z4k hg hok h)
  omega
 | dead s tr id2 sz k h ht hid2 hk=>omega
 | back s h=>omega
 | undo s id2 sz k h hid2 hk =>
  have:=z7b (z4k hg hok (s:=s-1) ⟨by omega,by omega⟩)
  have h2:(negF (opsT (stpA P (s-1)))).length≤6:=by
   unfold negF
   rw [List.length_reverse,List.length_map]
   exact this
  omega
def z4d (K:List Bool) (i:Nat):Bool:=K.getD i false
def cntK (H:List Rx) (k:Int):Nat:=H.countP fun X=>X.k==k
theorem z8e (H:List Rx) (X:Rx) (k:Int):cntK (H ++ [X]) k=cntK H k+(if X.k=k then 1 else 0):=by
 unfold cntK
 rw [List.countP_append]
 by_cases h:X.k=k
 · simp [h]
 · simp [h]
structure Fol (P:Pg) (R:Int) (K:List Bool) (c:Crs) (M:List Tc) (H:List Rx) (i:Nat):Prop where
 si:∃ m,SI P R c M m∧m+i≤158
 len:H.length=i+1
 tr:(cntK H 5:Int)=c.tr
 bk:cntK H 8=if c.bk then 1 else 0
 no:K=[]→c.tr=0
 ts:TsOk M (i+1) (10000*i)
structure FolEnd (R:Int) (K:List Bool) (H:List Rx) (X:Rx):Prop where
 len:1≤H.length
 k:X.k=9
 o:(X.o=1∧cntK (H ++ [X]) 8=0∧(cntK (H ++ [X]) 5:Int)≤R)∨(X.o=2∧cntK (H ++ [X]) 8=1∧(cntK (H ++ [X]) 5:Int)=R+1)
 no:K=[]→X.o=1
theorem Fol.step {P:Pg} {R:Int} (hg:z0l 4 4 P=true) (hok:Pgok P) (hR:0≤R∧R≤4) {K:List Bool} {c:Crs} {M:List Tc} {H:List Rx} {i:Nat} (h:Fol P R K c M H i):∃ X c' M',X=z1l c M R ((i:Int)+1) (z4d K i)∧z1j X=true∧Rxok X∧2≤X.k∧X.k≤9∧appX c X=(c',0)∧(X.k≤7→appC M 0 X=(M',0))∧(¬ X.k≤7→M'=M)∧(X.k≠9→Fol P R K c' M' (H ++ [X]) (i+1))∧(X.k=9→FolEnd R K H X)∧i<159:=by
 obtain⟨m,hsi,hm⟩:=h.si
 have hpos:=si_pos hok hg hR hsi
 obtain⟨c',M',ho⟩:=step_any hg hok hR hsi (z4d K i) (id:=(i:Int)+1) ⟨by omega,by omega⟩
 have hc:=si_crok hok hg hR hsi
 have htk:Tcok (tOf M):=by
  unfold tOf
  cases hgt:getT Tc.sg M 1 with
  | none=>exact⟨by decide,by decide,by decide,(fun o ho=>by cases ho),in0,in0⟩
  | some t=>exact h.ts.ok t (z5g hgt).1
 have hrx:Rxok (z1l c M R ((i:Int)+1) (z4d K i)):=by
  unfold z1l
  split
  · exact z5r (by decide) (by decide) hc.tx (by decide) k000 in0 (by decide)
  · exact nextC_ok hc htk ⟨by omega,by omega⟩
 have hno:K=[]→(z1l c M R ((i:Int)+1) (z4d K i)).k≠5:=fun hk=>by
  unfold z1l
  rw [if_neg (by
   rintro ⟨h1,_⟩
   rw [hk] at h1
   simp [z4d] at h1)]
  unfold z2d
  split
  · decide
  split
  · split
    · unfold z6i
      split <;> (simp [recK])
    · unfold z3j
      split <;> (simp [recK])
  · split
    · simp [recK]
    · unfold z5i
      split <;> (simp [recK])
 refine⟨_,c',M',rfl,ho.good,hrx,ho.k2,ho.k9,ho.app,ho.jn,ho.same,fun h9=>?_,fun h9=>?_,by omega⟩
 · obtain⟨m',hs',hlt⟩:=ho.go h9
   generalize z1l c M R ((i:Int)+1) (z4d K i)=X at *
   refine⟨⟨m',hs',by omega⟩,by rw [List.length_append,h.len];rfl,?_,?_,fun hk=>?_,?_⟩
   · rw [z8e,ho.tr,← h.tr]
     split <;> simp
   · rw [z8e,h.bk,ho.bk]
     cases hb:c.bk with
     | true =>
      rw [if_neg (ho.once hb)]
      simp
     | false=>by_cases h8:X.k=8 <;> simp [h8]
   · rw [ho.tr,h.no hk,if_neg (hno hk)]
     rfl
   · by_cases h7:X.k≤7
     · have h1:=TsOk.app (X:=X) (at_:=0) h.ts ⟨by omega,by omega⟩ hrx in0
       rw [ho.jn h7] at h1
       exact h1.mono (Nat.le_refl _) (by omega)
     · rw [ho.same h7]
       exact h.ts.mono (by omega) (by omega)
 · generalize z1l c M R ((i:Int)+1) (z4d K i)=X at *
   have h5:cntK (H ++ [X]) 5=cntK H 5:=by rw [z8e,if_neg (by omega)];rfl
   have h8:cntK (H ++ [X]) 8=cntK H 8:=by rw [z8e,if_neg (by omega)];rfl
   refine⟨by rw [h.len];omega,h9,?_,fun hk=>?_⟩
   · rw [h5,h8,h.tr,h.bk]
     rcases ho.fin h9 with ⟨a1,a2,a3⟩ | ⟨a1,a2,a3⟩
     · exact .inl ⟨a1,by rw [a2];rfl,a3⟩
     · exact .inr ⟨a1,by rw [a2];rfl,a3⟩
   · rcases ho.fin h9 with ⟨a1,_⟩ | ⟨_,_,a3⟩
     · exact a1
     · have:=h.no hk
       omega
def x1st (P:Pg):Rx:=⟨1,1,0,0,false,(0,0,0),0,0,P⟩
theorem x1st_good {P:Pg} (hg:z0l 4 4 P=true):z1j (x1st P)=true:=by
 simp [z1j,x1st,kOk,kS,kT,kB,kA,kO,kP,z7s,addB,outB,z8g,hg]
theorem x1st_ok {P:Pg} (hok:Pgok P):Rxok (x1st P):=⟨by show (0:Int)≤1∧(1:Int)≤255;decide,by show (0:Int)≤1∧(1:Int)≤4294967295;decide,by show (0:Int)≤0∧(0:Int)≤4294967295;decide,by show (0:Int)≤0∧(0:Int)≤255;decide,k000,in0,by show (0:Int)≤0∧(0:Int)≤255;decide,hok⟩
theorem start_1st {P:Pg} (hg:z0l 4 4 P=true):z6j (x1st P)=(⟨1,P,false,0,0,0⟩,0):=by
 unfold z6j
 rw [if_pos ⟨rfl,x1st_good hg⟩]
 rfl
theorem Fol.first {P:Pg} {R:Int} (hg:z0l 4 4 P=true) (hok:Pgok P) (hR:0≤R∧R≤4) (K:List Bool) (X:Rx) (hX:X.k=1):Fol P R K ⟨1,P,false,0,0,0⟩ [] [X] 0:=by
 have hn5:1≤lenA P∧lenA P≤5:=by
  have:=(z1r hg hok).1
  unfold lenA
  omega
 have h5:cntK [X] 5=0:=by
  unfold cntK
  simp [hX]
 have h8:cntK [X] 8=0:=by
  unfold cntK
  simp [hX]
 refine⟨⟨_,.free 0 0 ⟨by omega,by omega⟩ ⟨by omega,by omega⟩,by omega⟩,rfl,by rw [h5];rfl,by rw [h8];rfl,fun _=>rfl,⟨fun t ht=>(by cases ht),?_,Nat.zero_le _,fun t ht=>(by cases ht),fun t ht=>(by cases ht)⟩⟩
 simp [UpT]
theorem nextC_pg (c:Crs) (t:Tc) (R id:Int):(z2d c t R id).pg=noP:=by
 unfold z2d
 split
 · rfl
 split
 · split
   · unfold z6i
     split <;> rfl
   · unfold z3j
     split <;> rfl
 · split
   · rfl
   · unfold z5i
     split <;> rfl
theorem nextS_pg (c:Crs) (M:List Tc) (R id:Int) (b:Bool):(z1l c M R id b).pg=noP:=by
 unfold z1l
 split
 · rfl
 · exact nextC_pg _ _ _ _
end Go.Proofs.YtclbkfpbdidaiaaGreatDoor
namespace Go.Proofs.YtclbkfpbdidaiaaGreatDoor
open Go.Lib (hid)
set_option maxHeartbeats 16000000
open Go.RowKit Go.ChangeShapes Go.WideShapes
set_option linter.unusedVariables false
set_option linter.unusedSimpArgs false
set_option maxRecDepth 10000
theorem q1s {w w':World} {B:Nat} {T:TypeId} {k n:Nat} {v:Value} {xs:List Value} {S:Nat→Prop} (h:w.ownsRow B T k v n xs) (ht:Turn S w w') (hs:∀ b,v.ownBlock=some b→¬ S b):w'.ownsRow B T k v n xs:=by
 refine⟨h.1,?_⟩
 rcases h.2 with hn | ⟨g,cap,cur,rfl,h1,h2,h3⟩
 · exact .inl hn
 · exact .inr ⟨g,cap,cur,rfl,h1,(ht.block g (Array.getElem?_eq_some_iff.1 h2).1 (hs g rfl)).trans h2,h3⟩
theorem q2x {α:Type} {enc:α→List Value} {k:Nat} {d0:α} {w:World} {p:Option Addr} {n c:Nat} {L:List α} (h:SlG enc k d0 w p n c L) (h0:0<n) {a:Addr} (e:p=some a):a.block<w.heap.size:=by
 obtain⟨b,off,hp,hb,_⟩:=h.cell h0
 rw [hp] at e
 cases e
 exact hb
structure Off (S:Nat→Prop) (p:Rv):Prop where
 l:0<p.ln→∀ a,p.lp=some a→¬ S a.block
 t:0<p.tn→∀ a,p.tp=some a→¬ S a.block
 o:0<p.wn→∀ a,p.wp=some a→¬ S a.block
theorem z6z {w w':World} {p:Rv} {L:List Ln} {T:List Tk} {M:List Ln} {S:Nat→Prop} (h:RvM w p L T M) (ht:Turn S w w') (ho:Off S p):RvM w' p L T M :=
 ⟨h.l.turn ht.size fun h0 a ha hlt=>ht.block a.block hlt (ho.l h0 a ha),h.t.turn ht.size fun h0 a ha hlt=>ht.block a.block hlt (ho.t h0 a ha),h.o.turn ht.size fun h0 a ha hlt=>ht.block a.block hlt (ho.o h0 a ha)⟩
theorem Off.grow {w:World} {p:Rv} {L:List Ln} {T:List Tk} {M:List Ln} {S S':Nat→Prop} (h:Off S p) (hm:RvM w p L T M) (hs:∀ j,S' j→S j∨w.heap.size≤j):Off S' p :=
 ⟨fun h0 a e hq=>by
  rcases hs _ hq with g | g
  · exact h.l h0 a e g
  · have:=q2x hm.l h0 e;omega,fun h0 a e hq=>by
  rcases hs _ hq with g | g
  · exact h.t h0 a e g
  · have:=q2x hm.t h0 e;omega,fun h0 a e hq=>by
  rcases hs _ hq with g | g
  · exact h.o h0 a e g
  · have:=q2x hm.o h0 e;omega⟩
theorem NewP.off {W:World} {p:Rv} (h:NewP W p) {S:Nat→Prop} (hs:∀ j,S j→j<W.heap.size):Off S p :=
 ⟨fun _ a e hq=>by have:=h.1 a e;have:=hs _ hq;omega,fun _ a e hq=>by have:=h.2.1 a e;have:=hs _ hq;omega,fun _ a e hq=>by have:=h.2.2 a e;have:=hs _ hq;omega⟩
variable {Wd:World→Prop} {Ju:World→Nat→List Tc→(Nat→Prop)→Prop}
def fblk (A:Nat) (Q:Nat→Prop) (v:Value) (j:Nat):Prop:=j=A∨Q j∨v.ownBlock=some j
structure FoM (Ju:World→Nat→List Tc→(Nat→Prop)→Prop) (W wr:World) (A B:Nat) (Q:Nat→Prop) (c:Cv) (L:List Ln) (T:List Tk) (M:List Ln) (J:List Tc) (v:Value) (H:List Rv):Prop where
 cb:CB wr A c
 cm:CvM wr c L T M
 off:Off (fblk A Q v) c.p
 ju:Ju wr B J Q
 qa:¬ Q A
 low:∀ j,fblk A Q v j→W.heap.size≤j
 own:wr.ownsRow 0 42 20 v H.length (z0n rce H)
 va:v.ownBlock≠some A
 vq:∀ j,v.ownBlock=some j→¬ Q j
 below:Below W.heap.size W wr
theorem FoM.lt (I:JnF Wd Ju) {W wr:World} {A B:Nat} {Q:Nat→Prop} {c:Cv} {L:List Ln} {T:List Tk} {M:List Ln} {J:List Tc} {v:Value} {H:List Rv} (h:FoM Ju W wr A B Q c L T M J v H):∀ j,fblk A Q v j→j<wr.heap.size:=by
 rintro j (rfl | hq | hv)
 · exact h.cb.lt
 · exact I.lt h.ju j hq
 · exact (World.ownsRow.lt h.own j hv).2
theorem FoM.later (I:JnF Wd Ju) {W wr w':World} {A B:Nat} {Q:Nat→Prop} {c:Cv} {L:List Ln} {T:List Tk} {M:List Ln} {J:List Tc} {v:Value} {H:List Rv} (h:FoM Ju W wr A B Q c L T M J v H) (hb:Below wr.heap.size wr w'):FoM Ju W w' A B Q c L T M J v H :=
 ⟨h.cb.later hb,h.cm.later hb,h.off,I.later h.ju hb,h.qa,h.low,q1s (S:=fun _=>False) h.own (Turn.of_below hb) (fun _ _ h=>h),h.va,h.vq,h.below.trans (hb.mono h.below.size)⟩
theorem FoM.acted {W w w':World} {A B:Nat} {Q:Nat→Prop} {c:Cv} {L:List Ln} {T:List Tk} {M:List Ln} {J J':List Tc} {v:Value} {H:List Rv} (h:FoM Ju W w A B Q c L T M J v H) (ha:JActed Ju w w' B J' Q):∃ Q',FoM Ju W w' A B Q' c L T M J' v H∧(∀ j,Q' j→Q j∨w.heap.size≤j)∧Turn Q w w':=by
 obtain⟨Q',g1,g2,g3⟩:=ha
 have hs:∀ j,fblk A Q' v j→fblk A Q v j∨w.heap.size≤j:=by
  rintro j (e | hq | hv)
  · exact .inl (.inl e)
  · rcases g2 j hq with g | g
    · exact .inl (.inr (.inl g))
    · exact .inr g
  · exact .inl (.inr (.inr hv))
 refine⟨Q',⟨?_,z6z h.cm g3 ⟨fun h0 a e hq=>h.off.l h0 a e (.inr (.inl hq)),fun h0 a e hq=>h.off.t h0 a e (.inr (.inl hq)),fun h0 a e hq=>h.off.o h0 a e (.inr (.inl hq))⟩,h.off.grow h.cm hs,g1,fun hq=>?_,fun j hj=>?_,q1s h.own g3 h.vq,h.va,fun j hj hq=>?_,h.below.trans (g3.below h.below.size fun j hj=>h.low j (.inr (.inl hj)))⟩,g2,g3⟩
 · exact (g3.block A h.cb.lt h.qa).trans h.cb
 · rcases g2 _ hq with g | g
   · exact h.qa g
   · have:=h.cb.lt;omega
 · rcases hs j hj with g | g
   · exact h.low j g
   · exact Nat.le_trans h.below.size g
 · rcases g2 _ hq with g | g
   · exact h.vq j hj g
   · have:=(World.ownsRow.lt h.own j hj).2;omega
theorem FoM.put (I:JnF Wd Ju) {W w:World} {A B:Nat} {Q:Nat→Prop} {c d:Cv} {L L':List Ln} {T T':List Tk} {M M':List Ln} {J:List Tc} {v:Value} {H:List Rv} (h:FoM Ju W w A B Q c L T M J v H) (hd:CvM w d L' T' M') (ho:Off (fblk A Q v) d.p):FoM Ju W (w.setRow A (ccs d)) A B Q d L' T' M' J v H:=by
 have ht:Turn (fun k=>k=A) w (w.setRow A (ccs d)):=⟨rfl,rfl,rfl,by simp [World.setRow],fun k _ hn=>setRow_other _ _ _ _ hn⟩
 exact⟨h.cb.set d,z6z hd ht ⟨fun h0 a e hq=>ho.l h0 a e (.inl hq),fun h0 a e hq=>ho.t h0 a e (.inl hq),fun h0 a e hq=>ho.o h0 a e (.inl hq)⟩,ho,I.keep h.ju ht (fun j hj e=>h.qa (e ▸ hj)),h.qa,h.low,q1s h.own ht (fun b hb e=>h.va (e ▸ hb)),h.va,h.vq,h.below.trans (ht.below h.below.size fun k hk=>h.low k (.inl hk))⟩
def rvK (X:Rx):Rv:=⟨X.k,X.sg,X.tx,X.st,X.cp,X.key.1,X.key.2.1,X.key.2.2,X.d,X.o,0,0,0,none,0,0,none,0,0,none,0,0,0,0,0,0⟩
theorem q1a {X:Rx} (h:X.pg=noP):(rvK X).x [] [] []=X:=by
 obtain⟨k,sg,tx,st,cp,key,d,o,pg⟩:=X
 simp only at h
 subst h
 rfl
theorem q2s (X:Rx) (w:World):RvM w (rvK X) [] [] []:=⟨SlG.empty _,SlG.empty _,SlG.empty _⟩
theorem z1w {fn:Func} {q:Tmp} (h:fn.results=#[.cell q 42]) (tmps:Array Value) (W:World) (R:Nat) (r:Rv) (hp:tmps.getD q undef=.pointer (some ⟨R,0,none⟩))
 (hB:RB W R r):(results fn tmps).run Tryz.prog W=.ok (.agg (rcs r)) W :=
 results_cell_row h tmps _ R 42 (rcs r) (0,0) _ hp hB Tryz.underlying42 rfl (by kernel_rfl)
theorem cr_undo (t:Tv) (W:World) (hT:TvM W t) (hx:∀ o∈t.c.dn,Ook o) (hn:t.n≤1000):Calls Tryz.prog 33 #[.agg #[.int .u32 t.c.id,.int .u32 t.c.sg,.int .u8 t.c.st,.bool t.c.cp,.bool t.c.dd,.slice t.p t.n t.m,.int .i64 t.c.fs,.int .i64 t.c.sz]] W fun e w'=>e=.returned (.agg (rcs (rvK (z6i t.c))))∧Below W.heap.size W w':=by
 obtain⟨W1,hW1,hxb,hz,hb1⟩:∃ W1,(W.alloc (.cells #[.int .u32 t.c.id,.int .u32 t.c.sg,.int .u8 t.c.st,.bool t.c.cp,.bool t.c.dd,.slice t.p t.n t.m,.int .i64 t.c.fs,.int .i64 t.c.sz] 46)).alloc (.cells #[.int .u8 0,.int .u32 0,.int .u32 0,.int .u8 0,.bool false,.int .u8 0,.int .u8 0,.int .u8 0,.int .i64 0,.int .u8 0,.int .u8 0,.int .u32 0,.int .u8 0,.slice none 0 0,.slice none 0 0,.slice none 0 0,.int .u8 0,.int .u8 0,.int .u8 0,.int .i64 0] 42)=W1∧W1.heap[W.heap.size]?=some (.cells #[.int .u32 t.c.id,.int .u32 t.c.sg,.int .u8 t.c.st,.bool t.c.cp,.bool t.c.dd,.slice t.p t.n t.m,.int .i64 t.c.fs,.int .i64 t.c.sz] 46 (0,0))∧RB W1 (W.heap.size+1) rz∧Below W.heap.size W W1:=by
  have hb0:Below W.heap.size W (W.alloc (.cells #[.int .u32 t.c.id,.int .u32 t.c.sg,.int .u8 t.c.st,.bool t.c.cp,.bool t.c.dd,.slice t.p t.n t.m,.int .i64 t.c.fs,.int .i64 t.c.sz] 46)):=(Below.refl _ _).alloc (Nat.le_refl _) _
  have hs:(W.alloc (.cells #[.int .u32 t.c.id,.int .u32 t.c.sg,.int .u8 t.c.st,.bool t.c.cp,.bool t.c.dd,.slice t.p t.n t.m,.int .i64 t.c.fs,.int .i64 t.c.sz] 46)).heap.size=W.heap.size+1:=by simp only [World.alloc,Array.size_push]
  have hb1:Below (W.alloc (.cells #[.int .u32 t.c.id,.int .u32 t.c.sg,.int .u8 t.c.st,.bool t.c.cp,.bool t.c.dd,.slice t.p t.n t.m,.int .i64 t.c.fs,.int .i64 t.c.sz] 46)).heap.size (W.alloc (.cells #[.int .u32 t.c.id,.int .u32 t.c.sg,.int .u8 t.c.st,.bool t.c.cp,.bool t.c.dd,.slice t.p t.n t.m,.int .i64 t.c.fs,.int .i64 t.c.sz] 46)) ((W.alloc (.cells #[.int .u32 t.c.id,.int .u32 t.c.sg,.int .u8 t.c.st,.bool t.c.cp,.bool t.c.dd,.slice t.p t.n t.m,.int .i64 t.c.fs,.int .i64 t.c.sz] 46)).alloc (.cells #[.int .u8 0,.int .u32 0,.int .u32 0,.int .u8 0,.bool false,.int .u8 0,.int .u8 0,.int .u8 0,.int .i64 0,.int .u8 0,.int .u8 0,.int .u32 0,.int .u8 0,.slice none 0 0,.slice none 0 0,.slice none 0 0,.int .u8 0,.int .u8 0,.int .u8 0,.int .i64 0] 42)):=(Below.refl _ _).alloc (Nat.le_refl _) _
  refine⟨_,rfl,z0b (z0c W _) hb1,?_,hb0.trans (hb1.mono hb0.size)⟩
  have h:=RB.new (W.alloc (.cells #[.int .u32 t.c.id,.int .u32 t.c.sg,.int .u8 t.c.st,.bool t.c.cp,.bool t.c.dd,.slice t.p t.n t.m,.int .i64 t.c.fs,.int .i64 t.c.sz] 46)) rz
  rw [hs] at h
  exact h
 obtain⟨B,hB⟩:∃ B,W.heap.size=B:=⟨_,rfl⟩
 rw [hB] at hxb hz
 have HX:=hid hxb
 have HZ:=hid hz
 have HW1:=hid hW1
 have HB1:=hid hb1
 have HRE:=hid hB
 have hla:=jlast_any t W1 (hT.later hb1) hx (by omega)
 have HU:Hid (z6i t.c=if (z2r t.c).2 then recK 6 0 t.c.id 0 false (z2r t.c).1.1 (z2r t.c).1.2 0 else recK 7 0 t.c.id 0 false (0,0,0) 0 0):=hid rfl
 generalize z6i t.c=U at *
 obtain⟨lc,hlc⟩:∃ lc,z2r t.c=lc:=⟨_,rfl⟩
 rw [hlc] at hla HU
 obtain⟨⟨⟨ka,kb,kc⟩,d⟩,b⟩:=lc
 dsimp only at hla
 obtain⟨a0,a1,a2,a3,a4,a5,a6,a7⟩:=z0i hxb
 clear hW1 hxb hz hb1 hB hT hx hn hlc
 go_enter Tryz.func33,Tryz.ntmps33
 go_upto_region 1 with (fail)
 rw [HW1.out,HRE.out]
 go_wp2_with fail
 refine hla.mono ?_
 rintro e w2 ⟨rfl,h2⟩
 have hba:Below w2.heap.size w2 (w2.alloc (.cells #[.int .u8 ka,.int .u8 kb,.int .u8 kc,.int .i64 d] 105)):=(Below.refl _ _).alloc (Nat.le_refl _) _
 have HZ3:=hid ((HZ.out.later h2).later hba)
 have hb2:=HB1.out.trans (h2.mono HB1.out.size)
 have HB3:=hid (hb2.trans (hba.mono hb2.size))
 have hx3:=z0b (z0b HX.out h2) hba
 have ho3:=z0c w2 (.cells #[.int .u8 ka,.int .u8 kb,.int .u8 kc,.int .i64 d] 105)
 obtain⟨G,hG⟩:∃ G,w2.heap.size=G:=⟨_,rfl⟩
 rw [hG] at ho3
 have HG:=hid hG
 clear a0 a1 a2 a3 a4 a5 a6 a7 h2 hba hb2 hla hG HX HZ
 go_upto_region 2 with (fail)
 rw [HG.out]
 generalize w2.alloc (.cells #[.int .u8 ka,.int .u8 kb,.int .u8 kc,.int .i64 d] 105)=w3 at *
 have a0:=(z0i hx3).1
 have o0:=z0a (j:=0) ho3 (v:=.int .u8 ka) rfl
 have o1:=z0a (j:=1) ho3 (v:=.int .u8 kb) rfl
 have o2:=z0a (j:=2) ho3 (v:=.int .u8 kc) rfl
 have o3:=z0a (j:=3) ho3 (v:=.int .i64 d) rfl
 clear hx3 ho3
 cases b
 · have HE:Hid (U=recK 7 0 t.c.id 0 false (0,0,0) 0 0):=hid HU.out
   clear HU
   go_wp2_with ((with_reducible refine z0y (rvK (recK 7 0 t.c.id 0 false (0,0,0) 0 0)) HZ3.out ?_ ?_ ?_);rfl;rfl)
   (try simp only [Exit.inBlock,Exit.then])
   refine bodyPost_ret (v:=.agg (rcs (rvK (recK 7 0 t.c.id 0 false (0,0,0) 0 0)))) ?_ rfl ⟨by rw [HE.out],below_setRow HB3.out (by have:=HRE.out;omega) _⟩
   exact z1w rfl _ _ (B+1) _ rfl (HZ3.out.set _)
 · have HE:Hid (U=recK 6 0 t.c.id 0 false (ka,kb,kc) d 0):=hid HU.out
   clear HU
   go_wp2_with ((with_reducible refine z0y (rvK (recK 6 0 t.c.id 0 false (ka,kb,kc) d 0)) HZ3.out ?_ ?_ ?_);rfl;rfl)
   (try simp only [Exit.inBlock,Exit.then])
   refine bodyPost_ret (v:=.agg (rcs (rvK (recK 6 0 t.c.id 0 false (ka,kb,kc) d 0)))) ?_ rfl ⟨by rw [HE.out],below_setRow HB3.out (by have:=HRE.out;omega) _⟩
   exact z1w rfl _ _ (B+1) _ rfl (HZ3.out.set _)
theorem cr_three8 (W:World) (c:Cv) (t:Tv):∃ W1,((W.alloc (.cells (ccs c) 34)).alloc (.cells #[.int .u32 t.c.id,.int .u32 t.c.sg,.int .u8 t.c.st,.bool t.c.cp,.bool t.c.dd,.slice t.p t.n t.m,.int .i64 t.c.fs,.int .i64 t.c.sz] 46)).alloc (.cells #[.int .u8 0,.int .u32 0,.int .u32 0,.int .u8 0,.bool false,.int .u8 0,.int .u8 0,.int .u8 0,.int .i64 0,.int .u8 0,.int .u8 0,.int .u32 0,.int .u8 0,.slice none 0 0,.slice none 0 0,.slice none 0 0,.int .u8 0,.int .u8 0,.int .u8 0,.int .i64 0] 42)=W1∧CB W1 W.heap.size c∧W1.heap[W.heap.size+1]?=some (.cells #[.int .u32 t.c.id,.int .u32 t.c.sg,.int .u8 t.c.st,.bool t.c.cp,.bool t.c.dd,.slice t.p t.n t.m,.int .i64 t.c.fs,.int .i64 t.c.sz] 46 (0,0))∧RB W1 (W.heap.size+2) rz∧Below W.heap.size W W1:=by
 have hb0:Below W.heap.size W (W.alloc (.cells (ccs c) 34)):=(Below.refl _ _).alloc (Nat.le_refl _) _
 have hs:(W.alloc (.cells (ccs c) 34)).heap.size=W.heap.size+1:=by simp only [World.alloc,Array.size_push]
 have hx:=CB.new W c
 obtain⟨V,hV⟩:∃ V,W.alloc (.cells (ccs c) 34)=V:=⟨_,rfl⟩
 rw [hV] at hb0 hs hx ⊢
 have hb1:Below V.heap.size V (V.alloc (.cells #[.int .u32 t.c.id,.int .u32 t.c.sg,.int .u8 t.c.st,.bool t.c.cp,.bool t.c.dd,.slice t.p t.n t.m,.int .i64 t.c.fs,.int .i64 t.c.sz] 46)):=(Below.refl _ _).alloc (Nat.le_refl _) _
 have ht:=z0c V (.cells #[.int .u32 t.c.id,.int .u32 t.c.sg,.int .u8 t.c.st,.bool t.c.cp,.bool t.c.dd,.slice t.p t.n t.m,.int .i64 t.c.fs,.int .i64 t.c.sz] 46)
 have hs1:(V.alloc (.cells #[.int .u32 t.c.id,.int .u32 t.c.sg,.int .u8 t.c.st,.bool t.c.cp,.bool t.c.dd,.slice t.p t.n t.m,.int .i64 t.c.fs,.int .i64 t.c.sz] 46)).heap.size=W.heap.size+2:=by simp only [World.alloc,Array.size_push];omega
 obtain⟨U,hU⟩:∃ U,V.alloc (.cells #[.int .u32 t.c.id,.int .u32 t.c.sg,.int .u8 t.c.st,.bool t.c.cp,.bool t.c.dd,.slice t.p t.n t.m,.int .i64 t.c.fs,.int .i64 t.c.sz] 46)=U:=⟨_,rfl⟩
 rw [hU] at hb1 ht hs1 ⊢
 rw [hs] at ht
 have hb2:Below U.heap.size U (U.alloc (.cells #[.int .u8 0,.int .u32 0,.int .u32 0,.int .u8 0,.bool false,.int .u8 0,.int .u8 0,.int .u8 0,.int .i64 0,.int .u8 0,.int .u8 0,.int .u32 0,.int .u8 0,.slice none 0 0,.slice none 0 0,.slice none 0 0,.int .u8 0,.int .u8 0,.int .u8 0,.int .i64 0] 42)):=(Below.refl _ _).alloc (Nat.le_refl _) _
 have hz:=RB.new U rz
 rw [hs1] at hz
 have h3:=hb0.trans (hb1.mono hb0.size)
 exact⟨_,rfl,(hx.later hb1).later hb2,z0b ht hb2,hz,h3.trans (hb2.mono h3.size)⟩
theorem q0j (c:Cv) (L:List Ln) (T:List Tk) (M:List Ln) (W:World) (hw:Words W) (hP:CvM W c L T M) (hok:Crok (c.x L T M)) (h1:c.p.ln≤400∧c.p.tn≤400∧c.p.wn≤400) (t:Tv) (retry id:Int) (hT:TvM W t) (hx:∀ o∈t.c.dn,Ook o) (hn:t.n≤1000):Calls Tryz.prog 30 #[.agg (ccs c),.agg #[.int .u32 t.c.id,.int .u32 t.c.sg,.int .u8 t.c.st,.bool t.c.cp,.bool t.c.dd,.slice t.p t.n t.m,.int .i64 t.c.fs,.int .i64 t.c.sz],.int .i64 retry,.int .u32 id] W fun e w'=>e=.returned (.agg (rcs (rvK (z2d (c.x L T M) t.c retry id))))∧Below W.heap.size W w':=by
 obtain⟨W1,hW1,hxb,htb,hz,hb1⟩:=cr_three8 W c t
 obtain⟨B,hB⟩:∃ B,W.heap.size=B:=⟨_,rfl⟩
 rw [hB] at hxb htb hz
 have HX:=hid hxb
 have HT:=hid htb
 have HZ:=hid hz
 have HW1:=hid hW1
 have HB1:=hid hb1
 have HRE:=hid hB
 have hgd:=q1j c L T M W1 (hw.later hb1) (hP.later hb1) hok h1
 cases hg:z3c (c.x L T M) with
 | false =>
  rw [hg] at hgd
  have HE:Hid (z2d (c.x L T M) t.c retry id=noX):=hid (by unfold z2d;rw [if_pos hg])
  generalize z2d (c.x L T M) t.c retry id=N at *
  clear hW1 hxb htb hz hb1 hB hg hw hP hok h1 hT hx hn
  go_enter Tryz.func30,Tryz.ntmps30
  go_wp2_with fail
  refine z2y ?_
  go_upto_region 1 with (fail)
  rw [HW1.out,HRE.out]
  try rw [show B+1+1=B+2 from rfl]
  go_wp2_with ((with_reducible refine z0f HX.out ?_ ?_);rfl)
  refine hgd.mono ?_
  rintro e w2 ⟨rfl,h2⟩
  have HX2:=hid (HX.out.later h2)
  have HT2:=hid (z0b HT.out h2)
  have HZ2:=hid (HZ.out.later h2)
  have HB2:=hid (HB1.out.trans (h2.mono HB1.out.size))
  clear h2 HX HT HZ
  clear hgd
  go_wp2_with (((with_reducible refine z0y (rvK noX) HZ2.out ?_ ?_ ?_);rfl;rfl))
  (try simp only [Exit.inBlock,Exit.then])
  try rw [z7m]
  refine bodyPost_ret (v:=.agg (rcs (rvK noX))) ?_ rfl ⟨by rw [HE.out],below_setRow HB2.out (by have:=HRE.out;omega) _⟩
  exact z1w rfl _ _ (B+2) _ rfl (HZ2.out.set _)
 | true =>
  rw [hg] at hgd
  have HTU:=hid fun w' (hb:Below W.heap.size W w')=>q1i c L T M w' (hw.later hb) (hP.later hb) hok h1 hg
  have HO:=hid (fun W=>cr_outcome c L T M W)
  have HOP:=hid fun w' (hb:Below W.heap.size W w')=>cr_ops c L T M w' (hw.later hb) (hP.later hb) hok h1
  have HUN:=hid fun w' (hb:Below W.heap.size W w')=>cr_undo t w' (hT.later hb) hx hn
  have HNX:Hid (z2d (c.x L T M) t.c retry id=if c.tx≠0 then (if t.c.dd then z6i t.c else z3j (c.x L T M) t.c) else if c.bk=false∧retry<c.tr then recK 8 c.sg 0 0 false (0,0,0) 0 0 else z5i (c.x L T M) id):=hid (by unfold z2d;rw [if_neg (by rw [hg];simp)];rfl)
  have HTL:Hid (t.c.dn.length=t.n):=hid hT.len
  have HAT:=hid (fun h=>z9t (c:=c.x L T M) hg hok.P h)
  have HLL:=hid (z5s hg hok.P)
  have HSL:=hid (z1r (z2x hg).2.1 hok.P).1
  generalize z2d (c.x L T M) t.c retry id=N at *
  have HBT:Hid (z5i (c.x L T M) id=if (z1u (c.x L T M)).2 then recK 2 c.sg id (z1u (c.x L T M)).1 c.bk (0,0,0) 0 0 else recK 9 c.sg 0 0 false (0,0,0) 0 (outC (c.x L T M))):=hid rfl
  have HWI:Hid (z3j (c.x L T M) t.c=if t.c.dn.length<(opsC (c.x L T M)).length then recK 3 0 t.c.id 0 false ((opsC (c.x L T M)).getD t.c.dn.length o0).1 ((opsC (c.x L T M)).getD t.c.dn.length o0).2 0 else recK 4 0 t.c.id 0 false (0,0,0) 0 0):=hid rfl
  rw [HTL.out] at HWI
  have HXP:Hid ((c.x L T M).P=c.p.pg L T M):=hid rfl
  clear hW1 hxb htb hz hb1 hB hg hw hP hok h1 hT hx hn HTL
  generalize c.x L T M=X at *
  generalize opsC X=LO at *
  generalize z5i X id=NB at *
  generalize z3j X t.c=NW at *
  generalize z6i t.c=NU at *
  have HAB:Hid ((z1u X).2=true→(0≤(z1u X).1∧(z1u X).1≤5)∧IntKind.u8.wrap (z1u X).1=(z1u X).1):=hid fun h=>by
   obtain⟨i,hi,hlt,_⟩:=HAT.out h
   have hb:0≤(z1u X).1∧(z1u X).1≤5:=by
    have:=HSL.out
    omega
   exact⟨hb,IntWalk.u8_in _ (by omega)⟩
  obtain⟨a,ha⟩:∃ a,(z1u X).1=a:=⟨_,rfl⟩
  obtain⟨ty,hty⟩:∃ a,(z1u X).2=a:=⟨_,rfl⟩
  obtain⟨o,ho⟩:∃ a,outC X=a:=⟨_,rfl⟩
  rw [ha,hty] at HTU HAB HBT
  rw [ho] at HO HBT
  clear ha hty ho HAT HLL HSL HXP
  cases q1:(c.tx != 0) with
  | true =>
   have hne:c.tx≠0:=bne_iff_ne.1 q1
   obtain⟨dd,hd⟩:∃ dd,t.c.dd=dd:=⟨_,rfl⟩
   cases dd with
   | true =>
    have HE:Hid (N=NU):=hid (by rw [HNX.out,if_pos hne,hd];rfl)
    have HD:=hid hd
    clear HNX HBT HWI HTU HO HOP HAB hne hd
    go_enter Tryz.func30,Tryz.ntmps30
    go_wp2_with fail
    refine z2y ?_
    go_upto_region 1 with (fail)
    rw [HW1.out,HRE.out]
    try rw [show B+1+1=B+2 from rfl]
    go_wp2_with ((with_reducible refine z0f HX.out ?_ ?_);rfl)
    refine hgd.mono ?_
    rintro e w2 ⟨rfl,h2⟩
    have HX2:=hid (HX.out.later h2)
    have HT2:=hid (z0b HT.out h2)
    have HZ2:=hid (HZ.out.later h2)
    have HB2:=hid (HB1.out.trans (h2.mono HB1.out.size))
    clear h2 HX HT HZ
    clear hgd
    have a14:=HX2.out.at.2.2.2.2
    have b4:=(z0i HT2.out).2.2.2.2.1
    rw [HD.out] at b4
    go_upto_region 4 with (fail)
    clear a14 b4
    obtain⟨d0,d1,d2,d3,d4,d5,d6,d7⟩:=z0i HT2.out
    go_wp2_with fail
    refine (HUN.out _ HB2.out).mono ?_
    rintro e w3 ⟨rfl,h3⟩
    clear d0 d1 d2 d3 d4 d5 d6 d7
    have HX3:=hid (HX2.out.later h3)
    have HT3:=hid (z0b HT2.out h3)
    have HZ3:=hid (HZ2.out.later h3)
    have HB3:=hid (HB2.out.trans (h3.mono HB2.out.size))
    clear h3 HX2 HT2 HZ2
    clear HUN
    go_wp2_with (((with_reducible refine z0y (rvK NU) HZ3.out ?_ ?_ ?_);rfl;rfl))
    (try simp only [Exit.inBlock,Exit.then])
    try rw [z7m]
    refine bodyPost_ret (v:=.agg (rcs (rvK NU))) ?_ rfl ⟨by rw [HE.out],below_setRow HB3.out (by have:=HRE.out;omega) _⟩
    exact z1w rfl _ _ (B+2) _ rfl (HZ3.out.set _)
   | false =>
    have HNW:Hid (N=NW):=hid (by rw [HNX.out,if_pos hne,hd];rfl)
    have HNE:Hid (t.n<LO.length→N=recK 3 0 t.c.id 0 false (LO.getD t.n o0).1 (LO.getD t.n o0).2 0):=hid fun h=>by rw [HNW.out,HWI.out,if_pos h]
    have HNF:Hid (¬ t.n<LO.length→N=recK 4 0 t.c.id 0 false (0,0,0) 0 0):=hid fun h=>by rw [HNW.out,HWI.out,if_neg h]
    have HD:=hid hd
    clear HNX HBT HWI HTU HO HUN HAB hne HNW hd
    go_enter Tryz.func30,Tryz.ntmps30
    go_wp2_with fail
    refine z2y ?_
    go_upto_region 1 with (fail)
    rw [HW1.out,HRE.out]
    try rw [show B+1+1=B+2 from rfl]
    go_wp2_with ((with_reducible refine z0f HX.out ?_ ?_);rfl)
    refine hgd.mono ?_
    rintro e w2 ⟨rfl,h2⟩
    have HX2:=hid (HX.out.later h2)
    have HT2:=hid (z0b HT.out h2)
    have HZ2:=hid (HZ.out.later h2)
    have HB2:=hid (HB1.out.trans (h2.mono HB1.out.size))
    clear h2 HX HT HZ
    clear hgd
    have a14:=HX2.out.at.2.2.2.2
    have b4:=(z0i HT2.out).2.2.2.2.1
    rw [HD.out] at b4
    go_wp2_with fail
    clear a14 b4
    go_step3
    (try simp only [Exit.inBlock,Exit.then])
    refine⟨_,by rfl,?_⟩
    go_wp2_with ((with_reducible refine z0f HX2.out ?_ ?_);rfl)
    refine (HOP.out _ HB2.out).mono ?_
    rintro e w3 ⟨p3,k3,rfl,hs3,h3,_⟩
    have hs4:=hs3
    have HX3:=hid (HX2.out.later h3)
    have HT3:=hid (z0b HT2.out h3)
    have HZ3:=hid (HZ2.out.later h3)
    have HB3:=hid (HB2.out.trans (h3.mono HB2.out.size))
    clear h3 HX2 HT2 HZ2
    clear HOP
    have a0:=(z0i HT3.out).1
    have a5:=(z0i HT3.out).2.2.2.2.2.1
    have hc3:=hs3.cap
    obtain⟨n,hn⟩:∃ n,LO.length=n:=⟨_,rfl⟩
    simp only [hn] at hs3 hs4 hc3 ⊢
    have HN:=hid hn
    clear hn hs4
    by_cases hlt:t.n<n
    · have hltz:(t.n:Int)<(n:Int):=by omega
      obtain⟨b,off,rfl,_,k0,k1,k2,k3'⟩:=z9z hs3 hlt
      have hne:=HNE.out (by rw [HN.out];exact hlt)
      generalize LO.getD t.n o0=oo at *
      obtain⟨⟨ka,kb,kc⟩,d⟩:=oo
      dsimp only at k0 k1 k2 k3' hne
      have HE:Hid (N=recK 3 0 t.c.id 0 false (ka,kb,kc) d 0):=hid hne
      have hba:Below w3.heap.size w3 (w3.alloc (.cells #[.int .u8 ka,.int .u8 kb,.int .u8 kc,.int .i64 d] 105)):=(Below.refl _ _).alloc (Nat.le_refl _) _
      have ho4:=z0c w3 (.cells #[.int .u8 ka,.int .u8 kb,.int .u8 kc,.int .i64 d] 105)
      have HZ4:=hid (HZ3.out.later hba)
      have ht4:=z0b HT3.out hba
      have HB4:=hid (HB3.out.trans (hba.mono HB3.out.size))
      obtain⟨G,hG⟩:∃ G,w3.heap.size=G:=⟨_,rfl⟩
      rw [hG] at ho4
      have HG:=hid hG
      clear hba hG hs3 hne HNE HNF HX3 HT3 HZ3
      go_upto_region 16 with (fail)
      rw [HG.out]
      clear k0 k1 k2 k3' a0 a5
      generalize w3.alloc (.cells #[.int .u8 ka,.int .u8 kb,.int .u8 kc,.int .i64 d] 105)=w4 at *
      have a0:=(z0i ht4).1
      have o0:=z0a (j:=0) ho4 (v:=.int .u8 ka) rfl
      have o1:=z0a (j:=1) ho4 (v:=.int .u8 kb) rfl
      have o2:=z0a (j:=2) ho4 (v:=.int .u8 kc) rfl
      have o3:=z0a (j:=3) ho4 (v:=.int .i64 d) rfl
      clear ht4 ho4
      go_wp2_with (((with_reducible refine z0y (rvK (recK 3 0 t.c.id 0 false (ka,kb,kc) d 0)) HZ4.out ?_ ?_ ?_);rfl;rfl))
      (try simp only [Exit.inBlock,Exit.then])
      try rw [Exit.noGoto_ret]
      refine bodyPost_ret (v:=.agg (rcs (rvK (recK 3 0 t.c.id 0 false (ka,kb,kc) d 0)))) ?_ rfl ⟨by rw [HE.out],below_setRow HB4.out (by have:=HRE.out;omega) _⟩
      exact z1w rfl _ _ (B+2) _ rfl (HZ4.out.set _)
    · have hltz:¬ (t.n:Int)<(n:Int):=by omega
      have HE:Hid (N=recK 4 0 t.c.id 0 false (0,0,0) 0 0):=hid (HNF.out (by rw [HN.out];exact hlt))
      clear HNE HNF hs3
      go_wp2_with (((with_reducible refine z0y (rvK (recK 4 0 t.c.id 0 false (0,0,0) 0 0)) HZ3.out ?_ ?_ ?_);rfl;rfl))
      (try simp only [Exit.inBlock,Exit.then])
      try rw [Exit.noGoto_ret]
      refine bodyPost_ret (v:=.agg (rcs (rvK (recK 4 0 t.c.id 0 false (0,0,0) 0 0)))) ?_ rfl ⟨by rw [HE.out],below_setRow HB3.out (by have:=HRE.out;omega) _⟩
      exact z1w rfl _ _ (B+2) _ rfl (HZ3.out.set _)
  | false =>
   have heq:c.tx=0:=by simpa using q1
   cases hb:c.bk with
   | true =>
    have HBE:Hid (N=if ty then recK 2 c.sg id a c.bk (0,0,0) 0 0 else recK 9 c.sg 0 0 false (0,0,0) 0 o):=hid (by rw [HNX.out,if_neg (by omega),if_neg (by rw [hb];simp),HBT.out])
    have HBK:=hid hb
    clear HNX HBT HWI HOP HUN heq hb
    go_enter Tryz.func30,Tryz.ntmps30
    go_wp2_with fail
    refine z2y ?_
    go_upto_region 1 with (fail)
    rw [HW1.out,HRE.out]
    try rw [show B+1+1=B+2 from rfl]
    go_wp2_with ((with_reducible refine z0f HX.out ?_ ?_);rfl)
    refine hgd.mono ?_
    rintro e w2 ⟨rfl,h2⟩
    have HX2:=hid (HX.out.later h2)
    have HT2:=hid (z0b HT.out h2)
    have HZ2:=hid (HZ.out.later h2)
    have HB2:=hid (HB1.out.trans (h2.mono HB1.out.size))
    clear h2 HX HT HZ
    clear hgd
    have a14:=HX2.out.at.2.2.2.2
    have b4:=(z0i HT2.out).2.2.2.2.1
    have a11:=HX2.out.at.2.1
    rw [HBK.out] at a11
    go_wp2_with fail
    clear a14 b4 a11
    go_step3
    (try simp only [Exit.inBlock,Exit.then])
    refine⟨_,by rfl,?_⟩
    go_wp2_with ((with_reducible refine z0f HX2.out ?_ ?_);rfl)
    refine (HTU.out _ HB2.out).mono ?_
    rintro e w3 ⟨rfl,h3⟩
    have HX3:=hid (HX2.out.later h3)
    have HT3:=hid (z0b HT2.out h3)
    have HZ3:=hid (HZ2.out.later h3)
    have HB3:=hid (HB2.out.trans (h3.mono HB2.out.size))
    clear h3 HX2 HT2 HZ2
    clear HTU
    have a0:=HX3.out.at.1
    have a11:=HX3.out.at.2.1
    cases ty
    case true =>
     obtain⟨hab,hwa⟩:=HAB.out rfl
     have HE:Hid (N=recK 2 c.sg id a c.bk (0,0,0) 0 0):=hid (by rw [HBE.out];rfl)
     clear HBE HO
     go_wp2_with (((with_reducible refine z0y (rvK (recK 2 c.sg id a c.bk (0,0,0) 0 0)) HZ3.out ?_ ?_ ?_);rfl;rfl))
     (try simp only [Exit.inBlock,Exit.then])
     try rw [Exit.noGoto_ret]
     refine bodyPost_ret (v:=.agg (rcs (rvK (recK 2 c.sg id a c.bk (0,0,0) 0 0)))) ?_ rfl ⟨by rw [HE.out],below_setRow HB3.out (by have:=HRE.out;omega) _⟩
     exact z1w rfl _ _ (B+2) _ rfl (HZ3.out.set _)
    case false =>
     have HE:Hid (N=recK 9 c.sg 0 0 false (0,0,0) 0 o):=hid (by rw [HBE.out];rfl)
     clear HBE HAB a11
     go_upto_region 12 with (fail)
     have hbd:CB w3.drew B c:=HX3.out
     have HZ4:Hid (RB w3.drew (B+2) rz):=hid HZ3.out
     have HB4:Hid (Below W.heap.size W w3.drew):=hid HB3.out.drew
     refine wp_region_held_drew (S:=fun w'=>Hid (CB w' B c)) (by kernel_rfl) (hid hbd) (fun hHeld=>?_)
     clear hbd a0 HX3 HZ3 HB3 HT3
     generalize w3.drew=Wd at *
     refine wpAnyH_take (i:=0) (oi:=⟨some 57,_,_,_,_,_⟩) (v:=.pointer (some ⟨B,0,none⟩)) rfl (by kernel_rfl) (by kernel_rfl) (by kernel_rfl) (fun _ _ _ h=>h) (Or.inl ⟨by rfl,fun w' hw'=>?_⟩) (by assumption) ?_
     · clear hHeld
       go_simp
     try simp only [Act.put,sIB,sCZ,sCS]
     refine wpAnyH_take (i:=1) (oi:=⟨some 58,_,_,_,_,_⟩) (v:=.int .u32 c.sg) rfl (by kernel_rfl) (by kernel_rfl) (by kernel_rfl) (fun _ _ _ h=>h) (Or.inl ⟨by rfl,fun w' hw'=>?_⟩) (by assumption) ?_
     · have hcx:=hw'.out.at.1
       clear hHeld hw'
       go_simp
     try simp only [Act.put,sIB,sCZ,sCS]
     refine wpAnyH_take (i:=2) (oi:=⟨some 59,_,_,_,_,_⟩) (v:=.agg (ccs c)) rfl (by kernel_rfl) (by kernel_rfl) (by kernel_rfl) (fun _ _ _ h=>h) (Or.inl ⟨by rfl,fun w' hw'=>z4e rfl (Hid.out hw')⟩) (by assumption) ?_
     try simp only [Act.put,sIB,sCZ,sCS]
     refine wpAnyH_ready (rs:=[3]) (by kernel_rfl) (by simp) (AllReadyH.cons rfl (fun K hK=>?_) (AllReadyH.nil))
     go_simp
     go_wp2_with fail
     refine (HO.out _).mono ?_
     rintro e w5 ⟨rfl,h5⟩
     have hSN:Hid (CB w5 B c):=hid (hHeld.out.later h5)
     have HZ5:=hid (HZ4.out.later h5)
     have HB5:=hid (HB4.out.trans (h5.mono HB4.out.size))
     clear h5 HZ4 HB4 HO
     go_wp2_with fail
     refine hK.out _ _ hSN (fun hHeld2=>?_)
     try simp only [Act.put,sIB,sCZ,sCS]
     clear hSN hK K hHeld
     have hHeld:=hHeld2
     clear hHeld2
     refine wpAnyH_take (i:=4) (oi:=⟨some 61,_,_,_,_,_⟩) (v:=.agg #[.int .u8 9,.int .u32 c.sg,.int .u32 0,.int .u8 0,.bool false,.int .u8 0,.int .u8 0,.int .u8 0,.int .i64 0,.int .u8 o,.int .u8 0,.int .u32 0,.int .u8 0,.slice none 0 0,.slice none 0 0,.slice none 0 0,.int .u8 0,.int .u8 0,.int .u8 0,.int .i64 0]) rfl (by kernel_rfl) (by kernel_rfl) (by kernel_rfl) (fun _ _ _ h=>h) (Or.inl ⟨by rfl,fun w' hw'=>?_⟩) (by assumption) ?_
     · clear hHeld
       go_simp
     try simp only [Act.put,sIB,sCZ,sCS]
     refine wpAnyH_ready (rs:=[5]) (by kernel_rfl) (by simp) (AllReadyH.cons rfl (fun K hK=>?_) (AllReadyH.nil))
     rw [if_pos (by rfl)]
     refine wp_store_row 42 _ _ rfl (B+2) (rcs (rvK (recK 9 c.sg 0 0 false (0,0,0) 0 o))) rfl rfl 42 _ HZ5.out (by kernel_rfl) rfl (z9v _) ?_
     have HZ6:Hid (RB (w5.setRow (B+2) (rcs (rvK (recK 9 c.sg 0 0 false (0,0,0) 0 o)))) (B+2) (rvK (recK 9 c.sg 0 0 false (0,0,0) 0 o))):=hid (HZ5.out.set _)
     have hSN:Hid (CB (w5.setRow (B+2) (rcs (rvK (recK 9 c.sg 0 0 false (0,0,0) 0 o)))) B c):=hid (hHeld.out.chg (S:=fun k=>k=B+2) ⟨rfl,rfl,rfl,by simp [World.setRow],fun k _ hn=>setRow_other _ _ _ _ hn⟩ (by omega))
     have HB6:Hid (Below W.heap.size W (w5.setRow (B+2) (rcs (rvK (recK 9 c.sg 0 0 false (0,0,0) 0 o))))):=hid (below_setRow HB5.out (by have:=HRE.out;omega) _)
     clear HZ5 HB5
     generalize w5.setRow (B+2) (rcs (rvK (recK 9 c.sg 0 0 false (0,0,0) 0 o)))=w6 at *
     refine hK.out _ _ hSN (fun hHeld2=>?_)
     try simp only [Act.put,sIB,sCZ,sCS]
     clear hSN hK K hHeld
     have hHeld:=hHeld2
     clear hHeld2
     refine wpAnyH_done (by kernel_rfl) ?_ _
     clear hHeld
     go_wp2_with fail
     (try simp only [Exit.inBlock,Exit.then])
     try rw [Exit.noGoto_ret]
     refine bodyPost_ret (v:=.agg (rcs (rvK (recK 9 c.sg 0 0 false (0,0,0) 0 o)))) ?_ rfl ⟨by rw [HE.out],HB6.out⟩
     exact z1w rfl _ _ (B+2) _ rfl HZ6.out
   | false =>
    by_cases hr:retry<c.tr
    · have HE:Hid (N=recK 8 c.sg 0 0 false (0,0,0) 0 0):=hid (by rw [HNX.out,if_neg (by omega),if_pos ⟨hb,hr⟩])
      have HBK:=hid hb
      clear HNX HBT HWI HOP HUN HTU HO HAB heq hb
      go_enter Tryz.func30,Tryz.ntmps30
      go_wp2_with fail
      refine z2y ?_
      go_upto_region 1 with (fail)
      rw [HW1.out,HRE.out]
      try rw [show B+1+1=B+2 from rfl]
      go_wp2_with ((with_reducible refine z0f HX.out ?_ ?_);rfl)
      refine hgd.mono ?_
      rintro e w2 ⟨rfl,h2⟩
      have HX2:=hid (HX.out.later h2)
      have HT2:=hid (z0b HT.out h2)
      have HZ2:=hid (HZ.out.later h2)
      have HB2:=hid (HB1.out.trans (h2.mono HB1.out.size))
      clear h2 HX HT HZ
      clear hgd
      have a14:=HX2.out.at.2.2.2.2
      have b4:=(z0i HT2.out).2.2.2.2.1
      obtain⟨a0,a11,a12,a13,_⟩:=HX2.out.at
      rw [HBK.out] at a11
      go_wp2_with (((with_reducible refine z0y (rvK (recK 8 c.sg 0 0 false (0,0,0) 0 0)) HZ2.out ?_ ?_ ?_);rfl;rfl))
      (try simp only [Exit.inBlock,Exit.then])
      try rw [z7m]
      refine bodyPost_ret (v:=.agg (rcs (rvK (recK 8 c.sg 0 0 false (0,0,0) 0 0)))) ?_ rfl ⟨by rw [HE.out],below_setRow HB2.out (by have:=HRE.out;omega) _⟩
      exact z1w rfl _ _ (B+2) _ rfl (HZ2.out.set _)
    · have HBE:Hid (N=if ty then recK 2 c.sg id a c.bk (0,0,0) 0 0 else recK 9 c.sg 0 0 false (0,0,0) 0 o):=hid (by rw [HNX.out,if_neg (by omega),if_neg (fun h=>hr h.2),HBT.out])
      have HBK:=hid hb
      clear HNX HBT HWI HOP HUN heq hb
      go_enter Tryz.func30,Tryz.ntmps30
      go_wp2_with fail
      refine z2y ?_
      go_upto_region 1 with (fail)
      rw [HW1.out,HRE.out]
      try rw [show B+1+1=B+2 from rfl]
      go_wp2_with ((with_reducible refine z0f HX.out ?_ ?_);rfl)
      refine hgd.mono ?_
      rintro e w2 ⟨rfl,h2⟩
      have HX2:=hid (HX.out.later h2)
      have HT2:=hid (z0b HT.out h2)
      have HZ2:=hid (HZ.out.later h2)
      have HB2:=hid (HB1.out.trans (h2.mono HB1.out.size))
      clear h2 HX HT HZ
      clear hgd
      have a14:=HX2.out.at.2.2.2.2
      have b4:=(z0i HT2.out).2.2.2.2.1
      obtain⟨a0,a11,a12,a13,_⟩:=HX2.out.at
      rw [HBK.out] at a11
      go_wp2_with fail
      clear a14 b4 a0 a11 a12 a13
      go_step3
      go_wp2_with ((with_reducible refine z0f HX2.out ?_ ?_);rfl)
      refine (HTU.out _ HB2.out).mono ?_
      rintro e w3 ⟨rfl,h3⟩
      have HX3:=hid (HX2.out.later h3)
      have HT3:=hid (z0b HT2.out h3)
      have HZ3:=hid (HZ2.out.later h3)
      have HB3:=hid (HB2.out.trans (h3.mono HB2.out.size))
      clear h3 HX2 HT2 HZ2
      clear HTU
      have a0:=HX3.out.at.1
      have a11:=HX3.out.at.2.1
      cases ty
      case true =>
       obtain⟨hab,hwa⟩:=HAB.out rfl
       have HE:Hid (N=recK 2 c.sg id a c.bk (0,0,0) 0 0):=hid (by rw [HBE.out];rfl)
       clear HBE HO
       go_wp2_with (((with_reducible refine z0y (rvK (recK 2 c.sg id a c.bk (0,0,0) 0 0)) HZ3.out ?_ ?_ ?_);rfl;rfl))
       (try simp only [Exit.inBlock,Exit.then])
       try rw [z7m]
       refine bodyPost_ret (v:=.agg (rcs (rvK (recK 2 c.sg id a c.bk (0,0,0) 0 0)))) ?_ rfl ⟨by rw [HE.out],below_setRow HB3.out (by have:=HRE.out;omega) _⟩
       exact z1w rfl _ _ (B+2) _ rfl (HZ3.out.set _)
      case false =>
       have HE:Hid (N=recK 9 c.sg 0 0 false (0,0,0) 0 o):=hid (by rw [HBE.out];rfl)
       clear HBE HAB a11
       go_upto_region 12 with (fail)
       have hbd:CB w3.drew B c:=HX3.out
       have HZ4:Hid (RB w3.drew (B+2) rz):=hid HZ3.out
       have HB4:Hid (Below W.heap.size W w3.drew):=hid HB3.out.drew
       refine wp_region_held_drew (S:=fun w'=>Hid (CB w' B c)) (by kernel_rfl) (hid hbd) (fun hHeld=>?_)
       clear hbd a0 HX3 HZ3 HB3 HT3
       generalize w3.drew=Wd at *
       refine wpAnyH_take (i:=0) (oi:=⟨some 57,_,_,_,_,_⟩) (v:=.pointer (some ⟨B,0,none⟩)) rfl (by kernel_rfl) (by kernel_rfl) (by kernel_rfl) (fun _ _ _ h=>h) (Or.inl ⟨by rfl,fun w' hw'=>?_⟩) (by assumption) ?_
       · clear hHeld
         go_simp
       try simp only [Act.put,sIB,sCZ,sCS]
       refine wpAnyH_take (i:=1) (oi:=⟨some 58,_,_,_,_,_⟩) (v:=.int .u32 c.sg) rfl (by kernel_rfl) (by kernel_rfl) (by kernel_rfl) (fun _ _ _ h=>h) (Or.inl ⟨by rfl,fun w' hw'=>?_⟩) (by assumption) ?_
       · have hcx:=hw'.out.at.1
         clear hHeld hw'
         go_simp
       try simp only [Act.put,sIB,sCZ,sCS]
       refine wpAnyH_take (i:=2) (oi:=⟨some 59,_,_,_,_,_⟩) (v:=.agg (ccs c)) rfl (by kernel_rfl) (by kernel_rfl) (by kernel_rfl) (fun _ _ _ h=>h) (Or.inl ⟨by rfl,fun w' hw'=>z4e rfl (Hid.out hw')⟩) (by assumption) ?_
       try simp only [Act.put,sIB,sCZ,sCS]
       refine wpAnyH_ready (rs:=[3]) (by kernel_rfl) (by simp) (AllReadyH.cons rfl (fun K hK=>?_) (AllReadyH.nil))
       go_simp
       go_wp2_with fail
       refine (HO.out _).mono ?_
       rintro e w5 ⟨rfl,h5⟩
       have hSN:Hid (CB w5 B c):=hid (hHeld.out.later h5)
       have HZ5:=hid (HZ4.out.later h5)
       have HB5:=hid (HB4.out.trans (h5.mono HB4.out.size))
       clear h5 HZ4 HB4 HO
       go_wp2_with fail
       refine hK.out _ _ hSN (fun hHeld2=>?_)
       try simp only [Act.put,sIB,sCZ,sCS]
       clear hSN hK K hHeld
       have hHeld:=hHeld2
       clear hHeld2
       refine wpAnyH_take (i:=4) (oi:=⟨some 61,_,_,_,_,_⟩) (v:=.agg #[.int .u8 9,.int .u32 c.sg,.int .u32 0,.int .u8 0,.bool false,.int .u8 0,.int .u8 0,.int .u8 0,.int .i64 0,.int .u8 o,.int .u8 0,.int .u32 0,.int .u8 0,.slice none 0 0,.slice none 0 0,.slice none 0 0,.int .u8 0,.int .u8 0,.int .u8 0,.int .i64 0]) rfl (by kernel_rfl) (by kernel_rfl) (by kernel_rfl) (fun _ _ _ h=>h) (Or.inl ⟨by rfl,fun w' hw'=>?_⟩) (by assumption) ?_
       · clear hHeld
         go_simp
       try simp only [Act.put,sIB,sCZ,sCS]
       refine wpAnyH_ready (rs:=[5]) (by kernel_rfl) (by simp) (AllReadyH.cons rfl (fun K hK=>?_) (AllReadyH.nil))
       rw [if_pos (by rfl)]
       refine wp_store_row 42 _ _ rfl (B+2) (rcs (rvK (recK 9 c.sg 0 0 false (0,0,0) 0 o))) rfl rfl 42 _ HZ5.out (by kernel_rfl) rfl (z9v _) ?_
       have HZ6:Hid (RB (w5.setRow (B+2) (rcs (rvK (recK 9 c.sg 0 0 false (0,0,0) 0 o)))) (B+2) (rvK (recK 9 c.sg 0 0 false (0,0,0) 0 o))):=hid (HZ5.out.set _)
       have hSN:Hid (CB (w5.setRow (B+2) (rcs (rvK (recK 9 c.sg 0 0 false (0,0,0) 0 o)))) B c):=hid (hHeld.out.chg (S:=fun k=>k=B+2) ⟨rfl,rfl,rfl,by simp [World.setRow],fun k _ hn=>setRow_other _ _ _ _ hn⟩ (by omega))
       have HB6:Hid (Below W.heap.size W (w5.setRow (B+2) (rcs (rvK (recK 9 c.sg 0 0 false (0,0,0) 0 o))))):=hid (below_setRow HB5.out (by have:=HRE.out;omega) _)
       clear HZ5 HB5
       generalize w5.setRow (B+2) (rcs (rvK (recK 9 c.sg 0 0 false (0,0,0) 0 o)))=w6 at *
       refine hK.out _ _ hSN (fun hHeld2=>?_)
       try simp only [Act.put,sIB,sCZ,sCS]
       clear hSN hK K hHeld
       have hHeld:=hHeld2
       clear hHeld2
       refine wpAnyH_done (by kernel_rfl) ?_ _
       clear hHeld
       go_wp2_with fail
       (try simp only [Exit.inBlock,Exit.then])
       try rw [z7m]
       refine bodyPost_ret (v:=.agg (rcs (rvK (recK 9 c.sg 0 0 false (0,0,0) 0 o)))) ?_ rfl ⟨by rw [HE.out],HB6.out⟩
       exact z1w rfl _ _ (B+2) _ rfl HZ6.out
abbrev cwP:Pg:=⟨3,1,0,[],[(1,0,0,2)],[],0,0,0,0⟩
abbrev cwC:Crs:=⟨4,cwP,false,0,0,0⟩
theorem cw_0:z6j ⟨1,4,0,0,false,(0,0,0),0,0,cwP⟩=(cwC,0):=by
 unfold z6j
 rw [if_pos ⟨rfl,by kernel_rfl⟩]
theorem cw_1:z2d ⟨4,cwP,false,0,2,0⟩ tc0 2 9=recK 2 4 9 0 false (0,0,0) 0 0:=by kernel_rfl
theorem cw_2:z2d ⟨4,cwP,false,0,3,0⟩ tc0 2 9=recK 8 4 0 0 false (0,0,0) 0 0:=by kernel_rfl
theorem cw_3:appX ⟨4,cwP,false,0,3,0⟩ (recK 8 4 0 0 false (0,0,0) 0 0)=(⟨4,cwP,true,0,3,0⟩,0):=by kernel_rfl
theorem cw_4:z2d ⟨4,cwP,true,0,3,0⟩ tc0 2 9=recK 9 4 0 0 false (0,0,0) 0 2:=by kernel_rfl
theorem cw_pok:Pgok cwP:=⟨by decide,by decide,by decide,(fun x hx=>by cases hx),(fun x hx=>by
 obtain rfl:=List.mem_singleton.1 hx
 exact⟨by decide,by decide,by decide,by unfold In64;decide⟩),(fun x hx=>by cases hx),by decide,by decide,by decide,by unfold In64;decide⟩
theorem q2r (b:Bool) (r:Int) (h:0≤r∧r≤3):Crok ⟨4,cwP,b,0,r,0⟩:=⟨by simp only;omega,cw_pok,by unfold In64;simp only;omega,by unfold In64;simp only;omega,by simp only;omega⟩
theorem cw_xok:Rxok ⟨1,4,0,0,false,(0,0,0),0,0,cwP⟩:=⟨by decide,by decide,by decide,by decide,⟨by decide,by decide,by decide⟩,by unfold In64;decide,by decide,cw_pok⟩
theorem cr_new0 (w:World) (c:Cv):CB ((w.alloc (.cells #[.int .u32 0,.int .u8 0,.int .u32 0,.int .u8 0,.slice none 0 0,.slice none 0 0,.slice none 0 0,.int .u8 0,.int .u8 0,.int .u8 0,.int .i64 0,.bool false,.int .i64 0,.int .i64 0,.int .u32 0] 34)).setRow w.heap.size (ccs c)) w.heap.size c∧Below w.heap.size w ((w.alloc (.cells #[.int .u32 0,.int .u8 0,.int .u32 0,.int .u8 0,.slice none 0 0,.slice none 0 0,.slice none 0 0,.int .u8 0,.int .u8 0,.int .u8 0,.int .i64 0,.bool false,.int .i64 0,.int .i64 0,.int .u32 0] 34)).setRow w.heap.size (ccs c)) :=
 ⟨(CB.new w cz).set c,below_setRow ((Below.refl _ _).alloc (Nat.le_refl _) _) (Nat.le_refl _) _⟩
theorem q1c (w:World) (r:Rv):RB ((w.alloc (.cells #[.int .u8 0,.int .u32 0,.int .u32 0,.int .u8 0,.bool false,.int .u8 0,.int .u8 0,.int .u8 0,.int .i64 0,.int .u8 0,.int .u8 0,.int .u32 0,.int .u8 0,.slice none 0 0,.slice none 0 0,.slice none 0 0,.int .u8 0,.int .u8 0,.int .u8 0,.int .i64 0] 42)).setRow w.heap.size (rcs r)) w.heap.size r∧Below w.heap.size w ((w.alloc (.cells #[.int .u8 0,.int .u32 0,.int .u32 0,.int .u8 0,.bool false,.int .u8 0,.int .u8 0,.int .u8 0,.int .i64 0,.int .u8 0,.int .u8 0,.int .u32 0,.int .u8 0,.slice none 0 0,.slice none 0 0,.slice none 0 0,.int .u8 0,.int .u8 0,.int .u8 0,.int .i64 0] 42)).setRow w.heap.size (rcs r)) :=
 ⟨(RB.new w rz).set r,below_setRow ((Below.refl _ _).alloc (Nat.le_refl _) _) (Nat.le_refl _) _⟩
theorem cw_keep {w w':World} {c:Cv} {A:Nat} (h:CvM w c [] [(1,0,0,2)] []) (hlt:∀ a,c.p.tp=some a→a.block<A) (hs:w.heap.size≤w'.heap.size) (hb:∀ k,k<w.heap.size→¬ k=A→w'.heap[k]?=w.heap[k]?):CvM w' c [] [(1,0,0,2)] [] :=
 ⟨h.l.turn hs (fun h0 a ha hl=>by have:=h.l.len;simp at this;omega),h.t.turn hs (fun _ a ha hl=>hb _ hl (by have:=hlt a ha;omega)),h.o.turn hs (fun h0 a ha hl=>by have:=h.o.len;simp at this;omega)⟩
theorem q0i {w:World} {c:Cv} {T:List Tk} {L M:List Ln} (h:CvM w c L T M) (h1:L.length≤400) (h2:T.length≤400) (h3:M.length≤400):c.p.ln≤400∧c.p.tn≤400∧c.p.wn≤400:=by
 have:=h.l.len
 have:=h.t.len
 have:=h.o.len
 omega
theorem cx_lists {c:Cv} {L:List Ln} {T:List Tk} {M:List Ln} {sg st tr tx:Int} {b:Bool} (h:c.x L T M=⟨sg,cwP,b,st,tr,tx⟩):L=[]∧T=[(1,0,0,2)]∧M=[]:=by
 have hp:c.p.pg L T M=cwP:=congrArg Crs.P h
 exact⟨congrArg Pg.lines hp,congrArg Pg.takes hp,congrArg Pg.owes hp⟩
set_option maxRecDepth 100000 in
theorem z7n (W:World) (hw:Words W):Calls Tryz.prog 9 #[] W fun e w'=>e=.returned (.bool true)∧Below W.heap.size W w':=by
 have HW:=hid fun w' (hb:Below W.heap.size W w')=>hw.later hb
 obtain⟨G,hG⟩:∃ G,W.heap.size=G:=⟨_,rfl⟩
 have HG:=hid hG
 obtain⟨W1,hW1,hb1⟩:∃ W1,W.alloc (.cells #[.int .u32 1,.int .u8 0,.int .u8 0,.int .i64 2] 73)=W1∧Below W.heap.size W W1:=⟨_,rfl,(Below.refl _ _).alloc (Nat.le_refl _) _⟩
 have hblk:=z0c W (.cells #[.int .u32 1,.int .u8 0,.int .u8 0,.int .i64 2] 73)
 rw [hW1] at hblk
 have hT:TKL W1 (some ⟨W.heap.size,0,none⟩) 1 1 [(1,0,0,2)]:=by
  refine⟨rfl,Nat.le_refl _,by decide,(fun h=>by cases h),fun _=>⟨_,_,rfl,z0g hblk,fun j hj i v hv=>?_⟩⟩
  obtain rfl:j=0:=by omega
  show W1.cell? ⟨W.heap.size,0+0*4+i,none⟩=some v
  simp only [Nat.zero_mul,Nat.zero_add]
  exact z0a hblk (by simpa [tkc,tk0] using hv)
 rw [hG] at hT
 obtain⟨r0,hr0⟩:∃ r0:Rv,r0=⟨1,4,0,0,false,0,0,0,0,0,3,1,0,none,0,0,some ⟨G,0,none⟩,1,1,none,0,0,0,0,0,0⟩:=⟨_,rfl⟩
 have hx0:r0.x [] [(1,0,0,2)] []=⟨1,4,0,0,false,(0,0,0),0,0,cwP⟩:=by rw [hr0];rfl
 have hS:=cr_start r0 [] [(1,0,0,2)] [] W1 (hw.later hb1) (by rw [hr0];exact⟨SlG.empty _,hT,SlG.empty _⟩) (by rw [hx0];exact cw_xok) (by rw [hr0];exact⟨by simp only;omega,by simp only;omega,by simp only;omega⟩)
 rw [hx0,cw_0] at hS
 have HS:Hid (Calls Tryz.prog 26 #[.agg #[.int .u8 1,.int .u32 4,.int .u32 0,.int .u8 0,.bool false,.int .u8 0,.int .u8 0,.int .u8 0,.int .i64 0,.int .u8 0,.int .u8 3,.int .u32 1,.int .u8 0,.slice none 0 0,.slice (some ⟨G,0,none⟩) 1 1,.slice none 0 0,.int .u8 0,.int .u8 0,.int .u8 0,.int .i64 0]] W1 (q0p W1 cwC 0)):=hid (by rw [hr0] at hS;exact hS)
 have HB1:=hid hb1
 have HW1:=hid hW1
 clear hw hW1 hb1 hblk hT hr0 hS hx0 hG
 go_enter Tryz.func9,Tryz.ntmps9
 go_wp2_with fail
 rw [HW1.out,HG.out]
 refine HS.out.mono ?_
 rintro e w2 ⟨c,L,T,M,rfl,hm2,hx2,h2⟩
 obtain⟨rfl,rfl,rfl⟩:=cx_lists hx2
 have HLT0:Hid (∀ a,c.p.tp=some a→a.block<w2.heap.size):=hid (fun a ha=>by
  have h1:=hm2.t.len
  obtain⟨b,off,hp,hb,_⟩:=hm2.t.cell (by rw [← h1];decide)
  rw [hp] at ha
  cases ha
  exact hb)
 have HM2:=hid hm2
 have HX2:=hid hx2
 have HB2:=hid (HB1.out.trans (h2.mono HB1.out.size))
 clear hm2 hx2 h2 HS
 obtain⟨hc3,hb3⟩:=cr_new0 w2 c
 obtain⟨w3,hw3⟩:∃ w3,(w2.alloc (.cells #[.int .u32 0,.int .u8 0,.int .u32 0,.int .u8 0,.slice none 0 0,.slice none 0 0,.slice none 0 0,.int .u8 0,.int .u8 0,.int .u8 0,.int .i64 0,.bool false,.int .i64 0,.int .i64 0,.int .u32 0] 34)).setRow w2.heap.size (ccs c)=w3:=⟨_,rfl⟩
 obtain⟨A,hA⟩:∃ A,w2.heap.size=A:=⟨_,rfl⟩
 have hz2:CB (w2.alloc (.cells #[.int .u32 0,.int .u8 0,.int .u32 0,.int .u8 0,.slice none 0 0,.slice none 0 0,.slice none 0 0,.int .u8 0,.int .u8 0,.int .u8 0,.int .i64 0,.bool false,.int .i64 0,.int .i64 0,.int .u32 0] 34)) w2.heap.size cz:=CB.new w2 cz
 rw [hw3] at hc3 hb3
 have HZ2:=hid hz2
 have HW3:=hid hw3
 have HAA:=hid hA
 rw [hA] at hc3
 have HC3:=hid hc3
 have HM3:=hid (HM2.out.later hb3)
 have HB3:=hid (HB2.out.trans (hb3.mono HB2.out.size))
 have HAW:Hid (W.heap.size≤A):=hid (by rw [← hA];exact HB2.out.size)
 rw [hA] at HLT0
 clear hc3 hb3 hw3 hA hz2 HM2
 go_upto_region 2 with ((with_reducible refine z0p c HZ2.out ?_ ?_ ?_);rfl;rfl)
 rw [HW3.out,HAA.out]
 clear HZ2 HW3 HAA HB2
 have HLT:Hid (∀ a,c.p.tp=some a→a.block<A):=hid (fun a ha=>HLT0.out a ha)
 have f13:=HC3.out.free 13
 have a13:=HC3.out.at.2.2.2.1
 have HC4:Hid (CB (w3.setCell ⟨A,13,none⟩ (.int .i64 2)) A { c with tr:=2 }):=hid (HC3.out.put 13 _ _ rfl)
 have hch:Chg (fun k=>k=A) w3 (w3.setCell ⟨A,13,none⟩ (.int .i64 2)):=(Chg.refl _ _).setCell _ _ fun _=>rfl
 have HM4:Hid (CvM (w3.setCell ⟨A,13,none⟩ (.int .i64 2)) { c with tr:=2 } [] [(1,0,0,2)] []):=hid (cw_keep (c:={ c with tr:=2 }) HM3.out HLT.out hch.size hch.block)
 have HB4:Hid (Below W.heap.size W (w3.setCell ⟨A,13,none⟩ (.int .i64 2))):=hid (Chg.below HB3.out HB3.out.size hch fun k hk=>by rw [hk];exact HAW.out)
 clear hch
 go_upto_region 3 with (fail)
 clear f13 a13 HC3 HM3 HB3
 generalize w3.setCell ⟨A,13,none⟩ (.int .i64 2)=w4 at *
 have hx4:({ c with tr:=2 }:Cv).x [] [(1,0,0,2)] []=⟨4,cwP,false,0,2,0⟩:=by rw [show ({ c with tr:=2 }:Cv).x [] [(1,0,0,2)] []={ c.x [] [(1,0,0,2)] [] with tr:=2 } from rfl,HX2.out]
 have hn:=q0j { c with tr:=2 } [] [(1,0,0,2)] [] w4 (HW.out _ HB4.out) HM4.out (by rw [hx4];exact q2r _ _ ⟨by omega,by omega⟩) (q0i HM4.out (by simp) (by simp) (by simp)) tv0 2 9 (q1w _) (fun o ho=>by cases ho) (by decide)
 rw [hx4,show tv0.c=tc0 from rfl,cw_1] at hn
 go_wp2_with ((with_reducible refine z0f HC4.out ?_ ?_);rfl)
 refine hn.mono ?_
 rintro e w5 ⟨rfl,h5⟩
 have HC5:=hid (HC4.out.later h5)
 have HM5:=hid (HM4.out.later h5)
 have HB5:=hid (HB4.out.trans (h5.mono HB4.out.size))
 clear h5 hn HB4 HC4 HM4
 obtain⟨hr6,hb6⟩:=q1c w5 (rvK (recK 2 4 9 0 false (0,0,0) 0 0))
 obtain⟨w6,hw6⟩:∃ w6,(w5.alloc (.cells #[.int .u8 0,.int .u32 0,.int .u32 0,.int .u8 0,.bool false,.int .u8 0,.int .u8 0,.int .u8 0,.int .i64 0,.int .u8 0,.int .u8 0,.int .u32 0,.int .u8 0,.slice none 0 0,.slice none 0 0,.slice none 0 0,.int .u8 0,.int .u8 0,.int .u8 0,.int .i64 0] 42)).setRow w5.heap.size (rcs (rvK (recK 2 4 9 0 false (0,0,0) 0 0)))=w6:=⟨_,rfl⟩
 obtain⟨R,hR⟩:∃ R,w5.heap.size=R:=⟨_,rfl⟩
 have hz5:RB (w5.alloc (.cells #[.int .u8 0,.int .u32 0,.int .u32 0,.int .u8 0,.bool false,.int .u8 0,.int .u8 0,.int .u8 0,.int .i64 0,.int .u8 0,.int .u8 0,.int .u32 0,.int .u8 0,.slice none 0 0,.slice none 0 0,.slice none 0 0,.int .u8 0,.int .u8 0,.int .u8 0,.int .i64 0] 42)) w5.heap.size rz:=RB.new w5 rz
 rw [hw6] at hr6 hb6
 rw [hR] at hr6
 have HZ5:=hid hz5
 have HW6:=hid hw6
 have HRR:=hid hR
 have HR6:=hid hr6
 have HC6:=hid (HC5.out.later hb6)
 have HM6:=hid (HM5.out.later hb6)
 have HB6:=hid (HB5.out.trans (hb6.mono HB5.out.size))
 have HNR:Hid (A<R):=hid (by rw [← hR];exact HC5.out.lt)
 clear hr6 hb6 hw6 hR hz5 HB5 HC5 HM5
 go_upto_region 4 with ((with_reducible refine z0y (rvK (recK 2 4 9 0 false (0,0,0) 0 0)) HZ5.out ?_ ?_ ?_);rfl;rfl)
 rw [HW6.out,HRR.out]
 clear HZ5 HW6 HRR
 clear hx4
 have f13:=HC6.out.free 13
 have a13:=HC6.out.at.2.2.2.1
 have HC7:Hid (CB (w6.setCell ⟨A,13,none⟩ (.int .i64 3)) A { c with tr:=3 }):=hid (HC6.out.put 13 _ _ rfl)
 have hch:Chg (fun k=>k=A) w6 (w6.setCell ⟨A,13,none⟩ (.int .i64 3)):=(Chg.refl _ _).setCell _ _ fun _=>rfl
 have HM7:Hid (CvM (w6.setCell ⟨A,13,none⟩ (.int .i64 3)) { c with tr:=3 } [] [(1,0,0,2)] []):=hid (cw_keep (c:={ c with tr:=3 }) HM6.out HLT.out hch.size hch.block)
 have HB7:Hid (Below W.heap.size W (w6.setCell ⟨A,13,none⟩ (.int .i64 3))):=hid (Chg.below HB6.out HB6.out.size hch fun k hk=>by rw [hk];exact HAW.out)
 have HR7:=hid (HR6.out.chg hch (by have:=HNR.out;omega))
 clear hch
 go_upto_region 5 with (fail)
 clear f13 a13 HC6 HM6 HB6 HR6
 generalize w6.setCell ⟨A,13,none⟩ (.int .i64 3)=w7 at *
 have hx7:({ c with tr:=3 }:Cv).x [] [(1,0,0,2)] []=⟨4,cwP,false,0,3,0⟩:=by rw [show ({ c with tr:=3 }:Cv).x [] [(1,0,0,2)] []={ c.x [] [(1,0,0,2)] [] with tr:=3 } from rfl,HX2.out]
 have hn:=q0j { c with tr:=3 } [] [(1,0,0,2)] [] w7 (HW.out _ HB7.out) HM7.out (by rw [hx7];exact q2r _ _ ⟨by omega,by omega⟩) (q0i HM7.out (by simp) (by simp) (by simp)) tv0 2 9 (q1w _) (fun o ho=>by cases ho) (by decide)
 rw [hx7,show tv0.c=tc0 from rfl,cw_2] at hn
 go_wp2_with ((with_reducible refine z0f HC7.out ?_ ?_);rfl)
 refine hn.mono ?_
 rintro e w8 ⟨rfl,h8⟩
 have HC8:=hid (HC7.out.later h8)
 have HM8:=hid (HM7.out.later h8)
 have HR8:=hid (HR7.out.later h8)
 have HB8:=hid (HB7.out.trans (h8.mono HB7.out.size))
 clear h8 hn HB7 HC7 HM7 HR7
 obtain⟨hr9,hb9⟩:=q1c w8 (rvK (recK 8 4 0 0 false (0,0,0) 0 0))
 obtain⟨w9,hw9⟩:∃ w9,(w8.alloc (.cells #[.int .u8 0,.int .u32 0,.int .u32 0,.int .u8 0,.bool false,.int .u8 0,.int .u8 0,.int .u8 0,.int .i64 0,.int .u8 0,.int .u8 0,.int .u32 0,.int .u8 0,.slice none 0 0,.slice none 0 0,.slice none 0 0,.int .u8 0,.int .u8 0,.int .u8 0,.int .i64 0] 42)).setRow w8.heap.size (rcs (rvK (recK 8 4 0 0 false (0,0,0) 0 0)))=w9:=⟨_,rfl⟩
 obtain⟨S,hS⟩:∃ S,w8.heap.size=S:=⟨_,rfl⟩
 have hz8:RB (w8.alloc (.cells #[.int .u8 0,.int .u32 0,.int .u32 0,.int .u8 0,.bool false,.int .u8 0,.int .u8 0,.int .u8 0,.int .i64 0,.int .u8 0,.int .u8 0,.int .u32 0,.int .u8 0,.slice none 0 0,.slice none 0 0,.slice none 0 0,.int .u8 0,.int .u8 0,.int .u8 0,.int .i64 0] 42)) w8.heap.size rz:=RB.new w8 rz
 rw [hw9] at hr9 hb9
 rw [hS] at hr9
 have HZ8:=hid hz8
 have HW9:=hid hw9
 have HSS:=hid hS
 have HS9:=hid hr9
 have HC9:=hid (HC8.out.later hb9)
 have HM9:=hid (HM8.out.later hb9)
 have HR9:=hid (HR8.out.later hb9)
 have HB9:=hid (HB8.out.trans (hb9.mono HB8.out.size))
 have HNS:Hid (A<S):=hid (by rw [← hS];exact HC8.out.lt)
 clear hr9 hb9 hw9 hS hz8 HB8 HC8 HM8 HR8
 go_upto_region 6 with ((with_reducible refine z0y (rvK (recK 8 4 0 0 false (0,0,0) 0 0)) HZ8.out ?_ ?_ ?_);rfl;rfl)
 rw [HW9.out,HSS.out]
 clear HZ8 HW9 HSS
 have ha:=cr_apply { c with tr:=3 } [] [(1,0,0,2)] [] w9 (HW.out _ HB9.out) HM9.out (by rw [hx7];exact q2r _ _ ⟨by omega,by omega⟩) (q0i HM9.out (by simp) (by simp) (by simp)) (rvK (recK 8 4 0 0 false (0,0,0) 0 0)) [] [] [] (q2s _ _) (by rw [q1a rfl];exact⟨by decide,by decide,by decide,by decide,⟨by decide,by decide,by decide⟩,by unfold In64;decide,by decide,⟨by decide,by decide,by decide,(fun x hx=>by cases hx),(fun x hx=>by cases hx),(fun x hx=>by cases hx),by decide,by decide,by decide,by unfold In64;decide⟩⟩) ⟨by decide,by decide,by decide⟩
 rw [hx7,q1a rfl,cw_3] at ha
 go_wp2_with (first | ((with_reducible refine z0f HC9.out ?_ ?_);rfl) | ((with_reducible refine z0j HS9.out ?_ ?_);rfl))
 refine ha.mono ?_
 rintro e w10 ⟨d,L,T,M,rfl,hm10,hx10,h10⟩
 obtain⟨rfl,rfl,rfl⟩:=cx_lists hx10
 have HR10:=hid (HR9.out.later h10)
 have HS10:=hid (HS9.out.later h10)
 have HB10:=hid (HB9.out.trans (h10.mono HB9.out.size))
 clear h10 ha HB9 HC9 HM9 HR9 HS9
 obtain⟨hc11,hb11⟩:=cr_new0 w10 d
 obtain⟨w11,hw11⟩:∃ w11,(w10.alloc (.cells #[.int .u32 0,.int .u8 0,.int .u32 0,.int .u8 0,.slice none 0 0,.slice none 0 0,.slice none 0 0,.int .u8 0,.int .u8 0,.int .u8 0,.int .i64 0,.bool false,.int .i64 0,.int .i64 0,.int .u32 0] 34)).setRow w10.heap.size (ccs d)=w11:=⟨_,rfl⟩
 obtain⟨D,hD⟩:∃ D,w10.heap.size=D:=⟨_,rfl⟩
 have hz10:CB (w10.alloc (.cells #[.int .u32 0,.int .u8 0,.int .u32 0,.int .u8 0,.slice none 0 0,.slice none 0 0,.slice none 0 0,.int .u8 0,.int .u8 0,.int .u8 0,.int .i64 0,.bool false,.int .i64 0,.int .i64 0,.int .u32 0] 34)) w10.heap.size cz:=CB.new w10 cz
 rw [hw11] at hc11 hb11
 rw [hD] at hc11
 have HZ10:=hid hz10
 have HW11:=hid hw11
 have HDD:=hid hD
 have HD11:=hid hc11
 have HR11:=hid (HR10.out.later hb11)
 have HS11:=hid (HS10.out.later hb11)
 have HM11:Hid (CvM w11 d [] [(1,0,0,2)] []):=hid (PgM.later hm10 hb11)
 have HB11:=hid (HB10.out.trans (hb11.mono HB10.out.size))
 clear hc11 hb11 hw11 hD hz10 hm10 HB10 HR10 HS10
 go_upto_region 7 with ((with_reducible refine z0p d HZ10.out ?_ ?_ ?_);rfl;rfl)
 rw [HW11.out,HDD.out]
 clear HZ10 HW11 HDD
 have hn:=q0j d [] [(1,0,0,2)] [] w11 (HW.out _ HB11.out) HM11.out (by rw [hx10];exact q2r _ _ ⟨by omega,by omega⟩) (q0i HM11.out (by simp) (by simp) (by simp)) tv0 2 9 (q1w _) (fun o ho=>by cases ho) (by decide)
 rw [hx10,show tv0.c=tc0 from rfl,cw_4] at hn
 go_wp2_with ((with_reducible refine z0f HD11.out ?_ ?_);rfl)
 refine hn.mono ?_
 rintro e w12 ⟨rfl,h12⟩
 have HD12:=hid (HD11.out.later h12)
 have HM12:=hid (HM11.out.later h12)
 have HR12:=hid (HR11.out.later h12)
 have HS12:=hid (HS11.out.later h12)
 have HB12:=hid (HB11.out.trans (h12.mono HB11.out.size))
 clear h12 hn HB11 HD11 HM11 HR11 HS11
 obtain⟨hr13,hb13⟩:=q1c w12 (rvK (recK 9 4 0 0 false (0,0,0) 0 2))
 obtain⟨w13,hw13⟩:∃ w13,(w12.alloc (.cells #[.int .u8 0,.int .u32 0,.int .u32 0,.int .u8 0,.bool false,.int .u8 0,.int .u8 0,.int .u8 0,.int .i64 0,.int .u8 0,.int .u8 0,.int .u32 0,.int .u8 0,.slice none 0 0,.slice none 0 0,.slice none 0 0,.int .u8 0,.int .u8 0,.int .u8 0,.int .i64 0] 42)).setRow w12.heap.size (rcs (rvK (recK 9 4 0 0 false (0,0,0) 0 2)))=w13:=⟨_,rfl⟩
 obtain⟨Q,hQ⟩:∃ Q,w12.heap.size=Q:=⟨_,rfl⟩
 have hz12:RB (w12.alloc (.cells #[.int .u8 0,.int .u32 0,.int .u32 0,.int .u8 0,.bool false,.int .u8 0,.int .u8 0,.int .u8 0,.int .i64 0,.int .u8 0,.int .u8 0,.int .u32 0,.int .u8 0,.slice none 0 0,.slice none 0 0,.slice none 0 0,.int .u8 0,.int .u8 0,.int .u8 0,.int .i64 0] 42)) w12.heap.size rz:=RB.new w12 rz
 rw [hw13] at hr13 hb13
 rw [hQ] at hr13
 have HZ12:=hid hz12
 have HW13:=hid hw13
 have HQQ:=hid hQ
 have HQ13:=hid hr13
 have HD13:=hid (HD12.out.later hb13)
 have HM13:=hid (HM12.out.later hb13)
 have HR13:=hid (HR12.out.later hb13)
 have HS13:=hid (HS12.out.later hb13)
 have HB13:=hid (HB12.out.trans (hb13.mono HB12.out.size))
 clear hr13 hb13 hw13 hQ hz12 HB12 HD12 HM12 HR12 HS12
 go_upto_region 8 with ((with_reducible refine z0y (rvK (recK 9 4 0 0 false (0,0,0) 0 2)) HZ12.out ?_ ?_ ?_);rfl;rfl)
 rw [HW13.out,HQQ.out]
 clear HZ12 HW13 HQQ
 have hdb:d.bk=true:=by
  have:=congrArg Crs.bk hx10
  exact this
 have a0:=HR13.out.at.1
 have a2:=HR13.out.at.2.2.1
 have b0:=HS13.out.at.1
 have d11:=HD13.out.at.2.1
 rw [hdb] at d11
 have q0:=HQ13.out.at.1
 have q9:=z0a (j:=9) HQ13.out (v:=.int .u8 2) rfl
 have a0':w13.cell? ⟨R,0,none⟩=some (.int .u8 2):=a0
 have a2':w13.cell? ⟨R,2,none⟩=some (.int .u32 9):=a2
 have b0':w13.cell? ⟨S,0,none⟩=some (.int .u8 8):=b0
 have q0':w13.cell? ⟨Q,0,none⟩=some (.int .u8 9):=q0
 clear a0 a2 b0 q0 hdb hx10 hx7
 go_wp2_with fail
 go_ret
 exact⟨rfl,HB13.out⟩
end Go.Proofs.YtclbkfpbdidaiaaGreatDoor
namespace Go.Proofs.YtclbkfpbdidaiaaGreatDoor
open Go.Lib (hid)
set_option maxHeartbeats 16000000
open Go.RowKit
set_option linter.unusedVariables false
set_option linter.unusedSimpArgs false
set_option maxRecDepth 10000
def q2t (n:Nat):Int:=28+22*(n:Int)
def failN (n:Nat):Int:=39+44*(n:Int)
def q1y (s:Stp):Int:=q2t (opsT s).length
def q1h (s:Stp):Int:=failN (opsT s).length
def z3b:List Stp→Int
 | []=>0
 | s::S=>q1y s+z3b S
def z9j (S:List Stp):Int:=S.foldl (fun m s=>if m<q1h s then q1h s else m) 0
theorem passL_app (A B:List Stp):z3b (A++B)=z3b A+z3b B:=by
 induction A with
 | nil=>simp [z3b]
 | cons s A ih=>simp only [List.cons_append,z3b,ih];omega
theorem passL_one (S:List Stp) (j:Nat) (h:j<S.length):z3b (S.take (j+1))=z3b (S.take j)+q1y (S.getD j (0,0,[])):=by
 rw [List.take_add_one,List.getElem?_eq_getElem h,passL_app]
 simp [z3b,List.getD,List.getElem?_eq_getElem h]
theorem z1q (S:List Stp):0≤z3b S:=by
 induction S with
 | nil=>exact Int.le_refl 0
 | cons s A ih=>simp only [z3b,q1y,q2t];omega
theorem passL_split (S:List Stp) (j:Nat):z3b S=z3b (S.take j)+z3b (S.drop j):=by
 rw [← passL_app,List.take_append_drop]
theorem passL_at (S:List Stp) (j:Nat) (h:j<S.length):z3b (S.drop j)=q1y (S.getD j (0,0,[]))+z3b (S.drop (j+1)):=by
 rw [List.drop_eq_getElem_cons h]
 simp [z3b,List.getD,List.getElem?_eq_getElem h]
theorem take_end (S:List Stp) (j:Nat) (h:j<S.length):S.take (j+1)=S.take j ++ [S.getD j (0,0,[])]:=by
 rw [List.take_add_one,List.getElem?_eq_getElem h]
 simp [List.getD,List.getElem?_eq_getElem h]
theorem failL_one (S:List Stp) (j:Nat) (h:j<S.length):z9j (S.take (j+1))=if z9j (S.take j)<q1h (S.getD j (0,0,[])) then q1h (S.getD j (0,0,[])) else z9j (S.take j):=by
 rw [take_end S j h]
 unfold z9j
 rw [List.foldl_append]
 rfl
theorem failL_ge (S:List Stp):∀ j,j≤S.length→0≤z9j (S.take j)∧∀ i,i<j→q1h (S.getD i (0,0,[]))≤z9j (S.take j):=by
 intro j
 induction j with
 | zero=>intro _;exact⟨by simp [z9j],fun i h=>by omega⟩
 | succ j ih =>
  intro hj
  obtain⟨h1,h2⟩:=ih (by omega)
  rw [failL_one S j (by omega)]
  refine⟨by split <;> omega,fun i hi=>?_⟩
  rcases (by omega:i=j∨i<j) with rfl | h
  · split <;> omega
  · have:=h2 i h
    split <;> omega
theorem failL_all (S:List Stp):z9j (S.take S.length)=z9j S:=by rw [List.take_length]
def q2n (retry:Int):Int:=if retry<0 then 0 else if 4<retry then 4 else retry
def thrC (c:Crs) (retry:Int):Int:=if c.tr≤q2n retry then q2n retry+1-c.tr else 0
def attP (P:Pg):Int:=z9j (z0k P)
def z5d (c:Crs) (retry:Int):Int :=
 if z3c c=false then 0
 else if c.bk then z3b ((z0k c.P).take c.st.toNat)+12
 else z3b ((z0k c.P).drop c.st.toNat)+thrC c retry*attP c.P+11+z3b (z0k c.P)+12
def allC (c:Crs) (dd:Bool) (retry:Int):Int:=z5d c retry+attP c.P+(if dd=true∧c.bk=false then attP c.P else 0)
def z5f (c:Crs) (dd:Bool) (sz retry:Int):Int :=
 if z3c c=false then 0
 else if c.tx=0 then z5d c retry+attP c.P
 else if allC c dd retry≤sz then 0 else allC c dd retry-sz
theorem z2p {X:Rx} (h:z1j X=true) (hk:X.k≠1):z1e X=costI X.k:=by
 have hko:=z7k h
 have h1:costI X.k=6+(lenK X.k:Int):=if_pos ⟨hko,hk⟩
 have h2:z1e X=6+((z0r X).length:Int):=if_pos h
 rw [h1,h2,bytes_len hko,if_neg hk]
 rfl
def hdC (c:Crs) (M:List Tc) (R:Int):Int:=z5f c (tOf M).dd (tOf M).sz R
def SZ (P:Pg) (M:List Tc):Prop:=∀ t∈M,(t.dd=false→t.sz=17+22*(t.dn.length:Int))∧(t.dd=true→∃ k0:Nat,t.dn.length≤k0∧39+44*(k0:Int)≤attP P∧t.sz=28+22*(k0:Int)+22*((k0:Int)-(t.dn.length:Int)))
theorem SZ.nil (P:Pg):SZ P []:=fun t ht=>by cases ht
theorem SZ.live {P:Pg} {t:Tc} (h:t.dd=false) (hs:t.sz=17+22*(t.dn.length:Int)):SZ P [t]:=fun u hu=>by
 rw [List.mem_singleton] at hu
 subst hu
 exact⟨fun _=>hs,fun e=>by rw [h] at e;cases e⟩
theorem SZ.dead {P:Pg} {t:Tc} (h:t.dd=true) (k0:Nat) (h1:t.dn.length≤k0) (h2:39+44*(k0:Int)≤attP P) (hs:t.sz=28+22*(k0:Int)+22*((k0:Int)-(t.dn.length:Int))):SZ P [t]:=fun u hu=>by
 rw [List.mem_singleton] at hu
 subst hu
 exact⟨(fun e=>by rw [h] at e;cases e),fun _=>⟨k0,h1,h2,hs⟩⟩
theorem z4b {c c':Crs} {X:Rx} (h:appX c X=(c',0)):c'=z9f c X∧z1j X=true∧X.k≠1:=by
 unfold appX at h
 split at h
 · cases h
 split at h
 · cases h
 rename_i h1
 split at h
 · cases h
 simp only [Prod.mk.injEq] at h
 refine⟨h.1.symm,?_,fun e=>h1 (.inr e)⟩
 cases hg:z1j X with
 | true=>rfl
 | false=>exact absurd (.inl hg) h1
section
variable {P:Pg} {R:Int} (hg:z0l 4 4 P=true) (hok:Pgok P) (hR:0≤R∧R≤4)
include hg hok hR
theorem q2k (s:Int) (h:0≤s∧s<lenA P) (k:Nat) (hk:k≤(opsT (stpA P s)).length):39+44*(k:Int)≤attP P:=by
 have _uhg:=hg
 have _uhok:=hok
 have _uhR:=hR
 have hlt:s.toNat<(z0k P).length:=by unfold lenA at h;omega
 have h1:=(failL_ge (z0k P) (z0k P).length (Nat.le_refl _)).2 s.toNat hlt
 rw [failL_all] at h1
 have h2:q1h (stpA P s)≤attP P:=h1
 unfold q1h failN at h2
 omega
theorem pass_at (s:Int) (h:0≤s∧s<lenA P):z3b ((z0k P).drop s.toNat)=28+22*((opsT (stpA P s)).length:Int)+z3b ((z0k P).drop (s+1).toNat):=by
 have _uhg:=hg
 have _uhok:=hok
 have _uhR:=hR
 have hlt:s.toNat<(z0k P).length:=by unfold lenA at h;omega
 rw [passL_at _ _ hlt,show (s+1).toNat=s.toNat+1 by omega]
 rfl
theorem pass_bk (s:Int) (h:1≤s∧s≤lenA P):z3b ((z0k P).take s.toNat)=28+22*((opsT (stpA P (s-1))).length:Int)+z3b ((z0k P).take (s-1).toNat):=by
 have _uhg:=hg
 have _uhok:=hok
 have _uhR:=hR
 have hlt:(s-1).toNat<(z0k P).length:=by unfold lenA at h;omega
 rw [show s.toNat=(s-1).toNat+1 by omega,passL_one _ _ hlt]
 show z3b _+q1y (stpA P (s-1))=_
 unfold q1y q2t
 omega
theorem z3e (s tr tx:Int) (h:0≤s∧s≤lenA P) (ht:0≤tr∧tr≤R+1):z5d ⟨1,P,false,s,tr,tx⟩ R=z3b ((z0k P).drop s.toNat)+(R+1-tr)*attP P+z3b (z0k P)+23:=by
 have _uhok:=hok
 have hgc:=z2g hg (b:=false) (tx:=tx) (tr:=tr) h ht.1
 unfold z5d
 rw [if_neg (by rw [hgc];simp),if_neg (by simp)]
 have hk:q2n R=R:=by unfold q2n;rw [if_neg (by omega),if_neg (by omega)]
 have hth:thrC ⟨1,P,false,s,tr,tx⟩ R=R+1-tr:=by
  unfold thrC
  rw [hk]
  show (if tr≤R then R+1-tr else 0)=_
  split <;> omega
 rw [hth]
 show z3b ((z0k P).drop s.toNat)+(R+1-tr)*attP P+11+z3b (z0k P)+12=_
 generalize (R+1-tr)*attP P=q
 omega
theorem z4i (s tr tx:Int) (h:0≤s∧s≤lenA P) (ht:0≤tr):z5d ⟨1,P,true,s,tr,tx⟩ R=z3b ((z0k P).take s.toNat)+12:=by
 have _uhok:=hok
 have _uhR:=hR
 have hgc:=z2g hg (b:=true) (tx:=tx) (tr:=tr) h ht
 unfold z5d
 rw [if_neg (by rw [hgc];simp),if_pos rfl]
theorem z5u (b:Bool) (s tr:Int) (h:0≤s∧s≤lenA P) (ht:0≤tr) (dd:Bool) (sz:Int):z5f ⟨1,P,b,s,tr,0⟩ dd sz R=z5d ⟨1,P,b,s,tr,0⟩ R+attP P:=by
 have _uhok:=hok
 have _uhR:=hR
 have hgc:=z2g hg (b:=b) (tx:=0) (tr:=tr) h ht
 unfold z5f
 rw [if_neg (by rw [hgc];simp),if_pos rfl]
theorem z6r (b:Bool) (s tr id:Int) (h:0≤s∧s≤lenA P) (ht:0≤tr) (hiQ:id≠0) (dd:Bool) (sz:Int) (hle:sz≤z5d ⟨1,P,b,s,tr,id⟩ R+attP P+(if dd=true∧b=false then attP P else 0)):z5f ⟨1,P,b,s,tr,id⟩ dd sz R=z5d ⟨1,P,b,s,tr,id⟩ R+attP P+(if dd=true∧b=false then attP P else 0)-sz:=by
 have _uhok:=hok
 have _uhR:=hR
 have hgc:=z2g hg (b:=b) (tx:=id) (tr:=tr) h ht
 unfold z5f
 rw [if_neg (by rw [hgc];simp),if_neg hiQ]
 have:allC ⟨1,P,b,s,tr,id⟩ dd R=z5d ⟨1,P,b,s,tr,id⟩ R+attP P+(if dd=true∧b=false then attP P else 0):=rfl
 rw [this]
 generalize (if dd=true∧b=false then attP P else 0)=y at *
 split <;> omega
structure HOut (c:Crs) (M:List Tc) (X:Rx) (c':Crs) (M':List Tc):Prop where
 sz:SZ P M'
 pos:1≤z1e X
 fall:X.k≠9→z1e X+hdC c' M' R≤hdC c M R
 last:X.k=9→z1e X≤hdC c M R
 nn:0≤hdC c' M' R
omit hg hok hR in
omit hg hok hR in
theorem att_nn:0≤attP P:=by
 have:=(failL_ge (z0k P) (z0k P).length (Nat.le_refl _)).1
 rwa [failL_all] at this
theorem q0v:39≤attP P:=by
 have h5:1≤lenA P:=by
  have:=(z1r hg hok).1
  unfold lenA
  omega
 have:=q2k hg hok hR 0 ⟨Int.le_refl 0,by omega⟩ 0 (Nat.zero_le _)
 omega
theorem rest_nn {c:Crs} {M:List Tc} {m:Int} (h:SI P R c M m):0≤z5d c R∧0≤attP c.P:=by
 have ha:=att_nn (P:=P)
 have hn5:1≤lenA P∧lenA P≤5:=by
  have:=(z1r hg hok).1
  unfold lenA
  omega
 cases h with
 | free s tr h ht =>
  rw [z3e hg hok hR s tr 0 h ht]
  have h1:=z1q ((z0k P).drop s.toNat)
  have h2:=z1q (z0k P)
  have h3:=Int.mul_nonneg (show 0≤R+1-tr by omega) ha
  exact⟨by omega,ha⟩
 | op s tr id sz k h ht hiQ hk =>
  rw [z3e hg hok hR s tr id ⟨h.1,by omega⟩ ⟨ht.1,by omega⟩]
  have h1:=z1q ((z0k P).drop s.toNat)
  have h2:=z1q (z0k P)
  have h3:=Int.mul_nonneg (show 0≤R+1-tr by omega) ha
  exact⟨by omega,ha⟩
 | dead s tr id sz k h ht hiQ hk =>
  rw [z3e hg hok hR s tr id ⟨h.1,by omega⟩ ⟨by omega,by omega⟩]
  have h1:=z1q ((z0k P).drop s.toNat)
  have h2:=z1q (z0k P)
  have h3:=Int.mul_nonneg (show 0≤R+1-tr by omega) ha
  exact⟨by omega,ha⟩
 | back s h =>
  rw [z4i hg hok hR s _ 0 h (by omega)]
  have h1:=z1q ((z0k P).take s.toNat)
  exact⟨by omega,ha⟩
 | undo s id sz k h hiQ hk =>
  rw [z4i hg hok hR s _ id ⟨by omega,h.2⟩ (by omega)]
  have h1:=z1q ((z0k P).take s.toNat)
  exact⟨by omega,ha⟩
end
theorem z5m (c:Crs) (t:Tc) (R:Int) (h:t.sg=1):hdC c [t] R=z5f c t.dd t.sz R:=by
 unfold hdC
 rw [z7q h]
theorem z4t (c:Crs) (R:Int):hdC c [] R=z5f c false 0 R:=rfl
theorem ifz (b:Bool) (a:Int):(if (false:Bool)=true∧b=false then a else 0)=0:=if_neg (by simp)
theorem ifa (a:Int):(if (true:Bool)=true∧(false:Bool)=false then a else 0)=a:=if_pos ⟨rfl,rfl⟩
section
variable {P:Pg} {R:Int} (hg:z0l 4 4 P=true) (hok:Pgok P) (hR:0≤R∧R≤4)
include hg hok hR
theorem nx_free (s tr id:Int) (h:0≤s∧s≤lenA P) (ht:0≤tr) (kill:Bool):z1l ⟨1,P,false,s,tr,0⟩ [] R id kill=if R<tr then recK 8 1 0 0 false (0,0,0) 0 0 else if s<lenA P then recK 2 1 id s false (0,0,0) 0 0 else recK 9 1 0 0 false (0,0,0) 0 1:=by
 have _uhok:=hok
 have _uhR:=hR
 have hgc:=z2g hg (b:=false) (tx:=0) h ht
 have hX0:z1l ⟨1,P,false,s,tr,0⟩ [] R id kill=z2d ⟨1,P,false,s,tr,0⟩ tc0 R id:=by
  unfold z1l
  rw [if_neg (by simp)]
  rfl
 rw [hX0]
 unfold z2d
 rw [if_neg (by rw [hgc];simp),if_neg (by simp)]
 by_cases hr:R<tr
 · rw [if_pos ⟨rfl,hr⟩,if_pos hr]
 · rw [if_neg (fun e=>hr e.2),if_neg hr]
   show (if decide (s<lenA P) then _ else _)=_
   by_cases hs:s<lenA P
   · rw [if_pos (decide_eq_true hs),if_pos hs]
     rfl
   · rw [if_neg (by simp [hs]),if_neg hs]
     rfl
theorem nx_back (s id:Int) (h:0≤s∧s≤lenA P) (kill:Bool):z1l ⟨1,P,true,s,R+1,0⟩ [] R id kill=if 0<s then recK 2 1 id (s-1) true (0,0,0) 0 0 else recK 9 1 0 0 false (0,0,0) 0 2:=by
 have _uhok:=hok
 have hgc:=z2g hg (b:=true) (tr:=R+1) (tx:=0) h (by omega)
 have hX0:z1l ⟨1,P,true,s,R+1,0⟩ [] R id kill=z2d ⟨1,P,true,s,R+1,0⟩ tc0 R id:=by
  unfold z1l
  rw [if_neg (by simp)]
  rfl
 rw [hX0]
 unfold z2d
 rw [if_neg (by rw [hgc];simp),if_neg (by simp),if_neg (by simp)]
 show (if decide (0<s) then _ else _)=_
 by_cases hs:0<s
 · rw [if_pos (decide_eq_true hs),if_pos hs]
   rfl
 · rw [if_neg (by simp [hs]),if_neg hs]
   rfl
theorem nx_op (b:Bool) (s tr id sz s':Int) (k:Nat) (L:List O) (h:0≤s∧s≤lenA P) (ht:0≤tr) (hiQ:id≠0) (hk:k≤L.length) (hop:opsC ⟨1,P,b,s,tr,id⟩=L) (id':Int) (kill:Bool):z1l ⟨1,P,b,s,tr,id⟩ [⟨id,1,s',b,false,L.take k,0,sz⟩] R id' kill=if kill=true∧b=false then recK 5 0 id 0 false (0,0,0) 0 0 else if k<L.length then recK 3 0 id 0 false (L.getD k o0).1 (L.getD k o0).2 0 else recK 4 0 id 0 false (0,0,0) 0 0:=by
 have _uhok:=hok
 have _uhR:=hR
 have hgc:=z2g hg (b:=b) (tx:=id) (tr:=tr) h ht
 obtain⟨t,hT⟩:∃ t:Tc,t=⟨id,1,s',b,false,L.take k,0,sz⟩:=⟨_,rfl⟩
 have htd:t.dd=false:=by rw [hT]
 have htn:t.dn.length=k:=by rw [hT];exact z2b L k hk
 have hti:t.id=id:=by rw [hT]
 have hto:tOf [t]=t:=z7q (by rw [hT])
 rw [← hT]
 unfold z1l
 by_cases hkl:kill=true∧b=false
 · rw [if_pos ⟨hkl.1,hiQ,by rw [hto];exact htd,hkl.2⟩,if_pos hkl]
   rfl
 · rw [if_neg (fun e=>hkl ⟨e.1,e.2.2.2⟩),if_neg hkl,hto]
   unfold z2d
   rw [if_neg (by rw [hgc];simp),if_pos (show id≠0 from hiQ),htd]
   show z3j _ t=_
   unfold z3j
   rw [hop,htn,hti]
theorem nx_dead (s tr id sz:Int) (k:Nat) (L:List O) (h:0≤s∧s≤lenA P) (ht:0≤tr) (hiQ:id≠0) (id':Int) (kill:Bool):z1l ⟨1,P,false,s,tr,id⟩ [⟨id,1,s,false,true,L.take k,0,sz⟩] R id' kill=z6i ⟨id,1,s,false,true,L.take k,0,sz⟩:=by
 have _uhok:=hok
 have _uhR:=hR
 have hgc:=z2g hg (b:=false) (tx:=id) (tr:=tr) h ht
 obtain⟨t,hT⟩:∃ t:Tc,t=⟨id,1,s,false,true,L.take k,0,sz⟩:=⟨_,rfl⟩
 have htd:t.dd=true:=by rw [hT]
 have hto:tOf [t]=t:=z7q (by rw [hT])
 rw [← hT]
 unfold z1l
 rw [if_neg (fun e=>by have:=e.2.2.1;rw [hto,htd] at this;cases this),hto]
 unfold z2d
 rw [if_neg (by rw [hgc];simp),if_pos (show id≠0 from hiQ),htd]
 rfl
theorem hold_free_step {c':Crs} {M':List Tc} {m s tr id:Int} (h:0≤s∧s≤lenA P) (ht:0≤tr∧tr≤R+1) (kill:Bool) (ho:SOut P R ⟨1,P,false,s,tr,0⟩ [] m (z1l ⟨1,P,false,s,tr,0⟩ [] R id kill) c' M'):HOut (P:=P) (R:=R) ⟨1,P,false,s,tr,0⟩ [] (z1l ⟨1,P,false,s,tr,0⟩ [] R id kill) c' M':=by
 have hgc:=z2g hg (b:=false) (tx:=0) h ht.1
 have ha:=q0v hg hok hR
 have hr0:=z3e hg hok hR s tr 0 h ht
 have hc0:=z5u hg hok hR false s tr h ht.1 false 0
 have hp1:=z1q ((z0k P).drop s.toNat)
 have hp2:=z1q (z0k P)
 have hp3:=passL_split (z0k P) s.toNat
 have hq:=Int.mul_nonneg (show 0≤R+1-tr by omega) (show 0≤attP P by omega)
 rw [nx_free hg hok hR s tr id h ht.1 kill] at ho ⊢
 by_cases hr:R<tr
 · rw [if_pos hr] at ho ⊢
   obtain⟨e,hgx,hk1⟩:=z4b ho.app
   have e':c'=⟨1,P,true,s,tr,0⟩:=e
   have hM:M'=[]:=ho.same (show ¬ (8:Int)≤7 by decide)
   have hs:z1e (recK 8 1 0 0 false (0,0,0) 0 0)=11:=z2p hgx hk1
   subst e' hM
   have hc1:=z5u hg hok hR true s tr h ht.1 false 0
   have hr1:=z4i hg hok hR s tr 0 h ht.1
   refine⟨SZ.nil P,by omega,fun _=>?_,fun e=>absurd (show (8:Int)=9 from e) (by decide),?_⟩
   · rw [z4t,z4t]
     omega
   · rw [z4t]
     have:=z1q ((z0k P).take s.toNat)
     omega
 rw [if_neg hr] at ho ⊢
 by_cases hs:s<lenA P
 · rw [if_pos hs] at ho ⊢
   obtain⟨e,hgx,hk1⟩:=z4b ho.app
   have e':c'=⟨1,P,false,s,tr,id⟩:=e
   have hz:z1e (recK 2 1 id s false (0,0,0) 0 0)=17:=z2p hgx hk1
   have hM:=ho.jn (show (2:Int)≤7 by decide)
   rw [z9o [] _ hgx rfl,if_neg (by simp [getT])] at hM
   have hM':M'=[⟨id,1,s,false,false,[],0,z1e (recK 2 1 id s false (0,0,0) 0 0)⟩]:=(Prod.mk.inj hM).1.symm
   rw [hz] at hM'
   have hiQ:id≠0:=by
    intro e0
    subst e0
    have:=(goodX_k hgx).2.2.1
    cases this
   subst e' hM'
   have hr1:=z3e hg hok hR s tr id h ht
   have hc1:=z6r hg hok hR false s tr id h ht.1 hiQ false 17 (by rw [ifz,hr1];omega)
   rw [ifz] at hc1
   refine⟨SZ.live rfl (by show (17:Int)=17+22*((0:Nat):Int);omega),by omega,fun _=>?_,fun e=>absurd (show (2:Int)=9 from e) (by decide),?_⟩
   · rw [z4t,z5m _ _ _ rfl]
     show _+z5f _ false 17 R≤_
     omega
   · rw [z5m _ _ _ rfl]
     show 0≤z5f _ false 17 R
     omega
 · rw [if_neg hs] at ho ⊢
   obtain⟨e,hgx,hk1⟩:=z4b ho.app
   have e':c'=⟨1,P,false,s,tr,0⟩:=e
   have hM:M'=[]:=ho.same (show ¬ (9:Int)≤7 by decide)
   have hz:z1e (recK 9 1 0 0 false (0,0,0) 0 1)=12:=z2p hgx hk1
   subst e' hM
   refine⟨SZ.nil P,by omega,fun e=>absurd (show (9:Int)=9 from rfl) e,fun _=>?_,?_⟩
   · rw [z4t]
     omega
   · rw [z4t]
     omega
theorem hold_back_step {c':Crs} {M':List Tc} {m s id:Int} (h:0≤s∧s≤lenA P) (kill:Bool) (ho:SOut P R ⟨1,P,true,s,R+1,0⟩ [] m (z1l ⟨1,P,true,s,R+1,0⟩ [] R id kill) c' M'):HOut (P:=P) (R:=R) ⟨1,P,true,s,R+1,0⟩ [] (z1l ⟨1,P,true,s,R+1,0⟩ [] R id kill) c' M':=by
 have hgc:=z2g hg (b:=true) (tx:=0) (tr:=R+1) h (by omega)
 have ha:=q0v hg hok hR
 have hr0:=z4i hg hok hR s (R+1) 0 h (by omega)
 have hc0:=z5u hg hok hR true s (R+1) h (by omega) false 0
 have hp1:=z1q ((z0k P).take s.toNat)
 rw [nx_back hg hok hR s id h kill] at ho ⊢
 by_cases hs:0<s
 · rw [if_pos hs] at ho ⊢
   obtain⟨e,hgx,hk1⟩:=z4b ho.app
   have e':c'=⟨1,P,true,s,R+1,id⟩:=e
   have hz:z1e (recK 2 1 id (s-1) true (0,0,0) 0 0)=17:=z2p hgx hk1
   have hM:=ho.jn (show (2:Int)≤7 by decide)
   rw [z9o [] _ hgx rfl,if_neg (by simp [getT])] at hM
   have hM':M'=[⟨id,1,s-1,true,false,[],0,z1e (recK 2 1 id (s-1) true (0,0,0) 0 0)⟩]:=(Prod.mk.inj hM).1.symm
   rw [hz] at hM'
   have hiQ:id≠0:=by
    intro e0
    subst e0
    have:=(goodX_k hgx).2.2.1
    cases this
   subst e' hM'
   have hr1:=z4i hg hok hR s (R+1) id h (by omega)
   have hc1:=z6r hg hok hR true s (R+1) id h (by omega) hiQ false 17 (by rw [ifz,hr1];omega)
   rw [ifz] at hc1
   refine⟨SZ.live rfl (by show (17:Int)=17+22*((0:Nat):Int);omega),by omega,fun _=>?_,fun e=>absurd (show (2:Int)=9 from e) (by decide),?_⟩
   · rw [z4t,z5m _ _ _ rfl]
     show _+z5f _ false 17 R≤_
     omega
   · rw [z5m _ _ _ rfl]
     show 0≤z5f _ false 17 R
     omega
 · rw [if_neg hs] at ho ⊢
   obtain⟨e,hgx,hk1⟩:=z4b ho.app
   have e':c'=⟨1,P,true,s,R+1,0⟩:=e
   have hM:M'=[]:=ho.same (show ¬ (9:Int)≤7 by decide)
   have hz:z1e (recK 9 1 0 0 false (0,0,0) 0 2)=12:=z2p hgx hk1
   subst e' hM
   refine⟨SZ.nil P,by omega,fun e=>absurd (show (9:Int)=9 from rfl) e,fun _=>?_,?_⟩
   · rw [z4t]
     omega
   · rw [z4t]
     omega
theorem hold_op_step {c':Crs} {M':List Tc} {m s s' tr id sz:Int} {k:Nat} {b:Bool} {L:List O} (hop:opsC ⟨1,P,b,s,tr,id⟩=L) (h:0≤s∧s≤lenA P) (ht:0≤tr∧tr≤R+1) (hb:b=false→tr≤R) (hiQ:1≤id∧id≤4294967295) (hk:k≤L.length) (hL:39+44*(L.length:Int)≤attP P)
 (hpl:z5d ⟨1,P,b,s,tr,0⟩ R=z5d ⟨1,P,b,if b then s-1 else s+1,tr,0⟩ R+28+22*(L.length:Int)) (hin:0≤(if b then s-1 else s+1)∧(if b then s-1 else s+1)≤lenA P) (hrs:∀ tx,z5d ⟨1,P,b,s,tr,tx⟩ R=z5d ⟨1,P,b,s,tr,0⟩ R) (hrn:0≤z5d ⟨1,P,b,if b then s-1 else s+1,tr,0⟩ R)
 (hrt:b=false→∀ tx,z5d ⟨1,P,b,s,tr+1,tx⟩ R=z5d ⟨1,P,b,s,tr,0⟩ R-attP P∧0≤z5d ⟨1,P,b,s,tr+1,tx⟩ R)
 (hz:SZ P [⟨id,1,s',b,false,L.take k,0,sz⟩]) (id':Int) (kill:Bool) (ho:SOut P R ⟨1,P,b,s,tr,id⟩ [⟨id,1,s',b,false,L.take k,0,sz⟩] m (z1l ⟨1,P,b,s,tr,id⟩ [⟨id,1,s',b,false,L.take k,0,sz⟩] R id' kill) c' M'):HOut (P:=P) (R:=R) ⟨1,P,b,s,tr,id⟩ [⟨id,1,s',b,false,L.take k,0,sz⟩] (z1l ⟨1,P,b,s,tr,id⟩ [⟨id,1,s',b,false,L.take k,0,sz⟩] R id' kill) c' M':=by
 have hn0:id≠0:=by omega
 have ha:=q0v hg hok hR
 have hsz:sz=17+22*(k:Int):=by
  have:=(hz _ (List.mem_singleton.2 rfl)).1 rfl
  rw [show (Tc.dn ⟨id,1,s',b,false,L.take k,0,sz⟩).length=k from z2b L k hk] at this
  exact this
 subst hsz
 have hr0:=hrs id
 have hc0:=z6r hg hok hR b s tr id h ht.1 hn0 false (17+22*(k:Int)) (by rw [ifz,hr0];omega)
 rw [ifz] at hc0
 rw [nx_op hg hok hR b s tr id _ s' k L h ht.1 hn0 hk hop id' kill] at ho ⊢
 obtain⟨t,hT⟩:∃ t:Tc,t=⟨id,1,s',b,false,L.take k,0,17+22*(k:Int)⟩:=⟨_,rfl⟩
 have htd:t.dd=false:=by rw [hT]
 have htn:t.dn.length=k:=by rw [hT];exact z2b L k hk
 have hti:t.id=id:=by rw [hT]
 have hge:getT Tc.id [t] id=some t:=by
  have:=z9b t
  rwa [hti] at this
 have hd0:hdC ⟨1,P,b,s,tr,id⟩ [t] R=z5f ⟨1,P,b,s,tr,id⟩ false (17+22*(k:Int)) R:=by
  rw [z5m _ _ _ (by rw [hT]),hT]
 rw [← hT] at ho ⊢
 by_cases hkl:kill=true∧b=false
 · rw [if_pos hkl] at ho ⊢
   obtain⟨e,hgx,hk1⟩:=z4b ho.app
   have e':c'=⟨1,P,b,s,tr+1,id⟩:=e
   have hzz:z1e (recK 5 0 id 0 false (0,0,0) 0 0)=11:=z2p hgx hk1
   have hM:=ho.jn (show (5:Int)≤7 by decide)
   rw [appC_5 [t] _ hgx rfl hge,if_neg (by rw [htd];simp),z5a (by rfl),hT,hzz] at hM
   have hM':M'=[⟨id,1,s',b,true,L.take k,0,17+22*(k:Int)+11⟩]:=(Prod.mk.inj hM).1.symm
   subst e' hM'
   obtain⟨hr1,hr2⟩:=hrt hkl.2 id
   have hbf:=hkl.2
   have htr:=hb hbf
   subst hbf
   have hc1:=z6r hg hok hR false s (tr+1) id h (by omega) hn0 true (17+22*(k:Int)+11) (by rw [ifa];omega)
   rw [ifa] at hc1
   refine⟨SZ.dead rfl k (by show (L.take k).length≤k;rw [z2b L k hk];exact Nat.le_refl _) (by omega) (by show 17+22*(k:Int)+11=28+22*(k:Int)+22*((k:Int)-((L.take k).length:Int));rw [z2b L k hk];omega),by omega,fun _=>?_,fun e=>absurd (show (5:Int)=9 from e) (by decide),?_⟩
   · rw [hd0,z5m _ _ _ rfl]
     show _+z5f _ true (17+22*(k:Int)+11) R≤_
     omega
   · rw [z5m _ _ _ rfl]
     show 0≤z5f _ true (17+22*(k:Int)+11) R
     omega
 rw [if_neg hkl] at ho ⊢
 by_cases hlt:k<L.length
 · rw [if_pos hlt] at ho ⊢
   obtain⟨e,hgx,hk1⟩:=z4b ho.app
   have e':c'=⟨1,P,b,s,tr,id⟩:=e
   have hzz:z1e (recK 3 0 id 0 false (L.getD k o0).1 (L.getD k o0).2 0)=22:=z2p hgx hk1
   have hM:=ho.jn (show (3:Int)≤7 by decide)
   have h6:¬ (t.dd=true∨6≤t.dn.length):=by
    intro e
    rw [q1u [t] _ hgx rfl hge,if_pos e] at hM
    cases (Prod.mk.inj hM).2
   rw [q1u [t] _ hgx rfl hge,if_neg h6,z5a (by rfl),hT,hzz] at hM
   have hM':M'=[⟨id,1,s',b,false,L.take k ++ [L.getD k o0],0,17+22*(k:Int)+22⟩]:=(Prod.mk.inj hM).1.symm
   rw [z9s L k hlt] at hM'
   subst e' hM'
   have hc1:=z6r hg hok hR b s tr id h ht.1 hn0 false (17+22*(k:Int)+22) (by rw [ifz,hr0];omega)
   rw [ifz] at hc1
   refine⟨SZ.live rfl (by show 17+22*(k:Int)+22=17+22*((L.take (k+1)).length:Int);rw [z2b L (k+1) hlt];omega),by omega,fun _=>?_,fun e=>absurd (show (3:Int)=9 from e) (by decide),?_⟩
   · rw [hd0,z5m _ _ _ rfl]
     show _+z5f _ false (17+22*(k:Int)+22) R≤_
     omega
   · rw [z5m _ _ _ rfl]
     show 0≤z5f _ false (17+22*(k:Int)+22) R
     omega
 · rw [if_neg hlt] at ho ⊢
   obtain⟨e,hgx,hk1⟩:=z4b ho.app
   have e':c'=⟨1,P,b,if b then s-1 else s+1,tr,0⟩:=e
   have hzz:z1e (recK 4 0 id 0 false (0,0,0) 0 0)=11:=z2p hgx hk1
   have hM:=ho.jn (show (4:Int)≤7 by decide)
   rw [q2l [t] _ hgx rfl hge,if_neg (by rw [htd];simp)] at hM
   have hM':M'=[]:=by
    have:=(Prod.mk.inj hM).1.symm
    rw [this]
    show z1v Tc.id [t] id=[]
    rw [← hti,q0s]
   subst e' hM'
   have hc1:=z5u hg hok hR b (if b then s-1 else s+1) tr hin ht.1 false 0
   refine⟨SZ.nil P,by omega,fun _=>?_,fun e=>absurd (show (4:Int)=9 from e) (by decide),?_⟩
   · rw [hd0,z4t]
     omega
   · rw [z4t]
     omega
theorem hold_dead_step {c':Crs} {M':List Tc} {m s tr id sz:Int} {k:Nat} {L:List O} (hL0:opsT (stpA P s)=L) (h:0≤s∧s<lenA P) (ht:1≤tr∧tr≤R+1) (hiQ:1≤id∧id≤4294967295) (hk:k≤L.length)
 (hz:SZ P [⟨id,1,s,false,true,L.take k,0,sz⟩]) (id':Int) (kill:Bool) (ho:SOut P R ⟨1,P,false,s,tr,id⟩ [⟨id,1,s,false,true,L.take k,0,sz⟩] m (z1l ⟨1,P,false,s,tr,id⟩ [⟨id,1,s,false,true,L.take k,0,sz⟩] R id' kill) c' M'):HOut (P:=P) (R:=R) ⟨1,P,false,s,tr,id⟩ [⟨id,1,s,false,true,L.take k,0,sz⟩] (z1l ⟨1,P,false,s,tr,id⟩ [⟨id,1,s,false,true,L.take k,0,sz⟩] R id' kill) c' M':=by
 have hn0:id≠0:=by omega
 have ha:=q0v hg hok hR
 have hs':0≤s∧s≤lenA P:=⟨h.1,by omega⟩
 have hf:=z6a (z4k hg hok h)
 rw [hL0] at hf
 obtain⟨k0,hk0,hat,hsz⟩:=(hz _ (List.mem_singleton.2 rfl)).2 rfl
 rw [show (Tc.dn ⟨id,1,s,false,true,L.take k,0,sz⟩).length=k from z2b L k hk] at hk0 hsz
 have hsz':sz=28+22*(k0:Int)+22*((k0:Int)-(k:Int)):=hsz
 clear hsz
 have hr0:=z3e hg hok hR s tr id hs' ⟨by omega,ht.2⟩
 have hr2:=z3e hg hok hR s tr 0 hs' ⟨by omega,ht.2⟩
 have hq:=Int.mul_nonneg (show 0≤R+1-tr by omega) (show 0≤attP P by omega)
 have hp1:=z1q ((z0k P).drop s.toNat)
 have hp2:=z1q (z0k P)
 have hc0:=z6r hg hok hR false s tr id hs' (by omega) hn0 true sz (by rw [ifa,hr0];omega)
 rw [ifa] at hc0
 rw [nx_dead hg hok hR s tr id sz k L hs' (by omega) hn0 id' kill] at ho ⊢
 obtain⟨t,hT⟩:∃ t:Tc,t=⟨id,1,s,false,true,L.take k,0,sz⟩:=⟨_,rfl⟩
 have htd:t.dd=true:=by rw [hT]
 have htn:t.dn.length=k:=by rw [hT];exact z2b L k hk
 have hti:t.id=id:=by rw [hT]
 have hge:getT Tc.id [t] id=some t:=by
  have:=z9b t
  rwa [hti] at this
 have hd0:hdC ⟨1,P,false,s,tr,id⟩ [t] R=z5f ⟨1,P,false,s,tr,id⟩ true sz R:=by
  rw [z5m _ _ _ (by rw [hT]),hT]
 rw [← hT] at ho ⊢
 cases k with
 | zero =>
  have hl:=z5t htn
  have hu:z6i t=recK 7 0 id 0 false (0,0,0) 0 0:=by
   unfold z6i
   rw [hl,if_neg (by simp),hti]
  rw [hu] at ho ⊢
  obtain⟨e,hgx,hk1⟩:=z4b ho.app
  have e':c'=⟨1,P,false,s,tr,0⟩:=e
  have hzz:z1e (recK 7 0 id 0 false (0,0,0) 0 0)=11:=z2p hgx hk1
  have hM:=ho.jn (show (7:Int)≤7 by decide)
  rw [appC_7 [t] _ hgx rfl hge,if_pos (List.length_eq_zero_iff.1 htn)] at hM
  have hM':M'=[]:=by
   have:=(Prod.mk.inj hM).1.symm
   rw [this]
   show z1v Tc.id [t] id=[]
   rw [← hti,q0s]
  subst e' hM'
  have hc1:=z5u hg hok hR false s tr hs' (by omega) false 0
  refine⟨SZ.nil P,by omega,fun _=>?_,fun e=>absurd (show (7:Int)=9 from e) (by decide),?_⟩
  · rw [hd0,z4t]
    simp only [Int.ofNat_zero,Int.natCast_zero] at *
    omega
  · rw [z4t]
    omega
 | succ j =>
  have hjl:j<L.length:=by omega
  have hfo:=hf _ (z6f L j hjl)
  have hdn:t.dn.getD j o0=L.getD j o0:=by rw [hT];exact getD_take L j hjl
  have hl:z2r t=(((L.getD j o0).1,-(L.getD j o0).2),true):=by
   rw [z8o htn,hdn,if_neg (by have:=hfo.lo;omega)]
  have hu:z6i t=recK 6 0 id 0 false (L.getD j o0).1 (-(L.getD j o0).2) 0:=by
   unfold z6i
   rw [hl,if_pos rfl,hti]
  rw [hu] at ho ⊢
  obtain⟨e,hgx,hk1⟩:=z4b ho.app
  have e':c'=⟨1,P,false,s,tr,id⟩:=e
  have hzz:z1e (recK 6 0 id 0 false (L.getD j o0).1 (-(L.getD j o0).2) 0)=22:=z2p hgx hk1
  have hM:=ho.jn (show (6:Int)≤7 by decide)
  rw [appC_6 [t] _ hgx rfl hge,if_pos (by exact hl),z5a (by rfl),hT,hzz] at hM
  have hM':M'=[⟨id,1,s,false,true,(L.take (j+1)).dropLast,0,sz+22⟩]:=(Prod.mk.inj hM).1.symm
  rw [drop_take L j hk] at hM'
  subst e' hM'
  have hc1:=z6r hg hok hR false s tr id hs' (by omega) hn0 true (sz+22) (by rw [ifa,hr0];omega)
  rw [ifa] at hc1
  refine⟨SZ.dead rfl k0 (by show (L.take j).length≤k0;rw [z2b L j (by omega)];omega) hat (by show sz+22=28+22*(k0:Int)+22*((k0:Int)-((L.take j).length:Int));rw [z2b L j (by omega)];omega),by omega,fun _=>?_,fun e=>absurd (show (6:Int)=9 from e) (by decide),?_⟩
  · rw [hd0,z5m _ _ _ rfl]
    show _+z5f _ true (sz+22) R≤_
    omega
  · rw [z5m _ _ _ rfl]
    show 0≤z5f _ true (sz+22) R
    omega
theorem hold_step {c c':Crs} {M M':List Tc} {m:Int} (h:SI P R c M m) (hz:SZ P M) (kill:Bool) (id:Int) (ho:SOut P R c M m (z1l c M R id kill) c' M'):HOut (P:=P) (R:=R) c M (z1l c M R id kill) c' M':=by
 have ha:=q0v hg hok hR
 have hn5:1≤lenA P∧lenA P≤5:=by
  have:=(z1r hg hok).1
  unfold lenA
  omega
 cases h with
 | free s tr h ht=>exact hold_free_step hg hok hR h ht kill ho
 | back s h=>exact hold_back_step hg hok hR h kill ho
 | dead s tr id2 sz k h ht hid2 hk=>exact hold_dead_step hg hok hR rfl h ht hid2 hk hz id kill ho
 | op s tr id2 sz k h ht hid2 hk =>
  have hgc:=z2g hg (b:=false) (tx:=id2) (tr:=tr) (s:=s) ⟨h.1,by omega⟩ ht.1
  have hop:opsC ⟨1,P,false,s,tr,id2⟩=opsT (stpA P s):=by
   unfold opsC
   rw [if_neg (by rw [hgc];show ¬ (true=false∨decide (s<lenA P)=false);simp [h.2])]
   rfl
  have hq:=Int.mul_nonneg (show 0≤R+1-tr by omega) (show 0≤attP P by omega)
  have hq2:=Int.mul_nonneg (show 0≤R+1-(tr+1) by omega) (show 0≤attP P by omega)
  have hqq:(R+1-(tr+1))*attP P=(R+1-tr)*attP P-attP P:=by rw [show R+1-(tr+1)=(R+1-tr)-1 by omega,Int.sub_mul,Int.one_mul]
  have hp2:=z1q (z0k P)
  have hp1:=z1q ((z0k P).drop s.toNat)
  refine hold_op_step hg hok hR hop ⟨h.1,by omega⟩ ⟨ht.1,by omega⟩ (fun _=>ht.2) hid2 hk (q2k hg hok hR s h _ (Nat.le_refl _)) ?_ (by simp only [Bool.false_eq_true,if_false];omega) (fun tx=>?_) ?_ (fun _ tx=>?_) hz id kill ho
  · simp only [Bool.false_eq_true,if_false]
    rw [z3e hg hok hR s tr 0 ⟨h.1,by omega⟩ ⟨ht.1,by omega⟩,z3e hg hok hR (s+1) tr 0 ⟨by omega,by omega⟩ ⟨ht.1,by omega⟩,pass_at hg hok hR s h]
    omega
  · rw [z3e hg hok hR s tr 0 ⟨h.1,by omega⟩ ⟨ht.1,by omega⟩,z3e hg hok hR s tr tx ⟨h.1,by omega⟩ ⟨ht.1,by omega⟩]
  · simp only [Bool.false_eq_true,if_false]
    rw [z3e hg hok hR (s+1) tr 0 ⟨by omega,by omega⟩ ⟨ht.1,by omega⟩]
    have:=z1q ((z0k P).drop (s+1).toNat)
    omega
  · rw [z3e hg hok hR s tr 0 ⟨h.1,by omega⟩ ⟨ht.1,by omega⟩,z3e hg hok hR s (tr+1) tx ⟨h.1,by omega⟩ ⟨by omega,by omega⟩,hqq]
    rw [hqq] at hq2
    exact⟨by omega,by omega⟩
 | undo s id2 sz k h hid2 hk =>
  have hgc:=z2g hg (b:=true) (tx:=id2) (tr:=R+1) (s:=s) ⟨by omega,by omega⟩ (by omega)
  have hop:opsC ⟨1,P,true,s,R+1,id2⟩=negF (opsT (stpA P (s-1))):=by
   unfold opsC
   rw [if_neg (by rw [hgc];show ¬ (true=false∨decide (0<s)=false);simp;omega)]
   rfl
  have hnl:(negF (opsT (stpA P (s-1)))).length=(opsT (stpA P (s-1))).length:=by
   unfold negF
   rw [List.length_reverse,List.length_map]
  refine hold_op_step hg hok hR hop ⟨by omega,h.2⟩ ⟨by omega,by omega⟩ (fun e=>by cases e) hid2 hk (by rw [hnl];exact q2k hg hok hR (s-1) ⟨by omega,by omega⟩ _ (Nat.le_refl _)) ?_ (by simp only [if_true];omega) (fun tx=>?_) ?_ (fun e=>by cases e) hz id kill ho
  · simp only [if_true]
    rw [z4i hg hok hR s (R+1) 0 ⟨by omega,h.2⟩ (by omega),z4i hg hok hR (s-1) (R+1) 0 ⟨by omega,by omega⟩ (by omega),pass_bk hg hok hR s h,hnl]
    omega
  · rw [z4i hg hok hR s (R+1) 0 ⟨by omega,h.2⟩ (by omega),z4i hg hok hR s (R+1) tx ⟨by omega,h.2⟩ (by omega)]
  · simp only [if_true]
    rw [z4i hg hok hR (s-1) (R+1) 0 ⟨by omega,by omega⟩ (by omega)]
    have:=z1q ((z0k P).take (s-1).toNat)
    omega
end
end Go.Proofs.YtclbkfpbdidaiaaGreatDoor
namespace Go.Proofs.YtclbkfpbdidaiaaGreatDoor
open Go.Lib (hid)
set_option maxHeartbeats 16000000
open Go.RowKit Go.ChangeShapes Go.WideShapes
set_option linter.unusedVariables false
set_option linter.unusedSimpArgs false
set_option maxRecDepth 10000
def r1p (p:Rv):Rv:=⟨1,1,0,0,false,0,0,0,0,0,p.pk,p.od,p.po,p.lp,p.ln,p.lcp,p.tp,p.tn,p.tcp,p.wp,p.wn,p.wcp,p.sk,p.fr,p.to,p.q⟩
theorem r1p_x (p:Rv) (L:List Ln) (T:List Tk) (M:List Ln):(r1p p).x L T M=x1st (p.pg L T M):=rfl
theorem r1p_m {p:Rv} {L:List Ln} {T:List Tk} {M:List Ln} {w:World} (h:RvM w p L T M):RvM w (r1p p) L T M:=⟨h.l,h.t,h.o⟩
end Go.Proofs.YtclbkfpbdidaiaaGreatDoor
