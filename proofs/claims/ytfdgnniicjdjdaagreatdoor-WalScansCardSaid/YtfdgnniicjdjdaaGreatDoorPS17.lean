import Derived.Test.YtfdgnniicjdjdaaGreatDoorPS16
import Derived.Test.YtfdgnniicjdjdaaGreatDoorPS11
import Derived.Test.YtfdgnniicjdjdaaGreatDoorPS18
namespace Go.Proofs.YtfdgnniicjdjdaaGreatDoor
open Go.Lib (hid)
set_option maxHeartbeats 2000000
open Go.RowKit Go.ChangeShapes Go.WideShapes
set_option linter.unusedVariables false
set_option maxRecDepth 10000
set_option linter.unusedSimpArgs false
theorem Seg.take {w:World} {Q:Nat→Prop} {z:Nat→Nat × Nat} {f s:Nat} {B:List Int} (h:Seg w Q z f s B) (l:Nat):Seg w Q z f s (B.take l):=by
 have hlt:∀ i,i*s<(B.take l).length→i*s<B.length:=fun i hi=>by rw [List.length_take] at hi;omega
 refine⟨fun i hi=>⟨(h.row i (hlt i hi)).1,?_⟩,fun i j hi hj=>h.apart i j (hlt i hi) (hlt j hj)⟩
 rw [sg_take_all,List.length_take]
 have hr:=(h.row i (hlt i hi)).2
 have:=hr.take (m:=min (l-i*s) (sgD s B i).length) (Nat.min_le_right _ _)
 rwa [← List.take_eq_take_min] at this
def ScD (z:Nat→Nat × Nat) (f s:Nat) (B:List Int) (l j:Nat) (y:Int):Option Sv:=if y<((f+j:Nat):Int) then So z f s (B.take l) y else So z f s B y
structure Cm (w wr:World) (T:Nat) (mb:Option Nat) (Q:Nat→Prop) (a:Int) (s:Nat) (t:TS) (l j:Nat):Prop where
 blk:wr.heap[T]?=some (.cells #[.int .i64 a,.int .i64 (t.f*s:Nat),.int .i64 (t.f*s+t.B.length:Nat),.map mb] 171 (0,0))
 yes:∀ b,mb=some b→Q b∧∃ z D,MapB wr b (nSD s l+(nSD s t.B.length-j)) D∧Tm D (ScD z t.f s t.B l j) (nSD s l+(nSD s t.B.length-j))∧Seg wr Q z t.f s (t.B.take l)
 chg:Chg Q w wr
 lo:nSD s l≤j
theorem Seg.ne_map {w:World} {Q:Nat→Prop} {z:Nat→Nat × Nat} {f s b n:Nat} {B:List Int} {D:DataW Sv} (h:Seg w Q z f s B) (hm:MapB w b n D) (i:Nat) (hi:i*s<B.length):(z (f+i)).1≠b:=by
 rcases (h.row i hi).2.own.2 with ⟨h3,_⟩ | ⟨g3,c3,cur3,h3,_,h4,_⟩
 · cases h3
 · cases h3
   exact hm.ne h4
theorem Cm.step {w wr w1:World} {T b n:Nat} {Q:Nat→Prop} {a:Int} {s:Nat} {t:TS} {l j:Nat} {z:Nat→Nat × Nat} {D:DataW Sv} (hs:0<s) (h:Cm w wr T (some b) Q a s t l j) (hQT:Q T) (hl:l≤t.B.length) (hj:j*s<t.B.length)
 (hQb:Q b) (hm:MapB wr b (nSD s l+(nSD s t.B.length-j)) D) (hT:Tm D (ScD z t.f s t.B l j) (nSD s l+(nSD s t.B.length-j))) (hS:Seg wr Q z t.f s (t.B.take l))
 (hm1:MapB w1 b n (D.del (kLD ((t.f+j:Nat):Int)))) (hc:Chg (fun k=>k=b) wr w1):Cm w w1 T (some b) Q a s t l (j+1):=by
 have hlt:=(z8c hs).2 hj
 have hnl:¬ j*s<l:=fun e=>by have:=(z8c hs).2 e;have:=h.lo;omega
 have h0:ScD z t.f s t.B l j ((t.f+j:Nat):Int)=some (some ⟨(z (t.f+j)).1,0,none⟩,(sgD s t.B j).length,(z (t.f+j)).2):=by
  unfold ScD
  rw [if_neg (by omega),z4f,if_pos hj]
 have hT1:=hT.del ((t.f+j:Nat):Int) (by rw [h0];rfl)
 have ht:=hm1.tight
 have e1:nSD s l+(nSD s t.B.length-j)-1=nSD s l+(nSD s t.B.length-(j+1)):=by omega
 rw [hT1.size,e1] at ht
 refine⟨(hc.block T (z0g h.blk) (hm.ne h.blk)).trans h.blk,fun b' e=>?_,h.chg.trans (hc.mono fun k _ e=>by rw [e];exact hQb) fun _ _ h=>h,by have:=h.lo;omega⟩
 cases e
 refine⟨hQb,z,_,ht,hT1.congr (fun y=>?_) e1,hS.keep hc fun i hi=>hS.ne_map hm i hi⟩
 unfold ScD
 by_cases e:y=((t.f+j:Nat):Int)
 · subst e
   rw [if_pos rfl,if_pos (by omega),z4f,if_neg (by rw [List.length_take];omega)]
 · rw [if_neg e]
   by_cases e2:y<((t.f+j:Nat):Int)
   · rw [if_pos e2,if_pos (by omega)]
   · rw [if_neg e2,if_neg (by omega)]
theorem Cm.sm {w wr:World} {T:Nat} {mb:Option Nat} {Q:Nat→Prop} {a:Int} {s:Nat} {t:TS} {l j b:Nat} (hs:0<s) (h:Cm w wr T mb Q a s t l j) (hmb:mb=some b) (hl:l≤t.B.length) (hj:¬ j*s<t.B.length):Sm wr Q b t.f s (t.B.take l):=by
 obtain⟨hQb,z,D,hm,hT,hS⟩:=h.yes b hmb
 have hn:nSD s t.B.length≤j:=by
  rcases Nat.lt_or_ge j (nSD s t.B.length) with h' | h'
  · exact absurd ((z8c hs).1 h') hj
  · exact h'
 have e:nSD s l+(nSD s t.B.length-j)=nSD s (t.B.take l).length:=by rw [List.length_take,Nat.min_eq_left hl];omega
 rw [e] at hm hT
 refine⟨hQb,z,D,hm,hT.congr (fun y=>?_) rfl,hS⟩
 unfold ScD
 by_cases e2:y<((t.f+j:Nat):Int)
 · rw [if_pos e2]
 · rw [if_neg e2]
   rcases z5b t.f y with h' | ⟨i,rfl⟩
   · rw [z5u _ _ _ _ h',z5u _ _ _ _ h']
   · have:=Nat.mul_le_mul_right s (show j≤i by omega)
     rw [z4f,z4f,if_neg (by omega),if_neg (by rw [List.length_take];omega)]
theorem cut_whole {w wr:World} {T:Nat} {mb:Option Nat} {Q:Nat→Prop} {a:Int} {s:Nat} {t:TS} {l:Nat} (h:Tp w T mb Q a s t) (hb:Below w.heap.size w wr) (hl:l≤t.B.length) (h0:l % s=0):Cm w wr T mb Q a s t l (l / s):=by
 have hs:0<s:=by have:=h.s_in;omega
 have hdp:l / s*s+l % s=l:=z5e
 have hn:nSD s l=l / s:=by rw [nS_div hs,if_neg (by omega)]
 refine⟨(h.later hb).blk,fun b e=>?_,Chg.of_below hb,Nat.le_of_eq hn⟩
 obtain⟨hQb,z,D,hm,hT,hS⟩:=(h.later hb).yes b e
 have e1:nSD s t.B.length=nSD s l+(nSD s t.B.length-l / s):=by
  have:=nS_mono (s:=s) hl
  omega
 refine⟨hQb,z,D,e1 ▸ hm,hT.congr (fun y=>?_) e1,hS.take l⟩
 unfold ScD
 by_cases e2:y<((t.f+l / s:Nat):Int)
 · rw [if_pos e2]
   rcases z5b t.f y with h' | ⟨i,rfl⟩
   · rw [z5u _ _ _ _ h',z5u _ _ _ _ h']
   · have h1:=z2s (s:=s) (show i<l / s by omega)
     rw [z4f,z4f,if_pos (by omega),if_pos (by rw [List.length_take];omega),sg_take_lt t.B (by omega)]
 · rw [if_neg e2]
theorem cut_part {w wr w1:World} {T b n:Nat} {Q:Nat→Prop} {a:Int} {s:Nat} {t:TS} {l:Nat} {z:Nat→Nat × Nat} {D:DataW Sv} (h:Tp w T (some b) Q a s t) (hb:Below w.heap.size w wr) (hl:l≤t.B.length) (h0:0<l % s)
 (hm:MapB wr b (nSD s t.B.length) D) (hT:Tm D (So z t.f s t.B) (nSD s t.B.length)) (hS:Seg wr Q z t.f s t.B)
 (hm1:MapB w1 b n (D.put (kLD ((t.f+l / s:Nat):Int)) (.held (some ⟨(z (t.f+l / s)).1,0,none⟩,l % s,(z (t.f+l / s)).2)))) (hc:Chg (fun k=>k=b) wr w1):Cm w w1 T (some b) Q a s t l (l / s+1):=by
 have hs:0<s:=by have:=h.s_in;omega
 have hdp:l / s*s+l % s=l:=z5e
 have hmod:=Nat.mod_lt l hs
 have hn:nSD s l=l / s+1:=by rw [nS_div hs,if_pos h0]
 have hQb:=(h.yes b rfl).1
 have hblk:=(h.later hb).blk
 refine⟨(hc.block T (z0g hblk) (hm.ne hblk)).trans hblk,fun b' e=>?_,(Chg.of_below (S:=Q) hb).trans (hc.mono fun k _ e=>by rw [e];exact hQb) fun _ _ h=>h,Nat.le_of_eq hn⟩
 cases e
 have e1:nSD s t.B.length=nSD s l+(nSD s t.B.length-(l / s+1)):=by
  have:=nS_mono (s:=s) hl
  omega
 have hpos:l / s*s<t.B.length:=by omega
 have hT1:=hT.put ((t.f+l / s:Nat):Int) (some ⟨(z (t.f+l / s)).1,0,none⟩,l % s,(z (t.f+l / s)).2)
 have hsome:(So z t.f s t.B ((t.f+l / s:Nat):Int)).isSome=true:=by rw [z4f,if_pos hpos];rfl
 rw [if_pos hsome] at hT1
 have ht:=hm1.tight
 rw [hT1.size,e1] at ht
 refine⟨hQb,z,_,ht,hT1.congr (fun y=>?_) e1,(hS.keep hc fun i hi=>hS.ne_map hm i hi).take l⟩
 unfold ScD
 by_cases e:y=((t.f+l / s:Nat):Int)
 · subst e
   rw [if_pos rfl,if_pos (by omega),z4f,if_pos (by rw [List.length_take];omega),z9h,List.length_take]
   congr 3
   omega
 · rw [if_neg e]
   by_cases e2:y<((t.f+(l / s+1):Nat):Int)
   · rw [if_pos e2]
     rcases z5b t.f y with h' | ⟨i,rfl⟩
     · rw [z5u _ _ _ _ h',z5u _ _ _ _ h']
     · have h1:=z2s (s:=s) (show i<l / s by omega)
       rw [z4f,z4f,if_pos (by omega),if_pos (by rw [List.length_take];omega),sg_take_lt t.B (by omega)]
   · rw [if_neg e2]
theorem Cm.later {w wr w1:World} {T:Nat} {mb:Option Nat} {Q:Nat→Prop} {a:Int} {s:Nat} {t:TS} {l j:Nat} (h:Cm w wr T mb Q a s t l j) (hb:Below wr.heap.size wr w1):Cm w w1 T mb Q a s t l j:=by
 have hc:Chg (fun _=>False) wr w1:=Chg.of_below hb
 refine⟨z0c h.blk hb,fun b e=>?_,h.chg.trans hc fun _ _ h=>h.elim,h.lo⟩
 obtain⟨h1,z,D,h2,h3,h4⟩:=h.yes b e
 exact⟨h1,z,D,h2.turn hc (fun h=>h),h3,h4.keep hc fun _ _ h=>h⟩
theorem q1s {s:Nat} (hs:0<s) (f l:Nat):(f*s+l) / s=f+l / s∧(f*s+l) % s=l % s:=by
 constructor
 · rw [Nat.add_comm,Nat.add_mul_div_right _ _ hs,Nat.add_comm]
 · rw [Nat.add_comm,Nat.add_mul_mod_self_right]
section
variable {w:World} {T:Nat} {mb:Option Nat} {Q:Nat→Prop} {a:Int} {s:Nat} {t:TS}
set_option maxRecDepth 100000 in
theorem tape_cut (h:Tp w T mb Q a s t) (x:Int) (hbig:t.f*s+t.B.length≤1000000):Calls Tryz.prog 103 #[.pointer (some ⟨T,0,none⟩),.int .i64 x] w fun e w'=>e=.returned (.tuple #[])∧Tp w' T mb Q a s (cutT s t x)∧Chg Q w w':=by
 have hs:=h.s_in
 have hk:=fun q=>z9f x (t.f*s) (t.f*s+t.B.length) (w.drewN q)
 obtain⟨g1,g2⟩:=z9o s t x
 have HTP:=hid h
 clear h
 rw [g1] at hk
 generalize hl:q2h s t x=l at *
 have HCT:Hid (cutT s t x=⟨t.f,t.B.take l⟩):=hid (by unfold cutT;rw [hl])
 obtain⟨i1,i2⟩:=q1s (by omega:0<s) t.f l
 clear g1 hl
 have hfs:t.f≤t.f*s:=Nat.le_mul_of_pos_right _ (by omega)
 generalize hF:t.f*s=F at *
 generalize hE:F+t.B.length=E at *
 have HF:=hid hF
 have HE:=hid hE
 have HL:=hid g2
 obtain⟨c1,c2,_,hsg⟩:=HTP.out.at hF hE
 have hmod:=Nat.mod_lt l (by omega:0<s)
 have hdle:=Nat.div_le_self l s
 have hdp:l / s*s+l % s=l:=z5e
 have hpos:=HL.out
 generalize hLL:F+l=C at *
 have HC:=hid hLL
 have hCE:C≤E:=by omega
 have hF6:F≤1000000:=by omega
 have q0:((s:Int)==0)=false:=by simp;omega
 have q1:¬ s=0:=by omega
 generalize hy:l / s=y at *
 generalize hr:l % s=r at *
 have HY:=hid hy
 have HR:=hid hr
 have d1:(C:Int).tdiv (s:Int)=((t.f+y:Nat):Int):=by rw [← i1];rfl
 have d2:(C:Int).tmod (s:Int)=(r:Int):=by rw [← i2];rfl
 have d3:IntKind.i64.wrap ((t.f+y:Nat):Int)=((t.f+y:Nat):Int):=IntWalk.i64_in _ (by omega)
 have d4:IntKind.i64.wrap (r:Int)=(r:Int):=IntWalk.i64_in _ (by omega)
 have HDP:=hid hdp
 have hyb:t.f+y≤1000000:=by omega
 have HYL:Hid (y+1≤t.B.length+1):=hid (by omega)
 clear i1 i2 hF hE g2 hLL hdp hy hr hpos
 go_enter Tryz.func103,Tryz.ntmps103
 go_wp2_with fail
 go_quiet (first
  | (go_at_call 114;exact Calls.quiet_of_same (hk _)))
 go_wp2_with fail
 have HB1:Hid (Below w.heap.size w (w.drewN nq)):=hid (z0f (Below.refl _ _) nq)
 clear hk hsg c1 c2
 obtain⟨c1,c2,_,hsg⟩:=(HTP.out.drewN nq).at HF.out HE.out
 have HT1:=hid (HTP.out.drewN nq)
 generalize w.drewN nq=W1 at *
 go_quiet (first
  | (go_at_call 113;exact Calls.quiet_of_same (hsg _)))
 have HB2:=hid (z0f HB1.out nq)
 have HT2:=hid (HT1.out.drewN nq)
 clear hsg c1 c2 d1 d2 d3 d4 HB1 HT1
 generalize W1.drewN nq=W2 at *
 by_cases hr0:0<r
 · have hpl:y*s<t.B.length:=by have:=HL.out;have:=HDP.out;omega
   obtain⟨b,rfl⟩:∃ b,mb=some b:=by
    cases mb with
    | none =>
     have:=(HTP.out.no rfl).2
     rw [this] at hpl
     simp at hpl
    | some b=>exact⟨b,rfl⟩
   obtain⟨_,z,D,hown,hT,hS⟩:=HT2.out.yes b rfl
   have HO:=hid hown
   have HTM:=hid hT
   have HSG:=hid hS
   have wf:(Lit.int .i64 ((t.f+y:Nat):Int)).wf=true:=WalkArith.wf_i64 (by omega)
   have hlk:=q1r (w:=W2.drew) (MapB.turn hown ((Chg.refl (fun _=>False) _).drewN 1) (fun h=>h)) hT wf
   rw [z4f,if_pos hpl] at hlk
   unfold svV at hlk
   rw [Int.natCast_add] at hlk
   have hsgl:(sgD s t.B y).length=min s (t.B.length-y*s):=z9h ..
   have hrl:r≤(sgD s t.B y).length:=by have:=HL.out;have:=HDP.out;omega
   have hcap:(sgD s t.B y).length≤(z (t.f+y)).2∧(z (t.f+y)).2≤maxLen:=by
    have hbl:=(hS.row y hpl).2.bl
    exact⟨hbl.cap,hbl.max⟩
   have hmx:(z (t.f+y)).2≤9223372036854775807:=by have:=hcap.2;unfold maxLen at this;omega
   have HSTEP:=hid fun (n:Nat) (w1:World) (h1:MapB w1 b n (D.put (kLD ((t.f+l / s:Nat):Int)) (.held (some ⟨(z (t.f+l / s)).1,0,none⟩,l % s,(z (t.f+l / s)).2)))) (hc:Chg (fun k=>k=b) W2 w1)=>cut_part HTP.out HB2.out HL.out (by rw [HR.out];exact hr0) HO.out HTM.out HSG.out h1 hc
   rw [HY.out,HR.out] at HSTEP
   have h23:r≤(z (t.f+y)).2:=by omega
   have c3:=HT2.out.cells.2.2.2
   clear hown hT hS hsgl
   generalize (sgD s t.B y).length=n0 at *
   generalize (z (t.f+y)).1=zg at *
   generalize (z (t.f+y)).2=zc at *
   clear hcap
   go_wp2_with fail
   go_still_tail 13,(by kernel_rfl)
   repeat still_step
   change wpList _ _ _ _ _ W2.drew
   refine wpList_mapUpdate_b rfl _ _ _ rfl b _ D rfl (MapB.turn HO.out ((Chg.refl (fun _=>False) _).drewN 1) (fun h=>h)) ?_ ((t.f+y:Nat):Int) wf rfl (some ⟨zg,0,none⟩) r zc rfl ?_
   · have:=q1f (s:=s) (n:=t.B.length) (by omega)
     have:=HE.out
     omega
   intro w3 hm3 hc3
   have HS0:Hid (Cm w w3 T (some b) Q a s t l (y+1)):=hid (HSTEP.out _ w3 hm3 hc3.undrew)
   have e9:((t.f:Int)+(y:Int))+1=((t.f+(y+1):Nat):Int):=by omega
   have HJ:Hid (y+1≤t.B.length+1):=HYL
   clear HSTEP hlk c3 hm3 hc3 HO HTM HSG wf h23 hrl hpl
   go_wp2_with fail
   go_loopw [6] (fun n wr=>∃ j:Nat,n=.int .i64 (t.f+j:Nat)∧Hid (j≤t.B.length+1)∧Hid (Cm w wr T (some b) Q a s t l j)) (fun n _=>t.f+t.B.length+2-(intOf n).toNat)
   case atStart=>exact⟨y+1,by go_num,HJ,HS0⟩
   case round =>
    obtain⟨j,rfl,HJJ,HD⟩:=hrel
    have hblk:=HD.out.blk
    rw [HF.out,HE.out] at hblk
    have hP:(t.f+j)*s=F+j*s:=by rw [Nat.add_mul,HF.out]
    have hjs:j*s≤1000001*4096:=Nat.mul_le_mul (by have:=HJJ.out;have:=HE.out;omega) hs.2
    have m1:((t.f:Int)+(j:Int))*(s:Int)=((F+j*s:Nat):Int):=by
     rw [← hP]
     push_cast
     rfl
    have m2:IntKind.i64.wrap ((F+j*s:Nat):Int)=((F+j*s:Nat):Int):=IntWalk.i64_in _ (by omega)
    have hcond:F+j*s<E ↔ j*s<t.B.length:=by have:=HE.out;omega
    have c2:=fun q=>show (wr.drewN q).cell? ⟨T,2,none⟩=some (.int .i64 (E:Nat)) from z0a (j:=2) hblk rfl
    have hsg:=fun q=>z7h T a s (wr.drewN q) (z0a (j:=0) hblk rfl) HTP.out.seg
    clear hP hblk
    generalize F+j*s=P at *
    by_cases hlt:P<E
    · have hlt':decide ((P:Int)<(E:Int))=true:=decide_eq_true (by omega)
      have hlt2:(P:Int)<(E:Int):=by omega
      go_wp2_with fail
      go_quiet (first
       | (go_at_call 113;exact Calls.quiet_of_same (hsg _)))
      have HD5:=hid (HD.out.later (z0f (Below.refl _ _) nq))
      clear c2 hsg HD m1 m2
      generalize wr.drewN nq=W5 at *
      have hjl:=hcond.1 hlt
      obtain⟨b',hb'⟩:∃ b',(some b)=some b':=by
       cases hmb:(some b) with
       | none =>
        have:=(HTP.out.no hmb).2
        rw [this] at hjl
        simp at hjl
       | some b'=>exact⟨b',rfl⟩
      obtain rfl:b=b':=by cases hb';rfl
      clear hb'
      obtain⟨hQb,z,D,hown,hT,hS⟩:=HD5.out.yes b rfl
      have HTM:=hid hT
      have HSG:=hid hS
      have HO:=hid hown
      have HQB:=hid hQb
      have HJL:=hid hjl
      have c3:=z0a (j:=3) HD5.out.blk (v:=.map (some b)) rfl
      have hjj:j≤1000000:=by have:=(z8c (s:=s) (by omega)).2 hjl;have:=q1f (s:=s) (n:=t.B.length) (by omega);have:=HE.out;omega
      have htf:t.f≤1000000:=by omega
      have wf:(Lit.int .i64 ((t.f+j:Nat):Int)).wf=true:=WalkArith.wf_i64 (by omega)
      clear hown hT hS hQb hcond hjl
      go_wp2_with (first | (at_delete;refine z4u rfl _ _ rfl b _ D rfl HO.out ((t.f+j:Nat):Int) wf rfl ?_;intro w6 hm6 hc6) | fail)
      have HN:=hid (Cm.step (by omega) HD5.out HTP.out.q HL.out HJL.out HQB.out HO.out HTM.out HSG.out hm6 hc6)
      go_wp2_with fail
      go_roundw
      case rel=>exact⟨j+1,by go_num,hid (by have:=HJL.out;have:=(z8c (s:=s) (by omega)).2 this;have:=q1f (s:=s) (n:=t.B.length) (by omega);omega),HN⟩
      case measure=>simp [intOf];have:=HJJ.out;omega
    · have hlt':decide ((P:Int)<(E:Int))=false:=decide_eq_false (by omega)
      have hlt2:¬ (P:Int)<(E:Int):=by omega
      have HNJ:=hid fun h=>hlt (hcond.2 h)
      go_wp2_with fail
      go_quiet (first
       | (go_at_call 113;exact Calls.quiet_of_same (hsg _)))
      have HD5:=hid (HD.out.later (z0f (Below.refl _ _) nq))
      clear c2 hsg HD m1 m2 hcond
      generalize wr.drewN nq=W5 at *
      have c2:=z0a (j:=2) HD5.out.blk (v:=.int .i64 (t.f*s+t.B.length:Nat)) rfl
      have f2:=z0t 2 HD5.out.blk
      have HBLK:=hid HD5.out.blk
      go_wp2_with fail
      go_end0
      rw [HCT.out]
      refine⟨rfl,⟨HTP.out.seg,?_,fun e=>?_,fun b e=>(HD5.out.sm (by omega) e HL.out HNJ.out).put HBLK.out 2 _,HTP.out.q⟩,HD5.out.chg.trans (T:=fun k=>k=T) ((Chg.refl _ _).setCell _ _ fun _=>rfl) fun k _ e=>by rw [e];exact HTP.out.q⟩
      · have hput:=z0u 2 (.int .i64 ((C:Nat):Int)) HBLK.out
        have hx4:t.f*s+(t.B.take l).length=C:=by rw [List.length_take];have:=HC.out;have:=HF.out;have:=HL.out;omega
        show _=some (Obj.cells #[.int .i64 a,.int .i64 (t.f*s:Nat),.int .i64 (t.f*s+(t.B.take l).length:Nat),.map _] _ _)
        rw [hx4]
        exact hput
      · obtain⟨h1,h2⟩:=HTP.out.no e
        exact⟨h1,by show t.B.take l=[];rw [h2];simp⟩
 · have hr1:¬ (0:Int)<(r:Int):=by omega
   have hr2:¬ 0<r:=hr0
   have HS0:Hid (Cm w W2 T mb Q a s t l y):=hid (HY.out ▸ cut_whole HTP.out HB2.out HL.out (by rw [HR.out];omega))
   have HJ:Hid (y≤t.B.length+1):=hid (by have:=HYL.out;omega)
   go_wp2_with fail
   generalize W2=w3 at *
   go_loopw [6] (fun n wr=>∃ j:Nat,n=.int .i64 (t.f+j:Nat)∧Hid (j≤t.B.length+1)∧Hid (Cm w wr T mb Q a s t l j)) (fun n _=>t.f+t.B.length+2-(intOf n).toNat)
   case atStart=>exact⟨y,by go_num,HJ,HS0⟩
   case round =>
    obtain⟨j,rfl,HJJ,HD⟩:=hrel
    have hblk:=HD.out.blk
    rw [HF.out,HE.out] at hblk
    have hP:(t.f+j)*s=F+j*s:=by rw [Nat.add_mul,HF.out]
    have hjs:j*s≤1000001*4096:=Nat.mul_le_mul (by have:=HJJ.out;have:=HE.out;omega) hs.2
    have m1:((t.f:Int)+(j:Int))*(s:Int)=((F+j*s:Nat):Int):=by
     rw [← hP]
     push_cast
     rfl
    have m2:IntKind.i64.wrap ((F+j*s:Nat):Int)=((F+j*s:Nat):Int):=IntWalk.i64_in _ (by omega)
    have hcond:F+j*s<E ↔ j*s<t.B.length:=by have:=HE.out;omega
    have c2:=fun q=>show (wr.drewN q).cell? ⟨T,2,none⟩=some (.int .i64 (E:Nat)) from z0a (j:=2) hblk rfl
    have hsg:=fun q=>z7h T a s (wr.drewN q) (z0a (j:=0) hblk rfl) HTP.out.seg
    clear hP hblk
    generalize F+j*s=P at *
    by_cases hlt:P<E
    · have hlt':decide ((P:Int)<(E:Int))=true:=decide_eq_true (by omega)
      have hlt2:(P:Int)<(E:Int):=by omega
      go_wp2_with fail
      go_quiet (first
       | (go_at_call 113;exact Calls.quiet_of_same (hsg _)))
      have HD5:=hid (HD.out.later (z0f (Below.refl _ _) nq))
      clear c2 hsg HD m1 m2
      generalize wr.drewN nq=W5 at *
      have hjl:=hcond.1 hlt
      obtain⟨b',hb'⟩:∃ b',mb=some b':=by
       cases hmb:mb with
       | none =>
        have:=(HTP.out.no hmb).2
        rw [this] at hjl
        simp at hjl
       | some b'=>exact⟨b',rfl⟩
      subst hb'
      obtain⟨hQb,z,D,hown,hT,hS⟩:=HD5.out.yes b' rfl
      have HTM:=hid hT
      have HSG:=hid hS
      have HO:=hid hown
      have HQB:=hid hQb
      have HJL:=hid hjl
      have c3:=z0a (j:=3) HD5.out.blk (v:=.map (some b')) rfl
      have hjj:j≤1000000:=by have:=(z8c (s:=s) (by omega)).2 hjl;have:=q1f (s:=s) (n:=t.B.length) (by omega);have:=HE.out;omega
      have htf:t.f≤1000000:=by omega
      have wf:(Lit.int .i64 ((t.f+j:Nat):Int)).wf=true:=WalkArith.wf_i64 (by omega)
      clear hown hT hS hQb hcond hjl
      go_wp2_with (first | (at_delete;refine z4u rfl _ _ rfl b' _ D rfl HO.out ((t.f+j:Nat):Int) wf rfl ?_;intro w6 hm6 hc6) | fail)
      have HN:=hid (Cm.step (by omega) HD5.out HTP.out.q HL.out HJL.out HQB.out HO.out HTM.out HSG.out hm6 hc6)
      go_wp2_with fail
      go_roundw
      case rel=>exact⟨j+1,by go_num,hid (by have:=HJL.out;have:=(z8c (s:=s) (by omega)).2 this;have:=q1f (s:=s) (n:=t.B.length) (by omega);omega),HN⟩
      case measure=>simp [intOf];have:=HJJ.out;omega
    · have hlt':decide ((P:Int)<(E:Int))=false:=decide_eq_false (by omega)
      have hlt2:¬ (P:Int)<(E:Int):=by omega
      have HNJ:=hid fun h=>hlt (hcond.2 h)
      go_wp2_with fail
      go_quiet (first
       | (go_at_call 113;exact Calls.quiet_of_same (hsg _)))
      have HD5:=hid (HD.out.later (z0f (Below.refl _ _) nq))
      clear c2 hsg HD m1 m2 hcond
      generalize wr.drewN nq=W5 at *
      have c2:=z0a (j:=2) HD5.out.blk (v:=.int .i64 (t.f*s+t.B.length:Nat)) rfl
      have f2:=z0t 2 HD5.out.blk
      have HBLK:=hid HD5.out.blk
      go_wp2_with fail
      go_end0
      rw [HCT.out]
      refine⟨rfl,⟨HTP.out.seg,?_,fun e=>?_,fun b e=>(HD5.out.sm (by omega) e HL.out HNJ.out).put HBLK.out 2 _,HTP.out.q⟩,HD5.out.chg.trans (T:=fun k=>k=T) ((Chg.refl _ _).setCell _ _ fun _=>rfl) fun k _ e=>by rw [e];exact HTP.out.q⟩
      · have hput:=z0u 2 (.int .i64 ((C:Nat):Int)) HBLK.out
        have hx4:t.f*s+(t.B.take l).length=C:=by rw [List.length_take];have:=HC.out;have:=HF.out;have:=HL.out;omega
        show _=some (Obj.cells #[.int .i64 a,.int .i64 (t.f*s:Nat),.int .i64 (t.f*s+(t.B.take l).length:Nat),.map _] _ _)
        rw [hx4]
        exact hput
      · obtain⟨h1,h2⟩:=HTP.out.no e
        exact⟨h1,by show t.B.take l=[];rw [h2];simp⟩
end
theorem last_row {w:World} {Q:Nat→Prop} {z:Nat→Nat × Nat} {f s:Nat} {B:List Int} (hs:0<s) (hS:Seg w Q z f s B):∃ p0 c0,Value.slice p0 (sgD s B (B.length / s)).length c0=svV (So z f s B ((f+B.length / s:Nat):Int))∧RowB w (.slice p0 (sgD s B (B.length / s)).length c0) (sgD s B (B.length / s)).length (sgD s B (B.length / s)) ∧
 ∀ k,(Value.slice p0 (sgD s B (B.length / s)).length c0).ownBlock=some k→B.length / s*s<B.length∧k=(z (f+B.length / s)).1:=by
 rw [z4f]
 by_cases h:B.length / s*s<B.length
 · rw [if_pos h]
   exact⟨_,_,rfl,(hS.row _ h).2,fun k hk=>by cases hk;exact⟨h,rfl⟩⟩
 · rw [if_neg h]
   have e:sgD s B (B.length / s)=[]:=List.eq_nil_of_length_eq_zero (by rw [z9h];omega)
   rw [e]
   exact⟨none,0,rfl,RowB.nil w,fun k hk=>by cases hk⟩
theorem app_one {W:World} {T b f s:Nat} {Q:Nat→Prop} {B x:List Int} {cT:Array Value} {z:Nat→Nat × Nat} {D:DataW Sv} (hs:0<s) (hblk:W.heap[T]?=some (.cells cT 171 (0,0))) (hQb:Q b)
 (hm:MapB W b (nSD s B.length) D) (hT:Tm D (So z f s B) (nSD s B.length)) (hS:Seg W Q z f s B) (hx0:0<x.length) (hx:x.length≤s-B.length % s) {p0:Option Addr} {n0 c0:Nat} (hn0:n0=(sgD s B (B.length / s)).length)
 (hv:Value.slice p0 n0 c0=svV (So z f s B ((f+B.length / s:Nat):Int))) (ho:∀ k,(Value.slice p0 n0 c0).ownBlock=some k→B.length / s*s<B.length∧k=(z (f+B.length / s)).1)
 (p':Option Addr) (c':Nat) (w1:World) (h1:RowB w1 (.slice p' (n0+x.length) c') (n0+x.length) (sgD s B (B.length / s)++x)) (h2:Chg (fun k=>(Value.slice p0 n0 c0).ownBlock=some k) W.drew w1)
 (h3:∀ k,(Value.slice p' (n0+x.length) c').ownBlock=some k→(Value.slice p0 n0 c0).ownBlock=some k∨W.drew.heap.size≤k) :
 w1.heap[T]?=some (.cells cT 171 (0,0))∧MapB w1 b (nSD s B.length) D ∧
 ∀ w2,MapB w2 b (nSD s B.length+1) (D.put (kLD ((f+B.length / s:Nat):Int)) (.held (p',n0+x.length,c')))→Chg (fun k=>k=b) w1 w2→w2.heap[T]?=some (.cells cT 171 (0,0))∧Sm w2 (fun k=>Q k∨W.heap.size≤k) b f s (B++x)∧Chg Q W w2:=by
 have h2':Chg (fun k=>(Value.slice p0 n0 c0).ownBlock=some k) W w1:=h2.undrew (q:=1)
 have hne:∀ k,(Value.slice p0 n0 c0).ownBlock=some k→k≠T∧k≠b∧Q k:=by
  intro k hk
  obtain⟨e1,e2⟩:=ho k hk
  refine⟨fun e=>?_,e2 ▸ hS.ne_map hm _ e1,e2 ▸ (hS.row _ e1).1⟩
  rcases (hS.row _ e1).2.own.2 with ⟨h5,_⟩ | ⟨g5,c5,cur5,h5,_,h6,_⟩
  · cases h5
  · cases h5
    rw [← e2,e,hblk] at h6
    cases h6
 obtain⟨g,rfl⟩:∃ g,p'=some ⟨g,0,none⟩:=by
  obtain⟨p2,c2,he,_,_,hg⟩:=h1.sl
  cases he
  exact hg (by omega)
 have hb1:w1.heap[T]?=some (.cells cT 171 (0,0)):=(h2'.block T (z0g hblk) (fun e=>(hne T e).1 rfl)).trans hblk
 refine⟨hb1,hm.turn h2' (fun e=>(hne b e).2.1 rfl),fun w2 hm2 hc2=>?_⟩
 have hTb:¬ T=b:=hm.ne hblk
 have hsg:sgD s (B++x) (B.length / s)=sgD s B (B.length / s)++x:=sg_app_same hs B x hx
 refine⟨(hc2.block T (z0g hb1) hTb).trans hb1,Sm.grown (v:=.slice p0 n0 c0) hs hQb hm hT hS hx0 hx hv (n:=n0+x.length) ?_ (by rw [hsg];exact h1) h2' (h3 g rfl) _ hm2 hc2,?_⟩
 · rw [hsg,List.length_append,hn0]
 · exact (h2'.mono fun k _ e=>(hne k e).2.2).trans hc2 fun k _ e=>by rw [e];exact hQb
theorem wf_nat (n:Nat) (h:n≤1000000):(Lit.int .i64 (n:Int)).wf=true:=WalkArith.wf_i64 (by omega)
theorem map_nil_in (d:Nat) (q:Option Nat) (w:World):(Op.equalIn (d+1) 169 (.map q) (.map none)).run Tryz.prog w=.ok q.isNone w:=by
 cases q <;> simp [Op.equalIn,run_underlying Tryz.underlying169]
theorem map_nil (q:Option Nat) (w:World):(binOp .eql 169 (.map q) (.map none)).run Tryz.prog w=.ok (.bool q.isNone) w:=by
 simp only [binOp]
 simp [show Op.equal 169 (.map q) (.map none)=Op.equalIn (9999+1) 169 (.map q) (.map none) from rfl,map_nil_in 9999 q w]
def lenV:Value→Nat
 | .slice _ n _=>n
 | _=>0
theorem Tp.made {w:World} {T:Nat} {Q:Nat→Prop} {a:Int} {s:Nat} {t:TS} (h:Tp w T none Q a s t):Tp ((w.alloc (.map #[] 0)).setCell ⟨T,3,none⟩ (.map (some w.heap.size))) T (some w.heap.size) (fun k=>Q k∨w.heap.size≤k) a s t∧Chg Q w ((w.alloc (.map #[] 0)).setCell ⟨T,3,none⟩ (.map (some w.heap.size))):=by
 have hb1:Below w.heap.size w (w.alloc (.map #[] 0)):=(Below.refl _ _).alloc (Nat.le_refl _) _
 have hT:=z0c h.blk hb1
 have hlt:=z0g h.blk
 obtain⟨h1,h2⟩:=h.no rfl
 have hc:Chg (fun k=>k=T) (w.alloc (.map #[] 0)) ((w.alloc (.map #[] 0)).setCell ⟨T,3,none⟩ (.map (some w.heap.size))):=(Chg.refl _ _).setCell _ _ fun _=>rfl
 have hn0:nSD s 0=0:=z9x (by have:=h.s_in;omega) (by omega) (fun i hi=>by omega)
 refine⟨⟨h.seg,z0u 3 _ hT,fun e=>(by cases e),fun b e=>?_,.inl h.q⟩,(Chg.of_below hb1).trans hc fun k _ e=>by rw [e];exact h.q⟩
 cases e
 rw [h1,h2]
 refine⟨.inr (Nat.le_refl _),fun _=>(0,0),.map [],?_,?_,Seg.zero _ _ _ _ _⟩
 · have:=(World.ownsMap_made (H:=Sv) w Tryz.prog 2 z3z).setCell (a:=⟨T,3,none⟩) (by show w.heap.size≠T;omega) (.map (some w.heap.size))
   rw [List.length_nil,hn0]
   exact this
 · rw [List.length_nil,hn0]
   exact Tm.empty.congr (fun y=>by unfold So;rw [if_neg (by simp)]) rfl
section
variable {w:World} {T:Nat} {mb:Option Nat} {Q:Nat→Prop} {a:Int} {s:Nat} {t:TS}
set_option maxRecDepth 100000 in
theorem tape_add (h:Tp w T mb Q a s t) (p:Option Addr) (m c:Nat) (b:List Int) (hb:BL w p m c b) (hap:0<m→∀ a,p=some a→¬ Q a.block) (hbig:t.f*s+t.B.length+m≤1000000) :
 Calls Tryz.prog 68 #[.pointer (some ⟨T,0,none⟩),.slice p m c] w fun e w'=>e=.returned (.tuple #[])∧(∃ mb',Tp w' T mb' (fun k=>Q k∨w.heap.size≤k) a s (appT t b))∧Chg Q w w':=by
 have hs:=h.s_in
 have HB:Hid (b.length=m):=hid hb.len
 have HSEG:=hid h.seg
 have HBIG:=hid hbig
 have hap2:0<m→∀ a,p=some a→¬ (Q a.block∨w.heap.size≤a.block):=fun h0 ad ha=>by
  obtain⟨b0,off,he,hlt,_⟩:=BL.at hb h0
  rw [he] at ha
  cases ha
  rintro (e | e)
  · exact hap h0 _ he e
  · have:w.heap.size≤b0:=e
    omega
 have HAP:=hid hap2
 have HLO:=hid (Nat.le_refl w.heap.size)
 clear hap hap2 hbig
 cases mb with
 | some mb =>
  have HTP:Hid (Tp w T (some mb) (fun k=>Q k∨w.heap.size≤k) a s t):=hid (h.mono fun k hk _=>.inl hk)
  have HCH:=hid (Chg.refl Q w)
  have HBL:=hid hb
  have c3:=h.cells.2.2.2
  have hq:=map_nil (some mb)
  clear h hb
  go_enter Tryz.func68,Tryz.ntmps68
  go_wp2_with fail
  clear c3 hq
  obtain⟨W1,hW1⟩:∃ W1,W1=w:=⟨_,rfl⟩
  have HTP1:Hid (Tp W1 T (some mb) (fun k=>Q k∨w.heap.size≤k) a s t):=by rw [hW1];exact HTP
  have HCH1:Hid (Chg Q w W1):=by rw [hW1];exact HCH
  have HBL1:Hid (BL W1 p m c b):=by rw [hW1];exact HBL
  rw [← hW1]
  clear hW1 HTP HCH HBL
  go_loopw [1] (fun bv wr=>∃ (j:Nat) (pj:Option Addr) (cj:Nat),j≤m∧bv=.slice pj (m-j) cj∧Hid (BL wr pj (m-j) cj (b.drop j))∧Hid (0<m-j→∀ a,pj=some a→¬ (Q a.block∨w.heap.size≤a.block))∧Hid (Tp wr T (some mb) (fun k=>Q k∨w.heap.size≤k) a s ⟨t.f,t.B++b.take j⟩)∧Hid (Chg Q w wr)) (fun bv _=>lenV bv)
  case atStart=>exact⟨0,p,c,Nat.zero_le _,rfl,HBL1,HAP,by simpa using HTP1,HCH1⟩
  case round =>
   obtain⟨j,pj,cj,hj,rfl,HBJ,HAJ,HTJ,HCJ⟩:=hrel
   have HJ:=hid hj
   obtain⟨k,hk⟩:∃ k,m-j=k:=⟨_,rfl⟩
   rw [hk] at HBJ HAJ ⊢
   have HK:=hid hk
   clear hk hj
   by_cases hk0:0<k
   · have hk0':(0:Int)<(k:Int):=by omega
     obtain⟨pb,po,rfl,_,_⟩:=HBJ.out.at hk0
     have hlj:(t.B++b.take j).length+k=t.B.length+m:=by
      rw [List.length_append,List.length_take]
      have:=HB.out;have:=HK.out;have:=HJ.out
      omega
     have HBX:Hid (t.B++b.take j++(b.drop j).take (min (s-(t.B++b.take j).length % s) k)=t.B++b.take (j+min (s-(t.B++b.take j).length % s) k)):=hid (by rw [List.append_assoc,← List.take_add])
     have HDX:Hid (∀ n,(b.drop j).drop n=b.drop (j+n)):=hid fun n=>List.drop_drop
     generalize t.B++b.take j=B at *
     generalize b.drop j=L at *
     obtain⟨i1,i2⟩:=q1s (by omega:0<s) t.f B.length
     have hmod:=Nat.mod_lt B.length (by omega:0<s)
     have hcap:=HBJ.out.cap
     have hmax:cj≤9223372036854775807:=by have:=HBJ.out.max;unfold maxLen at this;omega
     have hE2:t.f*s+B.length≤1000000:=by have:=HBIG.out;omega
     have hdb:=Nat.div_le_self B.length s
     have hfs:t.f≤t.f*s:=Nat.le_mul_of_pos_right _ (by omega)
     have HTWO:Hid (t.f*s+B.length+k≤1000000):=hid (by have:=HBIG.out;omega)
     obtain⟨c1,c2,c3,hsg⟩:=HTJ.out.at rfl rfl
     clear c1 c3
     have hlk:t.f+B.length / s≤1000000:=by omega
     have q0:((s:Int)==0)=false:=by simp;omega
     have q1:¬ s=0:=by omega
     dsimp only at c2
     generalize hyy:B.length / s=y at *
     generalize hrr:B.length % s=r at *
     generalize hEE:t.f*s+B.length=E at *
     have d1:(E:Int).tdiv (s:Int)=((t.f+y:Nat):Int):=by rw [← i1];rfl
     have d2:(E:Int).tmod (s:Int)=(r:Int):=by rw [← i2];rfl
     have d3:IntKind.i64.wrap ((t.f+y:Nat):Int)=((t.f+y:Nat):Int):=IntWalk.i64_in _ (by omega)
     have d4:IntKind.i64.wrap (r:Int)=(r:Int):=IntWalk.i64_in _ (by omega)
     have d5:IntKind.i64.wrap ((s:Int)-(r:Int))=((s:Int)-(r:Int)):=IntWalk.i64_in _ (by omega)
     have hnpos:0<min (s-r) k:=by omega
     have hnk:min (s-r) k≤k:=by omega
     have hnr:min (s-r) k≤s-r:=by omega
     have n1:min ((s:Int)-(r:Int)) (k:Int)=((min (s-r) k:Nat):Int):=by omega
     have n2:(if (k:Int)<(s:Int)-(r:Int) then (k:Int) else (s:Int)-(r:Int))=((min (s-r) k:Nat):Int):=by split <;> omega
     generalize hnn:min (s-r) k=n at *
     have hnc:n≤cj:=by omega
     have HYY:=hid hyy
     have HRR:=hid hrr
     have HEE:=hid hEE
     clear i1 i2 hyy hrr hEE hnn hdb hfs
     go_wp2_with fail
     go_quiet (first
      | (go_at_call 113;exact Calls.quiet_of_same (hsg _)))
     have HT2:=hid (HTJ.out.drewN nq)
     have HB2:=hid (SlG.later HBJ.out (z0f (Below.refl _ _) nq))
     have HC2:=hid (HCJ.out.drewN nq)
     clear HTJ HBJ HCJ c2 hsg d1 d2 d3 d4 d5
     generalize wr.drewN nq=W2 at *
     obtain⟨hQb,z,D,hown,hT,hS⟩:=HT2.out.yes mb rfl
     dsimp only at hown hT hS
     have hblk:=HT2.out.blk
     dsimp only at hblk
     obtain⟨p0,c0,hv,hrow,hown0⟩:=last_row (by omega) hS
     have hlx:(L.take n).length=n:=by rw [List.length_take,HB2.out.len];omega
     have hone:=fun (p':Option Addr) (c':Nat) (w1:World)=>app_one (x:=L.take n) (by omega) hblk hQb hown hT hS (by omega) (by rw [HRR.out];omega) rfl hv hown0 p' c' w1
     rw [hlx] at hone
     have wf:(Lit.int .i64 ((t.f+y:Nat):Int)).wf=true:=wf_nat _ hlk
     have hlook:=q1r (w:=W2.drew) (MapB.turn hown ((Chg.refl (fun _=>False) _).drewN 1) (fun h=>h)) hT wf
     rw [HYY.out] at hv hrow hone
     rw [← hv,Int.natCast_add] at hlook
     have hnb:(sgD s B y).length+n≤1000000:=by
      rw [z9h]
      have:=HTWO.out
      omega
     have HNS:=hid (show nSD s B.length≤1000000 from Nat.le_trans (q1f (by omega)) (by have:=HEE.out;omega))
     have HO:=hid (MapB.turn hown ((Chg.refl (fun _=>False) W2).drewN 1) (fun h=>h))
     have HONE:=hid hone
     have HROW:=hid (hrow.later (Below.refl _ _).drew)
     have HBT:Hid (BL W2.drew (some ⟨pb,po,none⟩) n cj (L.take n)):=hid (SlG.later (SlG.take HB2.out n hnk) (Below.refl _ _).drew)
     have HWF:=hid wf
     have c3:W2.drew.cell? ⟨T,3,none⟩=some (.map (some mb)):=HT2.out.cells.2.2.2
     clear hown hT hS hv hrow hown0 hone hlx hblk wf
     generalize (sgD s B y).length=n0 at *
     go_wp2_with fail
     go_region_law (first
      | (refine step_append_rb rfl (.tmp 52) (.tmp 55) rfl (.slice p0 n0 c0) n0 (sgD s B y) (by simp [Act.eval]) HROW.out (some ⟨pb,po,none⟩) n cj (L.take n) (by simp [Act.eval]) HBT.out hnb ?_;intro p' c' w1 hr1 hc1 hl1 _;obtain⟨hT1,hM1,hS1⟩:=HONE.out p' c' w1 hr1 hc1 hl1;have e3:=z0a (j:=3) hT1 (v:=.map (some mb)) rfl;obtain⟨w2,hrun2,hm2,hc2⟩:=q2k hM1 HNS.out HWF.out p' (n0+n) c';rw [Int.natCast_add] at hrun2;have hF:=hid (hS1 w2 hm2 hc2);clear hS1 hm2 hc2 hM1 hT1 hr1 hc1 hl1))
     all_goals
      obtain⟨hT3,hS3,hC3⟩:=hF.out
      have HT3:=hid hT3
      have HS3:=hid hS3
      have HC3:=hid hC3
      have x2:=z0a (j:=2) hT3 (v:=.int .i64 (t.f*s+B.length:Nat)) rfl
      rw [HEE.out] at x2
      have g2:=z0t 2 hT3
      obtain⟨E2,hE2⟩:∃ E2,E+n=E2:=⟨_,rfl⟩
      have HE2:=hid hE2
      have hE2b:E2≤1000000:=by have:=HTWO.out;have:=HEE.out;omega
      have HBN:Hid (∀ v q,(n<k→q=some ⟨pb,po+n,none⟩)→(q=none→cj=n)→BL (w2.setCell ⟨T,2,none⟩ v) q (k-n) (cj-n) (b.drop (j+n))):=hid fun v q h1 h2=>by
       have hb2:BL w2 (some ⟨pb,po,none⟩) k cj L:=BL.keep HB2.out HC3.out fun h0 ad ha hq=>HAJ.out hk0 ad ha hq
       have hcT:Chg (fun k=>k=T) w2 (w2.setCell ⟨T,2,none⟩ v):=(Chg.refl _ _).setCell _ _ fun _=>rfl
       have hb3:BL (w2.setCell ⟨T,2,none⟩ v) (some ⟨pb,po,none⟩) k cj L:=BL.keep hb2 hcT fun h0 ad ha hq=>HAJ.out hk0 ad ha (by rw [show ad.block=T from hq];exact HT2.out.q)
       rw [← HDX.out]
       exact BL.drop hb3 n hnk q (fun h0 b' off' he=>by cases he;exact h1 h0) h2
      have HTN:Hid (Tp (w2.setCell ⟨T,2,none⟩ (.int .i64 ((E2:Nat):Int))) T (some mb) (fun k=>Q k∨w.heap.size≤k) a s ⟨t.f,t.B++b.take (j+n)⟩):=hid ⟨HSEG.out,by
       have hp:=z0u 2 (.int .i64 ((E2:Nat):Int)) HT3.out
       have hl:t.f*s+(t.B++b.take (j+n)).length=E2:=by
        rw [← HBX.out,List.length_append,List.length_take,HB2.out.len]
        have:=HEE.out
        have:=HE2.out
        omega
       rw [hl]
       exact hp,fun e=>(by cases e),fun b' e=>by
       cases e
       have h1:=HS3.out.put HT3.out 2 (.int .i64 ((E2:Nat):Int))
       rw [HBX.out] at h1
       exact h1.mono fun k hk _=>by
        rcases hk with hk | hk
        · exact hk
        · have:=HC2.out.size
          exact .inr (by omega),HT2.out.q⟩
      have HCN:Hid (Chg Q w (w2.setCell ⟨T,2,none⟩ (.int .i64 ((E2:Nat):Int)))):=hid (HC2.out.trans (HC3.out.trans (T:=fun k=>k=T) ((Chg.refl _ _).setCell _ _ fun _=>rfl) fun k _ e=>by rw [e];exact HT2.out.q) fun k hk hq=>by
       rcases hq with hq | hq
       · exact hq
       · omega)
      have hen:(E:Int)+(n:Int)=(E2:Int):=by omega
      have HAN:Hid (∀ q,(n<k→q=some (⟨pb,po+n,none⟩:Addr))→0<k-n→∀ a,q=some a→¬ (Q a.block∨w.heap.size≤a.block)):=hid fun q h1 h2 ad ha=>by
       have:=h1 (by omega)
       rw [this] at ha
       cases ha
       exact HAJ.out hk0 ⟨pb,po,none⟩ rfl
      have hkn:m-(j+n)=k-n:=by have:=HK.out;omega
      have hjn:j+n≤m:=by have:=HK.out;have:=HJ.out;omega
      clear hT3 hS3 hC3 hE2 hF hrun2 e3 c3 hlook HT2 HB2 HC2 HAJ HROW HBT HONE HO
      go_wp2_with fail
      have hq1:n<k→(if cj=n then some (⟨pb,po,none⟩:Addr) else some ⟨pb,po+n,none⟩)=some ⟨pb,po+n,none⟩:=fun h=>if_neg (by omega)
      refine⟨⟨j+n,_,cj-n,hjn,by rw [hkn],?_,?_,HTN,HCN⟩,?_⟩
      · rw [hkn]
        exact hid (HBN.out _ _ hq1 fun e=>by split at e <;> cases e)
      · rw [hkn]
        exact hid (HAN.out _ hq1)
      · show k-n<k
        omega
   · obtain rfl:k=0:=by omega
     go_wp2_with fail
     go_end0
     have e:j=m:=by have:=HK.out;have:=HJ.out;omega
     subst e
     refine⟨rfl,⟨some mb,?_⟩,HCJ.out⟩
     have h1:=HTJ.out
     rw [List.take_of_length_le (by rw [HB.out];exact Nat.le_refl _)] at h1
     exact h1
 | none =>
  obtain⟨htp,hch⟩:=h.made
  have hbl1:BL ((w.alloc (.map #[] 0)).setCell ⟨T,3,none⟩ (.map (some w.heap.size))) p m c b:=BL.keep hb hch fun h0 ad ha hq=>HAP.out h0 ad ha (.inl hq)
  have HTP1:=hid htp
  have HCH1:=hid hch
  have HBL1:=hid hbl1
  have c3:=h.cells.2.2.2
  have d3:=z0a (j:=3) (z0c h.blk ((Below.refl _ _).alloc (Nat.le_refl _) (.map #[] 0))) (v:=.map none) rfl
  have f3:=z0t 3 (z0c h.blk ((Below.refl _ _).alloc (Nat.le_refl _) (.map #[] 0)))
  have hq:=map_nil none
  have hmm:=@run_makeMap Tryz.prog
  clear h hb htp hch hbl1
  go_enter Tryz.func68,Tryz.ntmps68
  go_wp2_with fail
  clear c3 d3 f3 hq hmm
  generalize (w.alloc (.map #[] 0)).setCell ⟨T,3,none⟩ (.map (some w.heap.size))=W1 at *
  obtain⟨mb,HTP1⟩:∃ mb,Hid (Tp W1 T (some mb) (fun k=>Q k∨w.heap.size≤k) a s t):=⟨_,HTP1⟩
  go_loopw [1] (fun bv wr=>∃ (j:Nat) (pj:Option Addr) (cj:Nat),j≤m∧bv=.slice pj (m-j) cj∧Hid (BL wr pj (m-j) cj (b.drop j))∧Hid (0<m-j→∀ a,pj=some a→¬ (Q a.block∨w.heap.size≤a.block))∧Hid (Tp wr T (some mb) (fun k=>Q k∨w.heap.size≤k) a s ⟨t.f,t.B++b.take j⟩)∧Hid (Chg Q w wr)) (fun bv _=>lenV bv)
  case atStart=>exact⟨0,p,c,Nat.zero_le _,rfl,HBL1,HAP,by simpa using HTP1,HCH1⟩
  case round =>
   obtain⟨j,pj,cj,hj,rfl,HBJ,HAJ,HTJ,HCJ⟩:=hrel
   have HJ:=hid hj
   obtain⟨k,hk⟩:∃ k,m-j=k:=⟨_,rfl⟩
   rw [hk] at HBJ HAJ ⊢
   have HK:=hid hk
   clear hk hj
   by_cases hk0:0<k
   · have hk0':(0:Int)<(k:Int):=by omega
     obtain⟨pb,po,rfl,_,_⟩:=HBJ.out.at hk0
     have hlj:(t.B++b.take j).length+k=t.B.length+m:=by
      rw [List.length_append,List.length_take]
      have:=HB.out;have:=HK.out;have:=HJ.out
      omega
     have HBX:Hid (t.B++b.take j++(b.drop j).take (min (s-(t.B++b.take j).length % s) k)=t.B++b.take (j+min (s-(t.B++b.take j).length % s) k)):=hid (by rw [List.append_assoc,← List.take_add])
     have HDX:Hid (∀ n,(b.drop j).drop n=b.drop (j+n)):=hid fun n=>List.drop_drop
     generalize t.B++b.take j=B at *
     generalize b.drop j=L at *
     obtain⟨i1,i2⟩:=q1s (by omega:0<s) t.f B.length
     have hmod:=Nat.mod_lt B.length (by omega:0<s)
     have hcap:=HBJ.out.cap
     have hmax:cj≤9223372036854775807:=by have:=HBJ.out.max;unfold maxLen at this;omega
     have hE2:t.f*s+B.length≤1000000:=by have:=HBIG.out;omega
     have hdb:=Nat.div_le_self B.length s
     have hfs:t.f≤t.f*s:=Nat.le_mul_of_pos_right _ (by omega)
     have HTWO:Hid (t.f*s+B.length+k≤1000000):=hid (by have:=HBIG.out;omega)
     obtain⟨c1,c2,c3,hsg⟩:=HTJ.out.at rfl rfl
     clear c1 c3
     have hlk:t.f+B.length / s≤1000000:=by omega
     have q0:((s:Int)==0)=false:=by simp;omega
     have q1:¬ s=0:=by omega
     dsimp only at c2
     generalize hyy:B.length / s=y at *
     generalize hrr:B.length % s=r at *
     generalize hEE:t.f*s+B.length=E at *
     have d1:(E:Int).tdiv (s:Int)=((t.f+y:Nat):Int):=by rw [← i1];rfl
     have d2:(E:Int).tmod (s:Int)=(r:Int):=by rw [← i2];rfl
     have d3:IntKind.i64.wrap ((t.f+y:Nat):Int)=((t.f+y:Nat):Int):=IntWalk.i64_in _ (by omega)
     have d4:IntKind.i64.wrap (r:Int)=(r:Int):=IntWalk.i64_in _ (by omega)
     have d5:IntKind.i64.wrap ((s:Int)-(r:Int))=((s:Int)-(r:Int)):=IntWalk.i64_in _ (by omega)
     have hnpos:0<min (s-r) k:=by omega
     have hnk:min (s-r) k≤k:=by omega
     have hnr:min (s-r) k≤s-r:=by omega
     have n1:min ((s:Int)-(r:Int)) (k:Int)=((min (s-r) k:Nat):Int):=by omega
     have n2:(if (k:Int)<(s:Int)-(r:Int) then (k:Int) else (s:Int)-(r:Int))=((min (s-r) k:Nat):Int):=by split <;> omega
     generalize hnn:min (s-r) k=n at *
     have hnc:n≤cj:=by omega
     have HYY:=hid hyy
     have HRR:=hid hrr
     have HEE:=hid hEE
     clear i1 i2 hyy hrr hEE hnn hdb hfs
     go_wp2_with fail
     go_quiet (first
      | (go_at_call 113;exact Calls.quiet_of_same (hsg _)))
     have HT2:=hid (HTJ.out.drewN nq)
     have HB2:=hid (SlG.later HBJ.out (z0f (Below.refl _ _) nq))
     have HC2:=hid (HCJ.out.drewN nq)
     clear HTJ HBJ HCJ c2 hsg d1 d2 d3 d4 d5
     generalize wr.drewN nq=W2 at *
     obtain⟨hQb,z,D,hown,hT,hS⟩:=HT2.out.yes mb rfl
     dsimp only at hown hT hS
     have hblk:=HT2.out.blk
     dsimp only at hblk
     obtain⟨p0,c0,hv,hrow,hown0⟩:=last_row (by omega) hS
     have hlx:(L.take n).length=n:=by rw [List.length_take,HB2.out.len];omega
     have hone:=fun (p':Option Addr) (c':Nat) (w1:World)=>app_one (x:=L.take n) (by omega) hblk hQb hown hT hS (by omega) (by rw [HRR.out];omega) rfl hv hown0 p' c' w1
     rw [hlx] at hone
     have wf:(Lit.int .i64 ((t.f+y:Nat):Int)).wf=true:=wf_nat _ hlk
     have hlook:=q1r (w:=W2.drew) (MapB.turn hown ((Chg.refl (fun _=>False) _).drewN 1) (fun h=>h)) hT wf
     rw [HYY.out] at hv hrow hone
     rw [← hv,Int.natCast_add] at hlook
     have hnb:(sgD s B y).length+n≤1000000:=by
      rw [z9h]
      have:=HTWO.out
      omega
     have HNS:=hid (show nSD s B.length≤1000000 from Nat.le_trans (q1f (by omega)) (by have:=HEE.out;omega))
     have HO:=hid (MapB.turn hown ((Chg.refl (fun _=>False) W2).drewN 1) (fun h=>h))
     have HONE:=hid hone
     have HROW:=hid (hrow.later (Below.refl _ _).drew)
     have HBT:Hid (BL W2.drew (some ⟨pb,po,none⟩) n cj (L.take n)):=hid (SlG.later (SlG.take HB2.out n hnk) (Below.refl _ _).drew)
     have HWF:=hid wf
     have c3:W2.drew.cell? ⟨T,3,none⟩=some (.map (some mb)):=HT2.out.cells.2.2.2
     clear hown hT hS hv hrow hown0 hone hlx hblk wf
     generalize (sgD s B y).length=n0 at *
     go_wp2_with fail
     go_region_law (first
      | (refine step_append_rb rfl (.tmp 52) (.tmp 55) rfl (.slice p0 n0 c0) n0 (sgD s B y) (by simp [Act.eval]) HROW.out (some ⟨pb,po,none⟩) n cj (L.take n) (by simp [Act.eval]) HBT.out hnb ?_;intro p' c' w1 hr1 hc1 hl1 _;obtain⟨hT1,hM1,hS1⟩:=HONE.out p' c' w1 hr1 hc1 hl1;have e3:=z0a (j:=3) hT1 (v:=.map (some mb)) rfl;obtain⟨w2,hrun2,hm2,hc2⟩:=q2k hM1 HNS.out HWF.out p' (n0+n) c';rw [Int.natCast_add] at hrun2;have hF:=hid (hS1 w2 hm2 hc2);clear hS1 hm2 hc2 hM1 hT1 hr1 hc1 hl1))
     all_goals
      obtain⟨hT3,hS3,hC3⟩:=hF.out
      have HT3:=hid hT3
      have HS3:=hid hS3
      have HC3:=hid hC3
      have x2:=z0a (j:=2) hT3 (v:=.int .i64 (t.f*s+B.length:Nat)) rfl
      rw [HEE.out] at x2
      have g2:=z0t 2 hT3
      obtain⟨E2,hE2⟩:∃ E2,E+n=E2:=⟨_,rfl⟩
      have HE2:=hid hE2
      have hE2b:E2≤1000000:=by have:=HTWO.out;have:=HEE.out;omega
      have HBN:Hid (∀ v q,(n<k→q=some ⟨pb,po+n,none⟩)→(q=none→cj=n)→BL (w2.setCell ⟨T,2,none⟩ v) q (k-n) (cj-n) (b.drop (j+n))):=hid fun v q h1 h2=>by
       have hb2:BL w2 (some ⟨pb,po,none⟩) k cj L:=BL.keep HB2.out HC3.out fun h0 ad ha hq=>HAJ.out hk0 ad ha hq
       have hcT:Chg (fun k=>k=T) w2 (w2.setCell ⟨T,2,none⟩ v):=(Chg.refl _ _).setCell _ _ fun _=>rfl
       have hb3:BL (w2.setCell ⟨T,2,none⟩ v) (some ⟨pb,po,none⟩) k cj L:=BL.keep hb2 hcT fun h0 ad ha hq=>HAJ.out hk0 ad ha (by rw [show ad.block=T from hq];exact HT2.out.q)
       rw [← HDX.out]
       exact BL.drop hb3 n hnk q (fun h0 b' off' he=>by cases he;exact h1 h0) h2
      have HTN:Hid (Tp (w2.setCell ⟨T,2,none⟩ (.int .i64 ((E2:Nat):Int))) T (some mb) (fun k=>Q k∨w.heap.size≤k) a s ⟨t.f,t.B++b.take (j+n)⟩):=hid ⟨HSEG.out,by
       have hp:=z0u 2 (.int .i64 ((E2:Nat):Int)) HT3.out
       have hl:t.f*s+(t.B++b.take (j+n)).length=E2:=by
        rw [← HBX.out,List.length_append,List.length_take,HB2.out.len]
        have:=HEE.out
        have:=HE2.out
        omega
       rw [hl]
       exact hp,fun e=>(by cases e),fun b' e=>by
       cases e
       have h1:=HS3.out.put HT3.out 2 (.int .i64 ((E2:Nat):Int))
       rw [HBX.out] at h1
       exact h1.mono fun k hk _=>by
        rcases hk with hk | hk
        · exact hk
        · have:=HC2.out.size
          exact .inr (by omega),HT2.out.q⟩
      have HCN:Hid (Chg Q w (w2.setCell ⟨T,2,none⟩ (.int .i64 ((E2:Nat):Int)))):=hid (HC2.out.trans (HC3.out.trans (T:=fun k=>k=T) ((Chg.refl _ _).setCell _ _ fun _=>rfl) fun k _ e=>by rw [e];exact HT2.out.q) fun k hk hq=>by
       rcases hq with hq | hq
       · exact hq
       · omega)
      have hen:(E:Int)+(n:Int)=(E2:Int):=by omega
      have HAN:Hid (∀ q,(n<k→q=some (⟨pb,po+n,none⟩:Addr))→0<k-n→∀ a,q=some a→¬ (Q a.block∨w.heap.size≤a.block)):=hid fun q h1 h2 ad ha=>by
       have:=h1 (by omega)
       rw [this] at ha
       cases ha
       exact HAJ.out hk0 ⟨pb,po,none⟩ rfl
      have hkn:m-(j+n)=k-n:=by have:=HK.out;omega
      have hjn:j+n≤m:=by have:=HK.out;have:=HJ.out;omega
      clear hT3 hS3 hC3 hE2 hF hrun2 e3 c3 hlook HT2 HB2 HC2 HAJ HROW HBT HONE HO
      go_wp2_with fail
      have hq1:n<k→(if cj=n then some (⟨pb,po,none⟩:Addr) else some ⟨pb,po+n,none⟩)=some ⟨pb,po+n,none⟩:=fun h=>if_neg (by omega)
      refine⟨⟨j+n,_,cj-n,hjn,by rw [hkn],?_,?_,HTN,HCN⟩,?_⟩
      · rw [hkn]
        exact hid (HBN.out _ _ hq1 fun e=>by split at e <;> cases e)
      · rw [hkn]
        exact hid (HAN.out _ hq1)
      · show k-n<k
        omega
   · obtain rfl:k=0:=by omega
     go_wp2_with fail
     go_end0
     have e:j=m:=by have:=HK.out;have:=HJ.out;omega
     subst e
     refine⟨rfl,⟨some mb,?_⟩,HCJ.out⟩
     have h1:=HTJ.out
     rw [List.take_of_length_le (by rw [HB.out];exact Nat.le_refl _)] at h1
     exact h1
end
end Go.Proofs.YtfdgnniicjdjdaaGreatDoor
namespace Go.Proofs.YtfdgnniicjdjdaaGreatDoor
open Go.Lib (hid)
set_option maxHeartbeats 2000000
open Go.RowKit Go.ChangeShapes Go.WideShapes Go.Maps
set_option linter.unusedVariables false
set_option maxRecDepth 10000
set_option linter.unusedSimpArgs false
theorem sl_nil_in (d:Nat) (p:Option Addr) (n c:Nat) (w:World):(Op.equalIn (d+1) 33 (.slice p n c) (.slice none 0 0)).run Tryz.prog w=.ok p.isNone w:=by
 cases p <;> simp [Op.equalIn,run_underlying Tryz.underlying33]
theorem sl_nil (p:Option Addr) (n c:Nat) (w:World):(binOp .eql 33 (.slice p n c) (.slice none 0 0)).run Tryz.prog w=.ok (.bool p.isNone) w:=by
 simp only [binOp]
 simp [show Op.equal 33 (.slice p n c) (.slice none 0 0)=Op.equalIn (9999+1) 33 (.slice p n c) (.slice none 0 0) from rfl,sl_nil_in 9999 p n c w]
theorem clone_bytes (p:Option Addr) (n c:Nat) (L:List Int) (w:World) (hL:BL w p n c L) (h0:0<n) (hn:n≤1000000) :
 Calls Tryz.prog 70 #[.slice p n c] w fun e w'=>∃ g c',e=.returned (.slice (some ⟨g,0,none⟩) n c')∧RowB w' (.slice (some ⟨g,0,none⟩) n c') n L∧w.heap.size≤g∧Below w.heap.size w w':=by
 have HL:=hid hL
 obtain⟨b,off,rfl,_,_⟩:=hL.at h0
 have hb1:Below w.heap.size w (w.alloc (.cells #[] 5)):=(Below.refl _ _).alloc (Nat.le_refl _) _
 have HB1:=hid hb1
 have HR1:Hid (RowB (w.alloc (.cells #[] 5)) (.slice (some ⟨w.heap.size,0,none⟩) 0 0) 0 []):=hid (RowB.fresh (z0b w _) rfl (Nat.zero_le _))
 have HL1:=hid (SlG.later hL hb1)
 have hs1:(w.alloc (.cells #[] 5)).heap.size=w.heap.size+1:=by simp
 have hq:=fun w=>sl_nil (some ⟨b,off,none⟩) n c w
 clear hL hb1
 go_enter Tryz.func70,Tryz.ntmps70
 go_wp2_with (first | (at_builtin;refine z4g rfl _ _ rfl _ _ _ rfl HR1.out _ n c L rfl HL1.out (by omega) ?_;intro p' c' w3 hr3 hc3 hl3 hn3) | fail)
 rw [Nat.zero_add] at hr3 hl3
 go_ret
 obtain⟨p2,c2,he,_,_,hg⟩:=hr3.sl
 cases he
 obtain⟨g,rfl⟩:=hg h0
 refine⟨g,c',rfl,hr3,?_,?_⟩
 · rcases hl3 g rfl with h | h
   · cases h
     exact Nat.le_refl _
   · omega
 · exact hc3.below HB1.out HB1.out.size fun k hk=>by cases hk;exact Nat.le_refl _
structure Cp (w wr:World) (Q:Nat→Prop) (b r b2 T2:Nat) (z0:Nat→Nat × Nat) (D0:DataW Sv) (a:Int) (s:Nat) (t:TS) (left:Lit→Bool) (cnt:Nat):Prop where
 rg:wr.ranges Tryz.prog 2 z3z b r (nSD s t.B.length) D0 left cnt
 seg0:Seg wr Q z0 t.f s t.B
 lt0:∀ i,i*s<t.B.length→(z0 (t.f+i)).1<w.heap.size
 blk:wr.heap[T2]?=some (.cells #[.int .i64 a,.int .i64 (t.f*s:Nat),.int .i64 (t.f*s+t.B.length:Nat),.map (some b2)] 171 (0,0))
 below:Below w.heap.size w wr
 lo:b<w.heap.size∧w.heap.size≤r∧w.heap.size≤b2∧w.heap.size≤T2∧r≠b2∧r≠T2∧b2≠T2
 cntle:cnt≤nSD s t.B.length
 out:∃ z D,MapB wr b2 (nSD s t.B.length-cnt) D∧(∀ x zd,D.atKey (kLD x) zd=match (if left (kLD x)=true then none else So z t.f s t.B x) with | some v=>.held v | none=>zd) ∧
  (∀ kl,Maps.has D kl=(Maps.has D0 kl && !left kl))∧(∀ i,i*s<t.B.length→left (kLD ((t.f+i:Nat):Int))=false→w.heap.size≤(z (t.f+i)).1∧RowB wr (.slice (some ⟨(z (t.f+i)).1,0,none⟩) (sgD s t.B i).length (z (t.f+i)).2) (sgD s t.B i).length (sgD s t.B i)) ∧
  ∀ i j,i*s<t.B.length→j*s<t.B.length→i≠j→left (kLD ((t.f+i:Nat):Int))=false→left (kLD ((t.f+j:Nat):Int))=false→(z (t.f+i)).1≠(z (t.f+j)).1
theorem cp_came {D0:DataW Sv} {z0:Nat→Nat × Nat} {f s m:Nat} {B:List Int} (hT:Tm D0 (So z0 f s B) m) {x:Int} {c:Sv} (hat:∀ zd,D0.atKey (kLD x) zd=.held c):∃ i,i*s<B.length∧x=((f+i:Nat):Int)∧c=(some ⟨(z0 (f+i)).1,0,none⟩,(sgD s B i).length,(z0 (f+i)).2):=by
 have h1:=hT.at_ x .nil
 rw [hat] at h1
 rcases z5b f x with h | ⟨i,rfl⟩
 · rw [z5u _ _ _ _ h] at h1
   cases h1
 · rw [z4f] at h1
   by_cases hi:i*s<B.length
   · rw [if_pos hi] at h1
     cases h1
     exact⟨i,hi,rfl,rfl⟩
   · rw [if_neg hi] at h1
     cases h1
theorem Cp.keep {w wr w1:World} {Q:Nat→Prop} {b r b2 T2:Nat} {z0:Nat→Nat × Nat} {D0:DataW Sv} {a:Int} {s:Nat} {t:TS} {left left1:Lit→Bool} {cnt cnt1:Nat} (h:Cp w wr Q b r b2 T2 z0 D0 a s t left cnt) (hg:wr.grownBy w1 (some r)) :
 Seg w1 Q z0 t.f s t.B∧w1.heap[T2]?=some (.cells #[.int .i64 a,.int .i64 (t.f*s:Nat),.int .i64 (t.f*s+t.B.length:Nat),.map (some b2)] 171 (0,0))∧Below w.heap.size w w1:=by
 obtain⟨l1,l2,l3,l4,l5,l6,l7⟩:=h.lo
 refine⟨h.seg0.keep (Chg.of_grown hg) fun i hi e=>?_,(hg.block T2 (z0g h.blk) (fun e=>l6 (by cases e;rfl))).trans h.blk,h.below.grown hg h.below.size fun k hk=>by cases hk;exact l2⟩
 have:=h.lt0 i hi
 cases e
 omega
theorem Cp.step {w wr w1 w3 w4:World} {Q:Nat→Prop} {b r b2 T2:Nat} {z0:Nat→Nat × Nat} {D0:DataW Sv} {a:Int} {s:Nat} {t:TS} {left:Lit→Bool} {cnt cnt1 i:Nat} (h:Cp w wr Q b r b2 T2 z0 D0 a s t left cnt) (hg:wr.grownBy w1 (some r))
 (hrg:w1.ranges Tryz.prog 2 z3z b r (nSD s t.B.length) D0 (fun y=>left y && !y.sameKey (kLD ((t.f+i:Nat):Int))) cnt1) (hlt:cnt1<cnt) (hT0:Tm D0 (So z0 t.f s t.B) (nSD s t.B.length)) (hi:i*s<t.B.length) (hlx:left (kLD ((t.f+i:Nat):Int))=true)
 {g c n:Nat} (hn:n=(sgD s t.B i).length) (hrow:RowB w3 (.slice (some ⟨g,0,none⟩) n c) n (sgD s t.B i)) (hgl:w1.heap.size≤g) (hb3:Below w1.heap.size w1 w3) {k:Nat} (hk:k=nSD s t.B.length-cnt+1) {z:Nat→Nat × Nat} {D:DataW Sv}
 (hat:∀ x zd,D.atKey (kLD x) zd=match (if left (kLD x)=true then none else So z t.f s t.B x) with | some v=>.held v | none=>zd) (hhas:∀ kl,Maps.has D kl=(Maps.has D0 kl && !left kl))
 (hrows:∀ i,i*s<t.B.length→left (kLD ((t.f+i:Nat):Int))=false→w.heap.size≤(z (t.f+i)).1∧RowB wr (.slice (some ⟨(z (t.f+i)).1,0,none⟩) (sgD s t.B i).length (z (t.f+i)).2) (sgD s t.B i).length (sgD s t.B i))
 (hap:∀ i j,i*s<t.B.length→j*s<t.B.length→i≠j→left (kLD ((t.f+i:Nat):Int))=false→left (kLD ((t.f+j:Nat):Int))=false→(z (t.f+i)).1≠(z (t.f+j)).1)
 (hm:MapB w3 b2 (nSD s t.B.length-cnt) D) (hm4:MapB w4 b2 k (D.put (kLD ((t.f+i:Nat):Int)) (.held (some ⟨g,0,none⟩,n,c)))) (hc4:Chg (fun k=>k=b2) w3 w4) :
 Cp w w4 Q b r b2 T2 z0 D0 a s t (fun y=>left y && !y.sameKey (kLD ((t.f+i:Nat):Int))) cnt1:=by
 obtain⟨l1,l2,l3,l4,l5,l6,l7⟩:=h.lo
 obtain⟨k1,k2,k3⟩:=h.keep (left1:=left) (cnt1:=cnt) hg
 have hsame:∀ j:Nat,(kLD ((t.f+j:Nat):Int)).sameKey (kLD ((t.f+i:Nat):Int))=decide (j=i):=by
  intro j
  by_cases e:j=i
  · subst e
    rw [decide_eq_true rfl]
    exact WideAt.sameKey_self (q2p _)
  · rw [decide_eq_false e]
    exact sameKey_ne fun e'=>e (by have:=q1h e';omega)
 have hc3:Chg (fun _=>False) w1 w3:=Chg.of_below hb3
 have hb2lt:=hm.lt
 have hrg3:=World.ranges.kept (row:=none) hrg (show w1.grownBy w3 none from ⟨hb3.os,hb3.tape,hb3.output,hb3.size,fun k hk _=>hb3.block k hk⟩) (by simp) (by simp)
 have hrg4:=World.ranges.kept (row:=some b2) hrg3 (show w3.grownBy w4 (some b2) from ⟨hc4.os,hc4.tape,hc4.output,hc4.size,fun k hk hne=>hc4.block k hk fun e=>hne (by rw [e])⟩) (fun e=>by cases e;omega) (fun e=>by cases e;exact l5 rfl)
 have hk2:=z0c k2 hb3
 have hgne:g≠b2:=by
  rcases hrow.own.2 with ⟨h3,_⟩ | ⟨g3,c3,cur3,h3,_,h4,_⟩
  · cases h3
  · cases h3
    exact hm.ne h4
 have hg1:=hg.size
 refine⟨hrg4,(k1.keep hc3 fun _ _ h=>h).keep hc4 fun j hj e=>?_,h.lt0,(hc4.block T2 (z0g hk2) (fun e=>l7 e.symm)).trans hk2,hc4.below (k3.trans (hb3.mono k3.size)) (Nat.le_trans k3.size hb3.size) (fun k hk=>by rw [hk];exact l3),h.lo,by have:=h.cntle;omega,?_⟩
 · have:=h.lt0 j hj
   omega
 refine⟨fun y=>if y=t.f+i then (g,c) else z y,_,hm4.mono (by have:=h.cntle;omega),fun x zd=>?_,fun kl=>?_,fun j hj hl=>?_,fun j l hj hl hne h1 h2=>?_⟩
 · by_cases e:x=((t.f+i:Nat):Int)
   · subst e
     rw [atKey_put_same hm.isMap (q2p _)]
     have:(left (kLD ((t.f+i:Nat):Int)) && !(kLD ((t.f+i:Nat):Int)).sameKey (kLD ((t.f+i:Nat):Int)))=false:=by rw [hsame];simp
     rw [this,if_neg (by simp),z4f,if_pos hi,if_pos rfl,hn]
   · rw [atKey_put_other (fun e'=>e (q1h e')),hat]
     have hk:(kLD x).sameKey (kLD ((t.f+i:Nat):Int))=false:=sameKey_ne fun e'=>e (q1h e')
     rw [hk]
     simp only [Bool.not_false,Bool.and_true]
     have hSo:So (fun y=>if y=t.f+i then (g,c) else z y) t.f s t.B x=So z t.f s t.B x:=by
      rcases z5b t.f x with h' | ⟨j,rfl⟩
      · rw [z5u _ _ _ _ h',z5u _ _ _ _ h']
      · rw [z4f,z4f]
        rw [if_neg (show ¬ t.f+j=t.f+i by omega)]
     rw [hSo]
 · by_cases e:kl=kLD ((t.f+i:Nat):Int)
   · subst e
     rw [has_put_same hm.isMap (q2p _),hT0.has,z4f,if_pos hi,hsame]
     simp
   · rw [has_put_other e,hhas,sameKey_ne e]
     simp
 · dsimp only
   by_cases e:j=i
   · subst e
     rw [if_pos rfl]
     refine⟨?_,hn ▸ hrow.keep hc4 fun k hk=>by cases hk;exact hgne⟩
     have:=h.below.size
     show w.heap.size≤g
     omega
   · rw [if_neg (show ¬ t.f+j=t.f+i by omega)]
     rw [hsame,decide_eq_false e] at hl
     simp only [Bool.not_false,Bool.and_true] at hl
     obtain⟨r1,r2⟩:=hrows j hj hl
     refine⟨r1,((r2.keep (Chg.of_grown hg) fun k hk hk2=>?_).keep hc3 fun _ _ h=>h).keep hc4 fun k hk e2=>?_⟩
     · cases hk
       cases hk2
       obtain⟨es,clock,since,seen,c0,_,_,_,_,hr,_⟩:=h.rg
       rcases r2.own.2 with ⟨h3,_⟩ | ⟨g3,c3,cur3,h3,_,h4,_⟩
       · cases h3
       · cases h3
         rw [hr] at h4
         cases h4
     · cases hk
       have r3:=(r2.keep (Chg.of_grown hg) (fun k hk hk2=>by
        cases hk
        cases hk2
        obtain⟨es,clock,since,seen,c0,_,_,_,_,hr,_⟩:=h.rg
        rcases r2.own.2 with ⟨h3,_⟩ | ⟨g3,c3,cur3,h3,_,h4,_⟩
        · cases h3
        · cases h3
          rw [hr] at h4
          cases h4)).keep hc3 fun _ _ h=>h
       rcases r3.own.2 with ⟨h3,_⟩ | ⟨g3,c3,cur3,h3,_,h4,_⟩
       · cases h3
       · cases h3
         exact hm.ne h4 e2
 · have key:∀ j,j*s<t.B.length→j≠i→left (kLD ((t.f+j:Nat):Int))=false→(z (t.f+j)).1≠g:=by
    intro j hj e hl e2
    have:(z (t.f+j)).1<wr.heap.size:=(hrows j hj hl).2.bound _ rfl
    omega
   dsimp only
   rw [hsame] at h1 h2
   by_cases e:j=i
   · rw [if_pos (by omega),if_neg (show ¬ t.f+l=t.f+i by omega)]
     rw [decide_eq_false (show ¬ l=i by omega)] at h2
     simp only [Bool.not_false,Bool.and_true] at h2
     exact fun h=>key l hl (by omega) h2 h.symm
   · rw [if_neg (show ¬ t.f+j=t.f+i by omega)]
     rw [decide_eq_false e] at h1
     simp only [Bool.not_false,Bool.and_true] at h1
     by_cases e2:l=i
     · rw [if_pos (by omega)]
       exact key j hj e h1
     · rw [if_neg (show ¬ t.f+l=t.f+i by omega)]
       rw [decide_eq_false e2] at h2
       simp only [Bool.not_false,Bool.and_true] at h2
       exact hap j l hj hl hne h1 h2
theorem Cp.done {w wr:World} {Q:Nat→Prop} {b r b2 T2:Nat} {z0:Nat→Nat × Nat} {D0:DataW Sv} {a:Int} {s:Nat} {t:TS} {left:Lit→Bool} {cnt:Nat} (h:Cp w wr Q b r b2 T2 z0 D0 a s t left cnt) (hT0:Tm D0 (So z0 t.f s t.B) (nSD s t.B.length)) (hs:s=cl a 64 4096) (hl:∀ kl,left kl=false):Tp wr T2 (some b2) (fun k=>w.heap.size≤k) a s t:=by
 obtain⟨z,D,hm,hat,hhas,hrows,hap⟩:=h.out
 have hsz:Maps.size D=nSD s t.B.length:=by
  rw [size_same hm h.rg.owns (fun kl=>by rw [hhas,hl];simp),hT0.size]
 refine⟨hs,h.blk,fun e=>(by cases e),fun b' e=>?_,h.lo.2.2.2.1⟩
 cases e
 refine⟨h.lo.2.2.1,z,D,hsz ▸ hm.tight,⟨hm.tidy z7p,fun x zd=>?_,hsz⟩,⟨fun i hi=>hrows i hi (hl _),fun i j hi hj hne=>hap i j hi hj hne (hl _) (hl _)⟩⟩
 rw [hat,hl,if_neg (by simp)]
 cases So z t.f s t.B x <;> rfl
theorem made_map (n:Int) (w:World):(Instr.makeMap 169 (some (.int .i64 n))).run Tryz.prog w=.ok (.map (some w.heap.size)) (w.alloc (.map #[] 0)):=by
 simp [Instr.makeMap,run_underlying Tryz.underlying169,asInt,asIntOf,Result.andThen]
theorem So_none {z:Nat→Nat × Nat} (z':Nat→Nat × Nat) {f s:Nat} {B:List Int} {x:Int} (h:So z f s B x=none):So z' f s B x=none:=by
 unfold So at *
 split at h
 · cases h
 · rename_i hn
   rw [if_neg hn]
section
variable {w:World} {T:Nat} {mb:Option Nat} {Q:Nat→Prop} {a:Int} {s:Nat} {t:TS}
set_option maxRecDepth 100000 in
theorem tape_copy (h:Tp w T mb Q a s t) (hbig:t.f*s+t.B.length≤1000000):Calls Tryz.prog 101 #[.pointer (some ⟨T,0,none⟩)] w fun e w'=>e=.returned (.pointer (some ⟨w.heap.size,0,none⟩))∧(∃ mb',Tp w' w.heap.size mb' (fun k=>w.heap.size≤k) a s t)∧Below w.heap.size w w':=by
 have hs:=h.s_in
 have HTP:=hid h
 have hTlt:=z0g h.blk
 have c0:=h.cells.1
 have hn:=tape_new a w
 have hb1:Below w.heap.size w (w.alloc (.cells #[.int .i64 a,.int .i64 0,.int .i64 0,.map none] 171)):=(Below.refl _ _).alloc (Nat.le_refl _) _
 have HB1:=hid hb1
 have HN1:=hid (z0b w (.cells #[.int .i64 a,.int .i64 0,.int .i64 0,.map none] 171))
 have hs1:(w.alloc (.cells #[.int .i64 a,.int .i64 0,.int .i64 0,.map none] 171)).heap.size=w.heap.size+1:=by simp
 clear h hb1
 go_enter Tryz.func101,Tryz.ntmps101
 go_wp2_with fail
 refine hn.mono ?_
 rintro e w' ⟨rfl,rfl⟩
 go_wp2_with fail
 clear hn
 have HT1:=hid (HTP.out.later HB1.out)
 generalize hW1:w.alloc (.cells #[.int .i64 a,.int .i64 0,.int .i64 0,.map none] 171)=W1 at *
 clear hW1
 have c1:W1.drew.cell? ⟨T,1,none⟩=some (.int .i64 (t.f*s:Nat)):=HT1.out.cells.2.1
 have c2:W1.drew.cell? ⟨T,2,none⟩=some (.int .i64 (t.f*s+t.B.length:Nat)):=HT1.out.cells.2.2.1
 have n1:W1.drew.cell? ⟨w.heap.size,1,none⟩=some (.int .i64 0):=z0a (j:=1) HN1.out rfl
 have n2:W1.drew.cell? ⟨w.heap.size,2,none⟩=some (.int .i64 0):=z0a (j:=2) HN1.out rfl
 have m1:W1.cell? ⟨w.heap.size,1,none⟩=some (.int .i64 0):=n1
 have m2:W1.cell? ⟨w.heap.size,2,none⟩=some (.int .i64 0):=n2
 have e1:W1.frozen? ⟨w.heap.size,1,none⟩=false:=z0t 1 HN1.out
 have e2:W1.frozen? ⟨w.heap.size,2,none⟩=false:=z0t 2 HN1.out
 have f1:W1.drew.frozen? ⟨w.heap.size,1,none⟩=false:=z0t 1 HN1.out
 have f2:W1.drew.frozen? ⟨w.heap.size,2,none⟩=false:=z0t 2 HN1.out
 have HF:Hid (T<w.heap.size):=hid hTlt
 generalize hF:t.f*s=F at *
 generalize hE:F+t.B.length=E at *
 have HFF:=hid hF
 have HEE:=hid hE
 clear hF hE
 go_region
 have HN2:Hid (((W1.setCell ⟨w.heap.size,1,none⟩ (.int .i64 (F:Nat))).setCell ⟨w.heap.size,2,none⟩ (.int .i64 (E:Nat))).drew.heap[w.heap.size]?=some (.cells #[.int .i64 a,.int .i64 (F:Nat),.int .i64 (E:Nat),.map none] 171 (0,0))):=hid (z0u 2 _ (z0u 1 _ HN1.out))
 have hc2:Chg (fun k=>k=w.heap.size) W1 ((W1.setCell ⟨w.heap.size,1,none⟩ (.int .i64 (F:Nat))).setCell ⟨w.heap.size,2,none⟩ (.int .i64 (E:Nat))).drew:=(((Chg.refl (fun k=>k=w.heap.size) W1).setCell ⟨w.heap.size,1,none⟩ _ fun _=>rfl).setCell ⟨w.heap.size,2,none⟩ _ fun _=>rfl).drewN 1
 have HB2:=hid (hc2.below HB1.out HB1.out.size fun k hk=>by omega)
 have hs2:((W1.setCell ⟨w.heap.size,1,none⟩ (.int .i64 (F:Nat))).setCell ⟨w.heap.size,2,none⟩ (.int .i64 (E:Nat))).drew.heap.size=w.heap.size+1:=by simpa using hs1
 clear c1 c2 n1 n2 m1 m2 e1 e2 f1 f2 hc2 HN1 HB1 HT1 hs1
 generalize ((W1.setCell ⟨w.heap.size,1,none⟩ (.int .i64 (F:Nat))).setCell ⟨w.heap.size,2,none⟩ (.int .i64 (E:Nat))).drew=W2 at *
 have HT2:=hid (HTP.out.later HB2.out)
 obtain⟨X,hX⟩:∃ X,w.heap.size=X:=⟨_,rfl⟩
 have HX:=hid hX
 rw [hX] at HN2 HB2 HF hs2 ⊢
 have c3:W2.cell? ⟨T,3,none⟩=some (.map mb):=HT2.out.cells.2.2.2
 have hlen:∀ ty,(Builtin.len_ #[169] ty #[.map mb]).run Tryz.prog W2=.ok (.int .i64 (nSD s t.B.length:Nat)) W2:=by
  intro ty
  cases mb with
  | none =>
   rw [(HTP.out.no rfl).2,z9x (s:=s) (n:=([]:List Int).length) (m:=0) (by omega) (by simp) (fun i hi=>by omega)]
   exact Maps.len_nil Tryz.underlying169 ty
  | some b =>
   obtain⟨_,z,D,hown,hT,_⟩:=HT2.out.yes b rfl
   exact len_at hown hT ty
 have hmm:=made_map
 have hb3:Below W2.heap.size W2 (W2.alloc (.map #[] 0)):=(Below.refl _ _).alloc (Nat.le_refl _) _
 have hN3:=z0c HN2.out hb3
 have x3:=z0a (j:=3) hN3 (v:=.map none) rfl
 have y3:=z0t 3 hN3
 have HN3:Hid (((W2.alloc (.map #[] 0)).setCell ⟨X,3,none⟩ (.map (some (X+1)))).heap[X]?=some (.cells #[.int .i64 a,.int .i64 (F:Nat),.int .i64 (E:Nat),.map (some (X+1))] 171 (0,0))):=hid (z0u 3 _ hN3)
 have hc3:Chg (fun k=>k=X) (W2.alloc (.map #[] 0)) ((W2.alloc (.map #[] 0)).setCell ⟨X,3,none⟩ (.map (some (X+1)))):=(Chg.refl _ _).setCell _ _ fun _=>rfl
 have HB3:Hid (Below X w ((W2.alloc (.map #[] 0)).setCell ⟨X,3,none⟩ (.map (some (X+1))))):=hid (by
  have hb4:=HB2.out.trans (hb3.mono (by omega))
  exact hc3.below hb4 (hX ▸ hb4.size) fun k hk=>by omega)
 have hs3:((W2.alloc (.map #[] 0)).setCell ⟨X,3,none⟩ (.map (some (X+1)))).heap.size=X+2:=by simp [World.setCell,hs2]
 have hM3:MapB ((W2.alloc (.map #[] 0)).setCell ⟨X,3,none⟩ (.map (some (X+1)))) (X+1) 0 (.map []):=by
  have hm:=World.ownsMap_made (H:=Sv) W2 Tryz.prog 2 z3z
  rw [hs2] at hm
  exact hm.setCell (a:=⟨X,3,none⟩) (by show X+1≠X;omega) _
 have HM3:=hid hM3
 clear hb3 hN3 hc3 hM3
 generalize hN:nSD s t.B.length=N at *
 have HN:=hid hN
 clear hN
 generalize hW3:(W2.alloc (.map #[] 0)).setCell ⟨X,3,none⟩ (.map (some (X+1)))=W3 at *
 have HT3:=hid (HTP.out.later (hX ▸ HB3.out))
 have c3':W3.cell? ⟨T,3,none⟩=some (.map mb):=HT3.out.cells.2.2.2
 clear hX hTlt c0
 cases mb with
 | none =>
  obtain⟨t1,t2⟩:=HTP.out.no rfl
  have hrg:=run_range_nilMap (P:=Tryz.prog) W3 169 _ _ Tryz.underlying169
  have hnx:∀ ty,(Instr.next (.pointer (some ⟨W3.heap.size,0,none⟩)) false ty).run Tryz.prog (W3.alloc (.mapIter none 0 #[] 0))=_:=fun ty=>run_next_nilMap _ ty 0 0 #[]
  rw [hs3] at hrg hnx
  go_wp2_with fail
  simp only [hW3] at *
  go_wp2_with fail
  refine wp_loop_rounds 1 ?_
  rw [rounds_succ]
  go_wp2_with fail
  go_ret
  have hb4:Below W3.heap.size W3 (W3.alloc (.mapIter none 0 #[] 0)):=(Below.refl _ _).alloc (Nat.le_refl _) _
  have hN4:=z0c HN3.out hb4
  have hn0:nSD s 0=0:=z9x (by omega) (by omega) (fun i hi=>by omega)
  refine⟨by rw [HX.out];rfl,⟨some (X+1),HTP.out.seg,?_,fun e=>(by cases e),fun b e=>?_,Nat.le_refl _⟩,?_⟩
  · rw [HX.out,HFF.out,HEE.out]
    exact hN4
  · cases e
    rw [t1,t2,HX.out]
    refine⟨Nat.le_succ X,fun _=>(0,0),.map [],?_,?_,Seg.zero _ _ _ _ _⟩
    · rw [List.length_nil,hn0]
      exact HM3.out.turn (Chg.of_below (S:=fun _=>False) hb4) fun h=>h
    · rw [List.length_nil,hn0]
      exact Tm.empty.congr (fun y=>by unfold So;rw [if_neg (by simp)]) rfl
  · rw [HX.out]
    exact HB3.out.trans (hb4.mono (by omega))
 | some b =>
  obtain⟨_,z0,D0,hown9,hT0,hS9⟩:=HTP.out.yes b rfl
  have hc9:Chg (fun _=>False) w W3:=Chg.of_below (HX.out ▸ HB3.out)
  have HO:=hid (hown9.turn hc9 fun h=>h)
  have HTM:=hid hT0
  have HSG:=hid (hS9.keep hc9 fun _ _ h=>h)
  have HLT:=hid fun i hi=>hS9.lt (i:=i) hi
  have hblt:b<w.heap.size:=hown9.lt
  clear hown9 hS9 hT0 hc9
  obtain⟨w0,hrun0,hrg0,hg0,hs0⟩:=HO.out.range z7p Tryz.underlying169
  rw [hs3] at hrun0 hrg0 hs0
  go_wp2_with fail
  simp only [hW3] at *
  go_wp2_with fail
  clear hrun0 hlen hmm x3 y3
  have hcp:Cp w w0 Q b (X+2) (X+1) X z0 D0 a s t (Maps.has D0) (Maps.size D0):=by
   have hb0:Below W3.heap.size W3 w0:=⟨hg0.os,hg0.tape,hg0.output,hg0.size,fun k hk=>hg0.block k hk (by simp)⟩
   refine⟨hrg0,HSG.out.keep (Chg.of_below (S:=fun _=>False) hb0) (fun _ _ h=>h),fun i hi=>?_,?_,?_,?_,?_,?_⟩
   · exact HLT.out i hi
   · rw [HFF.out,HEE.out]
     exact z0c HN3.out hb0
   · rw [HX.out]
     exact HB3.out.trans (hb0.mono (by omega))
   · have:=HX.out
     omega
   · rw [HTM.out.size]
     exact Nat.le_refl _
   · refine⟨fun _=>(0,0),.map [],(HM3.out.turn (Chg.of_below (S:=fun _=>False) hb0) fun h=>h).mono (Nat.zero_le _),fun x zd=>?_,fun kl=>?_,fun i hi hl=>?_,fun i j hi hj hne hl=>?_⟩
     · cases hh:Maps.has D0 (kLD x) with
       | true=>rw [if_pos rfl];rfl
       | false =>
        have h1:=HTM.out.has x
        rw [hh] at h1
        have h2:So z0 t.f s t.B x=none:=by
         cases e:So z0 t.f s t.B x with
         | none=>rfl
         | some v=>rw [e] at h1;cases h1
        rw [if_neg (by simp),So_none (fun _=>(0,0)) h2]
        rfl
     · show false=_
       cases Maps.has D0 kl <;> rfl
     · rw [HTM.out.has,z4f,if_pos hi] at hl
       cases hl
     · rw [HTM.out.has,z4f,if_pos hi] at hl
       cases hl
  have HCP:=hid hcp
  clear hcp hrg0 hg0 hs0
  go_loopw [4] (fun _ wr=>∃ (left:Lit→Bool) (cnt:Nat),Hid (Cp w wr Q b (X+2) (X+1) X z0 D0 a s t left cnt)) (fun _ wr=>wr.rangeLeft b (X+2))
  case atStart=>exact⟨_,_,HCP⟩
  case round =>
   obtain⟨left,cnt,HC⟩:=hrel
   go_wp2_with (first | (at_next;refine wpList_next_ranges (α:=Int) (β:=Sv) _ rfl _ rfl 2 z7p z3z (Value.int .i64) (fun c=>.slice c.1 c.2.1 c.2.2) (fun key kl hk=>by obtain⟨x,rfl,_⟩:=Maps.keyOf_int_inv Tryz.underlying2 hk;exact⟨x,rfl⟩) (fun v y hv=>by obtain⟨c,rfl,_⟩:=held_shape hv;exact⟨c,rfl⟩) b (X+2) _ D0 _ _ rfl HC.out.rg ?_ ?_) | fail)
   · intro hc0 hl0
     go_wp2_with fail
     go_ret
     refine⟨by rw [HX.out];rfl,⟨some (X+1),?_⟩,HC.out.below⟩
     have hd:=HC.out.done HTM.out HTP.out.seg hl0
     rw [HX.out] at hd ⊢
     exact hd
   · intro x cp cn cc kl yd yps w1 cnt1 hkey hlk hv hat hrg1 hlt hg1 hs1 hen
     obtain⟨x',ex,rfl,hwx⟩:=Maps.keyOf_int_inv Tryz.underlying2 hkey
     cases ex
     obtain⟨rfl,rfl⟩:yd=.held (cp,cn,cc)∧yps=[]:=by
      first
       | (cases hv;exact⟨rfl,rfl⟩)
       | (obtain⟨h1,h2⟩:=hv;exact⟨h1.symm,h2.symm⟩)
       | (simp [z3z] at hv;obtain⟨h1,h2⟩:=hv;exact⟨h1.symm,h2.symm⟩)
     obtain⟨i,hi,rfl,hce⟩:=cp_came HTM.out hat
     cases hce
     obtain⟨k1,k2,k3⟩:=HC.out.keep (left1:=left) (cnt1:=cnt) hg1
     have hrow:=(k1.row i hi).2
     have hpos:0<(sgD s t.B i).length:=by rw [z9h];omega
     have HCL:=hid (clone_bytes _ _ _ _ w1.drew (SlG.later hrow.bl (Below.refl _ _).drew) hpos (by rw [z9h];omega))
     obtain⟨z,D,hm,hatD,hhas,hrows,hap⟩:=HC.out.out
     have l5:X+2≠X+1:=by omega
     have HM1:=hid (World.ownsMap.kept hm hg1 (fun e=>by have:=Option.some.inj e;omega))
     have HST:=hid fun (w3 w4:World) (g c3:Nat) (hr3:RowB w3 (.slice (some ⟨g,0,none⟩) (sgD s t.B i).length c3) (sgD s t.B i).length (sgD s t.B i)) (hg3:w1.heap.size≤g) (hb3:Below w1.heap.size w1 w3) (hm3:MapB w3 (X+1) (nSD s t.B.length-cnt) D) (hm4:MapB w4 (X+1) (nSD s t.B.length-cnt+1) (D.put (kLD ((t.f+i:Nat):Int)) (.held (some ⟨g,0,none⟩,(sgD s t.B i).length,c3)))) (hc4:Chg (fun k=>k=X+1) w3 w4) =>
      HC.out.step hg1 hrg1 hlt HTM.out hi hlk rfl hr3 hg3 hb3 rfl hatD hhas hrows hap hm3 hm4 hc4
     have HWX:=hid hwx
     have hNle:=q1f (s:=s) (n:=t.B.length) (by omega)
     have HNN:Hid (nSD s t.B.length-cnt≤1000000):=hid (by have:=HEE.out;omega)
     have HK2:=hid k2
     have c3w:w1.drew.cell? ⟨X,3,none⟩=some (.map (some (X+1))):=z0a (j:=3) k2 rfl
     have HLT1:=hid hlt
     clear hatD hhas hrows hap hm hrow hlt hrg1 hat hkey hlk hwx k1 k2 hv
     go_wp2_with fail
     go_region_law (first
      | (go_simp;go_at_call 70;refine HCL.out.mono ?_;rintro e w3 ⟨g,c3,rfl,hr3,hg3,hb3⟩;have hb3':=z6k (q:=1) hb3;have e3:=z0a (j:=3) (z0c HK2.out hb3') (v:=.map (some (X+1))) rfl;have hm3:=MapB.turn HM1.out (Chg.of_below (S:=fun _=>False) hb3') (fun h=>h);obtain⟨w4,hrun4,hm4,hc4⟩:=q2k hm3 HNN.out HWX.out (some ⟨g,0,none⟩) (sgD s t.B i).length c3;rw [Int.natCast_add] at hrun4;have hF:=hid (HST.out w3 w4 g c3 hr3 hg3 hb3' hm3 hm4 hc4);clear hr3 hg3 hb3 hb3' hm3 hm4 hc4))
     all_goals
      go_wp2_with fail
      go_roundw
      case rel=>exact⟨_,_,hF⟩
      case measure=>rw [hF.out.rg.left_eq,HC.out.rg.left_eq];exact HLT1.out
end
end Go.Proofs.YtfdgnniicjdjdaaGreatDoor
namespace Go.Proofs.YtfdgnniicjdjdaaGreatDoor
open Go.Lib (hid)
set_option maxHeartbeats 2000000
open Go.RowKit Go.ChangeShapes Go.WideShapes
set_option linter.unusedVariables false
set_option maxRecDepth 10000
set_option linter.unusedSimpArgs false
def paint (col:Nat→Nat) (n c:Nat):Nat→Nat:=fun k=>if k<n then col k else c
theorem z2g {col:Nat→Nat} {n c k:Nat} (h:k<n):paint col n c k=col k:=if_pos h
theorem z3d {col:Nat→Nat} {n c k:Nat} (h:n≤k):paint col n c k=c:=if_neg (by omega)
def Ext (w:World) (col col':Nat→Nat):Prop:=∀ k,k<w.heap.size→col' k=col k
theorem Ext.refl (w:World) (col:Nat→Nat):Ext w col col:=fun _ _=>rfl
theorem Ext.trans {w w':World} {a b c:Nat→Nat} (h:Ext w a b) (g:Ext w' b c) (hs:w.heap.size≤w'.heap.size):Ext w a c:=fun k hk=>(g k (Nat.lt_of_lt_of_le hk hs)).trans (h k hk)
theorem Ext.paint (w:World) (col:Nat→Nat) (c:Nat):Ext w col (paint col w.heap.size c):=fun _ hk=>z2g hk
theorem bl_col {w:World} {p:Option Addr} {n c x:Nat} {L:List Int} {col col':Nat→Nat} (h:BL w p n c L) (he:Ext w col col') (hc:0<n→∀ a,p=some a→col a.block=x):0<n→∀ a,p=some a→col' a.block=x:=fun h0 a ha=>by
 obtain⟨b,off,hp,hlt,_⟩:=h.at h0
 rw [hp] at ha
 cases ha
 rw [he b hlt]
 exact hc h0 _ hp
structure Pa (w:World) (col:Nat→Nat) (c Bv T s:Nat) (V:List (List Int)) (a:Int) (z:Nat) (t:TS):Prop where
 vo:∃ G,Vo w Bv G s V∧col G=c
 cv:col Bv=c
 tp:∃ mb,Tp w T mb (fun k=>col k=c+1) a z t
theorem Pa.keep {w w':World} {col:Nat→Nat} {c Bv T s z:Nat} {V:List (List Int)} {a:Int} {t:TS} {S:Nat→Prop} (h:Pa w col c Bv T s V a z t) (hc:Chg S w w') (hs:∀ k,col k=c∨col k=c+1→¬ S k):Pa w' col c Bv T s V a z t:=by
 obtain⟨⟨G,h1,h2⟩,h3,mb,h4⟩:=h
 exact⟨⟨G,h1.keep hc (hs _ (.inl h3)) (hs _ (.inl h2)),h2⟩,h3,mb,h4.keep hc fun k hk=>hs k (.inr hk)⟩
theorem Pa.later {w w':World} {col:Nat→Nat} {c Bv T s z:Nat} {V:List (List Int)} {a:Int} {t:TS} (h:Pa w col c Bv T s V a z t) (hb:Below w.heap.size w w'):Pa w' col c Bv T s V a z t:=h.keep (Chg.of_below (S:=fun _=>False) hb) fun _ _ h=>h
theorem Pa.recol {w:World} {col col':Nat→Nat} {c Bv T s z:Nat} {V:List (List Int)} {a:Int} {t:TS} (h:Pa w col c Bv T s V a z t) (he:Ext w col col'):Pa w col' c Bv T s V a z t:=by
 obtain⟨⟨G,h1,h2⟩,h3,mb,h4⟩:=h
 exact⟨⟨G,h1,(he G (z0g h1.row)).trans h2⟩,(he Bv (z0g h1.blk)).trans h3,mb,h4.mono fun k hk hl=>(he k hl).trans hk⟩
theorem Pa.z_in {w:World} {col:Nat→Nat} {c Bv T s z:Nat} {V:List (List Int)} {a:Int} {t:TS} (h:Pa w col c Bv T s V a z t):64≤z∧z≤4096:=by
 obtain⟨mb,h4⟩:=h.tp
 exact h4.s_in
def Dw.bytes:Dw→List Int
 | .put _ b=>b
 | .grow b=>b
 | _=>[]
structure Pw where
 x:Dw
 p:Option Addr
 c:Nat
def Dw.np:Dw→Prop
 | .put _ _=>False
 | _=>True
def Pw.val:Pw→Value
 | ⟨.put i b,p,c⟩=>.iface 175 (.agg #[.int .i64 i])
 | ⟨.grow b,p,c⟩=>.iface 130 (.agg #[.slice p b.length c])
 | ⟨.drop x,_,_⟩=>.iface 132 (.agg #[.int .i64 x])
 | ⟨.cut x,_,_⟩=>.iface 175 (.agg #[.int .i64 x])
theorem Pw.val_iface (y:Pw):∃ t v,y.val=.iface t v:=by
 obtain⟨x,p,c⟩:=y
 cases x <;> exact⟨_,_,rfl⟩
def ew (y:Pw):List Value:=[y.val]
theorem q2r (y:Pw):(ew y).length=1:=rfl
theorem ew_one (y:Pw):∀ u∈ew y,u.oneCell'=true:=by
 intro u hu
 simp only [ew,List.mem_cons,List.not_mem_nil,or_false] at hu
 subst hu
 obtain⟨t,v,h⟩:=y.val_iface
 rw [h]
 rfl
abbrev yd:Pw:=⟨.drop 0,none,0⟩
structure Pw.ok (w:World) (col:Nat→Nat) (y:Pw):Prop where
 bl:BL w y.p y.x.bytes.length y.c y.x.bytes
 c0:0<y.x.bytes.length→∀ a,y.p=some a→col a.block=0
 np:y.x.np
theorem Pw.ok.keep {w w':World} {col:Nat→Nat} {y:Pw} {S:Nat→Prop} (h:y.ok w col) (hc:Chg S w w') (hs:∀ k,col k=0→¬ S k):y.ok w' col:=⟨BL.keep h.bl hc fun h0 a ha=>hs _ (h.c0 h0 a ha),h.c0,h.np⟩
theorem Pw.ok.recol {w:World} {col col':Nat→Nat} {y:Pw} (h:y.ok w col) (he:Ext w col col'):y.ok w col':=⟨h.bl,bl_col h.bl he h.c0,h.np⟩
structure Pe (w:World) (col:Nat→Nat) (c:Nat) (pv:Value) (L:List Dw):Prop where
 row:∃ PL:List Pw,PL.map (·.x)=L∧w.ownsRow 0 134 1 pv PL.length (z1e ew PL)∧∀ y∈PL,y.ok w col
 at_:∀ k,pv.ownBlock=some k→col k=c
theorem q0m {w w':World} {T:TypeId} {v:Value} {n:Nat} {cs:List Value} {S:Nat→Prop} (h:w.ownsRow 0 T 1 v n cs) (hc:Chg S w w') (hs:∀ k,v.ownBlock=some k→¬ S k):w'.ownsRow 0 T 1 v n cs:=by
 refine⟨h.1,?_⟩
 rcases h.2 with hn | ⟨g,cap,cur,rfl,h1,h2,h3⟩
 · exact .inl hn
 · exact .inr ⟨g,cap,cur,rfl,h1,by rw [hc.block g (z0g h2) (hs g rfl)];exact h2,h3⟩
theorem Pe.keep {w w':World} {col:Nat→Nat} {c:Nat} {pv:Value} {L:List Dw} {S:Nat→Prop} (h:Pe w col c pv L) (hc:Chg S w w') (hs:∀ k,col k=0∨col k=c→¬ S k):Pe w' col c pv L:=by
 obtain⟨⟨PL,h1,h2,h3⟩,h4⟩:=h
 exact⟨⟨PL,h1,q0m h2 hc fun k hk=>hs k (.inr (h4 k hk)),fun y hy=>(h3 y hy).keep hc fun k hk=>hs k (.inl hk)⟩,h4⟩
theorem Pe.later {w w':World} {col:Nat→Nat} {c:Nat} {pv:Value} {L:List Dw} (h:Pe w col c pv L) (hb:Below w.heap.size w w'):Pe w' col c pv L:=h.keep (Chg.of_below (S:=fun _=>False) hb) fun _ _ h=>h
theorem Pe.recol {w:World} {col col':Nat→Nat} {c:Nat} {pv:Value} {L:List Dw} (h:Pe w col c pv L) (he:Ext w col col'):Pe w col' c pv L:=by
 obtain⟨⟨PL,h1,h2,h3⟩,h4⟩:=h
 exact⟨⟨PL,h1,h2,fun y hy=>(h3 y hy).recol he⟩,fun k hk=>(he k (h2.lt k hk).2).trans (h4 k hk)⟩
theorem Pe.nil (w:World) (col:Nat→Nat) (c:Nat):Pe w col c (.slice none 0 0) []:=⟨⟨[],rfl,World.ownsRow_nil _ _ _ _,fun y hy=>by cases hy⟩,fun k hk=>by cases hk⟩
theorem Pe.sl {w:World} {col:Nat→Nat} {c:Nat} {pv:Value} {L:List Dw} (h:Pe w col c pv L):∃ p cp PL,pv=.slice p L.length cp∧PL.map (·.x)=L∧SlG ew 1 yd w p L.length cp PL∧(∀ y∈PL,y.ok w col)∧(0<L.length→∀ a,p=some a→col a.block=c):=by
 obtain⟨⟨PL,h1,h2,h3⟩,h4⟩:=h
 have hl:PL.length=L.length:=by rw [← h1,List.length_map]
 rw [hl] at h2
 obtain⟨p,cp,rfl,hs,_⟩:=SlG.of_own (d:=yd) q2r (by decide) h2
 refine⟨p,cp,PL,rfl,h1,hs,h3,fun h0 a ha=>?_⟩
 obtain⟨b,off,hp,_,_⟩:=hs.cell h0
 rw [hp] at ha
 cases ha
 exact h4 b (by rw [hp];rfl)
structure Ad where
 Bv:Nat
 T:Nat
 Bv':Nat
 T':Nat
 pv:Value
abbrev z8q (M:Nat) (A:Ad):Array Value:=#[.int .i64 (M:Nat),.pointer (some ⟨A.Bv,0,none⟩),.pointer (some ⟨A.T,0,none⟩),.pointer (some ⟨A.Bv',0,none⟩),.pointer (some ⟨A.T',0,none⟩),A.pv]
structure Dka (w:World) (col:Nat→Nat) (c B:Nat) (A:Ad) (d:DS):Prop where
 c0:1≤c
 blk:w.heap[B]?=some (.cells (z8q d.M A) 114 (0,0))
 cB:col B=c
 pe:Pe w col (c+1) A.pv d.L
 seen:Pa w col (c+2) A.Bv A.T d.s d.sV d.a d.z d.sT
 sure:Pa w col (c+4) A.Bv' A.T' d.s d.V d.a d.z d.t
 most:d.M≤1048576
def Dk (w:World) (col:Nat→Nat) (c B:Nat) (d:DS):Prop:=∃ A,Dka w col c B A d
def own (col:Nat→Nat) (c:Nat) (k:Nat):Prop:=c≤col k∧col k<c+6
theorem Dka.keep {w w':World} {col:Nat→Nat} {c B:Nat} {A:Ad} {d:DS} {S:Nat→Prop} (h:Dka w col c B A d) (hc:Chg S w w') (hs:∀ k,col k=0∨own col c k→¬ S k):Dka w' col c B A d:=by
 have hB:own col c B:=by have:=h.cB;unfold own;omega
 refine⟨h.c0,(hc.block B (z0g h.blk) (hs B (.inr hB))).trans h.blk,h.cB,h.pe.keep hc fun k hk=>hs k ?_,h.seen.keep hc fun k hk=>hs k (.inr (by unfold own;omega)),h.sure.keep hc fun k hk=>hs k (.inr (by unfold own;omega)),h.most⟩
 rcases hk with hk | hk
 · exact .inl hk
 · exact .inr (by unfold own;omega)
theorem Dka.later {w w':World} {col:Nat→Nat} {c B:Nat} {A:Ad} {d:DS} (h:Dka w col c B A d) (hb:Below w.heap.size w w'):Dka w' col c B A d:=h.keep (Chg.of_below (S:=fun _=>False) hb) fun _ _ h=>h
theorem Dka.recol {w:World} {col col':Nat→Nat} {c B:Nat} {A:Ad} {d:DS} (h:Dka w col c B A d) (he:Ext w col col'):Dka w col' c B A d :=
 ⟨h.c0,h.blk,(he B (z0g h.blk)).trans h.cB,h.pe.recol he,h.seen.recol he,h.sure.recol he,h.most⟩
theorem Dk.keep {w w':World} {col:Nat→Nat} {c B:Nat} {d:DS} {S:Nat→Prop} (h:Dk w col c B d) (hc:Chg S w w') (hs:∀ k,col k=0∨own col c k→¬ S k):Dk w' col c B d:=by
 obtain⟨A,h⟩:=h
 exact⟨A,h.keep hc hs⟩
theorem Dk.later {w w':World} {col:Nat→Nat} {c B:Nat} {d:DS} (h:Dk w col c B d) (hb:Below w.heap.size w w'):Dk w' col c B d:=h.keep (Chg.of_below (S:=fun _=>False) hb) fun _ _ h=>h
theorem Dk.recol {w:World} {col col':Nat→Nat} {c B:Nat} {d:DS} (h:Dk w col c B d) (he:Ext w col col'):Dk w col' c B d:=by
 obtain⟨A,h⟩:=h
 exact⟨A,h.recol he⟩
theorem Dk.z_in {w:World} {col:Nat→Nat} {c B:Nat} {d:DS} (h:Dk w col c B d):64≤d.z∧d.z≤4096:=by
 obtain⟨A,h⟩:=h
 exact h.seen.z_in
theorem Dka.cells {w:World} {col:Nat→Nat} {c B:Nat} {A:Ad} {d:DS} (h:Dka w col c B A d):w.cell? ⟨B,0,none⟩=some (.int .i64 (d.M:Nat))∧w.cell? ⟨B,1,none⟩=some (.pointer (some ⟨A.Bv,0,none⟩))∧w.cell? ⟨B,2,none⟩=some (.pointer (some ⟨A.T,0,none⟩)) ∧
 w.cell? ⟨B,3,none⟩=some (.pointer (some ⟨A.Bv',0,none⟩))∧w.cell? ⟨B,4,none⟩=some (.pointer (some ⟨A.T',0,none⟩))∧w.cell? ⟨B,5,none⟩=some A.pv :=
 ⟨z0a h.blk rfl,z0a h.blk rfl,z0a h.blk rfl,z0a h.blk rfl,z0a h.blk rfl,z0a h.blk rfl⟩
def z5t (w:World) (col:Nat→Nat) (c B:Nat) (d:DS) (w':World):Prop:=∃ col',Ext w col col'∧Dk w' col' c B d∧Chg (own col c) w w'
theorem infoWrite:(Tryz.prog.info? 134).map (fun i=>(i.zero,i.size,i.bytes))=some (some .nilIface,1,16):=by kernel_rfl
theorem flatW_len (L:List Pw):(z1e ew L).length=L.length:=by rw [z5s (k:=1) q2r,Nat.mul_one]
theorem flatW_at (L:List Pw) {j:Nat} (hj:j<L.length):(z1e ew L)[j]?=(ew (L.getD j yd))[0]?:=by
 have:=z8y (k:=1) (d:=yd) q2r L j 0 hj (by omega)
 rwa [Nat.mul_one,Nat.add_zero] at this
theorem SlW_at {w:World} {p:Option Addr} {m c:Nat} {M:List Pw} (h:SlG ew 1 yd w p m c M) {j:Nat} (hj:j<m):∃ b off,p=some ⟨b,off,none⟩∧b<w.heap.size∧w.cell? ⟨b,off+j,none⟩=some (M.getD j yd).val:=by
 obtain⟨b,off,hp,hlt,hc⟩:=h.cell (by omega)
 have:=hc j hj 0 _ rfl
 rw [Nat.mul_one,Nat.add_zero] at this
 exact⟨b,off,hp,hlt,this⟩
theorem run_append_w {w:World} {v:Value} {n:Nat} {L:List Pw} (hr:w.ownsRow 0 134 1 v n (z1e ew L)) {p:Option Addr} {m c:Nat} {M:List Pw} (hM:SlG ew 1 yd w p m c M) (hbig:n+m≤1000000) (ty:TypeId) :
 ∃ p' c' w',(Builtin.append_ #[112,112] ty #[v,.slice p m c]).run Tryz.prog w=.ok (.slice p' (n+m) c') w'∧w'.ownsRow 0 134 1 (.slice p' (n+m) c') (n+m) (z1e ew (L++M))∧Chg (fun k=>v.ownBlock=some k) w w' ∧
  (∀ k,(Value.slice p' (n+m) c').ownBlock=some k→v.ownBlock=some k∨w.heap.size≤k):=by
 obtain⟨i,hi,hz0,hz1,hz2⟩:=info_parts infoWrite
 cases p with
 | none =>
  obtain rfl:=hM.nil rfl
  obtain rfl:m=0:=Nat.le_zero.1 hM.cap
  obtain rfl:M=[]:=List.eq_nil_of_length_eq_zero hM.len
  have hrun:=run_append_owned_none (P:=Tryz.prog) (w:=w) 0 112 ty 134 i 1 Tryz.underlying112 hi v n (z1e ew L) hr
  rcases hr.2 with ⟨rfl,rfl⟩ | ⟨g,cap,cur,rfl,h1,h2,h3⟩
  · exact⟨none,0,w,hrun,by simpa using hr,Chg.refl _ _,fun k hk=>.inl hk⟩
  · exact⟨_,cap,w,hrun,by simpa using hr,Chg.refl _ _,fun k hk=>.inl hk⟩
 | some ad =>
  have hnews:∀ j u,(z1e ew M)[j]?=some u→w.cell? (ad.add j)=some u:=by
   intro j u hu
   have hj:j<m:=by
    rcases Nat.lt_or_ge j m with h | h
    · exact h
    · rw [List.getElem?_eq_none (by rw [flatW_len,hM.len];exact h)] at hu;cases hu
   obtain⟨b,off,hp,_,hc⟩:=SlW_at hM hj
   cases hp
   rw [flatW_at M (by rw [hM.len];exact hj)] at hu
   rw [Go.WideShapes.add_plain,hc]
   exact hu
  obtain⟨v',w',hrun,h1,h2,h3,h4⟩:=run_append_own_at (P:=Tryz.prog) w 0 112 ty 134 i .nilIface 1 16 Tryz.underlying112 hi hz0 hz1 hz2 rfl (by decide) v n (z1e ew L) hr ad m c (z1e ew M) (by rw [flatW_len,hM.len,Nat.mul_one]) hnews (z2m ew_one M) (by unfold maxLen;omega) (by omega) (Nat.zero_le _)
  rw [← z1q] at h1
  have hv:∃ p' c',v'=.slice p' (n+m) c':=by
   rcases h1.2 with ⟨h5,h6⟩ | ⟨g,cap,cur,h5,_⟩
   · exact⟨none,0,by rw [h5,h6]⟩
   · exact⟨_,_,h5⟩
  obtain⟨p',c',rfl⟩:=hv
  refine⟨p',c',w',hrun,h1,Chg.mono (Chg.of_grown h2) (fun k _ h=>h),fun k hk=>?_⟩
  rcases h4 with h4 | h4
  · exact .inl (h4 ▸ hk)
  · rw [h4] at hk
    cases hk
    exact .inr (Nat.le_refl _)
theorem wpList_append_w {w:World} {ops:Array Oper} {rest:List Oper} {o:Oper} {a:Act} {Q:Exit→Act→World→Prop} (hgd:o.guard=none) (s x:Operand)
 (ho:o.op=.call { callee:=.builtin .append,args:=#[s,x],argTypes:=#[112,112] })
 (v:Value) (n:Nat) (L:List Pw) (hs:a.eval s=v) (hr:w.ownsRow 0 134 1 v n (z1e ew L)) (p:Option Addr) (m c:Nat) (M:List Pw) (hx:a.eval x=.slice p m c) (hM:SlG ew 1 yd w p m c M) (hbig:n+m≤1000000)
 (h:∀ p' c' w',w'.ownsRow 0 134 1 (.slice p' (n+m) c') (n+m) (z1e ew (L++M))→Chg (fun k=>v.ownBlock=some k) w w'→(∀ k,(Value.slice p' (n+m) c').ownBlock=some k→v.ownBlock=some k∨w.heap.size≤k)→wpList Tryz.prog ops Q rest (a.put o.dst (.slice p' (n+m) c')) w') :
 wpList Tryz.prog ops Q (o::rest) a w:=by
 refine wpList_plain hgd fun K hK=>?_
 obtain⟨p',c',w',hrun,h1,h2,h3⟩:=run_append_w hr hM hbig o.type
 unfold Oper.wp execOp
 simp only [ho,resolve,invoke,builtin,Sem.run_bind,Sem.run_pure,Result.andThen_ok,List.map_toArray,List.map_cons,List.map_nil,hs,hx,hrun]
 exact hK _ _ (h p' c' w' h1 h2 h3)
theorem disk_kept (x hi:Int) (w:World) (h0:0≤hi):Calls Tryz.prog 54 #[.int .i64 x,.int .i64 hi] w fun e w'=>e=.returned (.int .i64 (kp x hi:Nat))∧w'=w:=by
 have hk:(if hi<(if x<0 then 0 else x) then hi else (if x<0 then 0 else x))=((kp x hi:Nat):Int):=by unfold kp;split <;> split <;> omega
 have hk2:min (max x 0) hi=((kp x hi:Nat):Int):=by unfold kp;omega
 have hk3:min hi (max x 0)=((kp x hi:Nat):Int):=by unfold kp;omega
 generalize kp x hi=y at *
 go_enter Tryz.func54,Tryz.ntmps54
 go_wp2_with fail
 all_goals (go_ret;exact⟨rfl,rfl⟩)
theorem parts_tape (x y:Option Addr) (w:World):(Instr.field 109 (.agg #[.pointer x,.pointer y]) 1).run Tryz.prog w=.ok (.pointer y) w:=by kernel_rfl
theorem look_any {w:World} {col:Nat→Nat} {c B:Nat} {A:Ad} {d:DS} (h:Dka w col c B A d):Calls Tryz.prog 76 #[.pointer (some ⟨B,0,none⟩)] w fun e w'=>e=.returned (.agg #[.pointer (some ⟨A.Bv,0,none⟩),.pointer (some ⟨A.T,0,none⟩)])∧Below w.heap.size w w':=by
 obtain⟨_,c1,c2,_,_,_⟩:=h.cells
 have HA:=hid (z0b w (.cells #[.pointer (some ⟨A.Bv,0,none⟩),.pointer (some ⟨A.T,0,none⟩)] 109))
 have HB:Hid (Below w.heap.size w (w.alloc (.cells #[.pointer (some ⟨A.Bv,0,none⟩),.pointer (some ⟨A.T,0,none⟩)] 109))):=hid ((Below.refl _ _).alloc (Nat.le_refl _) _)
 have hlt:=z0g h.blk
 clear h
 go_enter Tryz.func76,Tryz.ntmps76
 go_wp2_with fail
 refine bodyPost_ret (v:=.agg #[.pointer (some ⟨A.Bv,0,none⟩),.pointer (some ⟨A.T,0,none⟩)]) ?_ rfl ⟨rfl,HB.out⟩
 exact results_cell_row rfl _ _ w.heap.size 109 _ (0,0) _ rfl HA.out Tryz.underlying109 rfl (by kernel_rfl)
section
variable {w:World} {col:Nat→Nat} {c B:Nat} {d:DS}
theorem disk_first (h:Dk w col c B d):Calls Tryz.prog 57 #[.pointer (some ⟨B,0,none⟩)] w fun e w'=>e=.returned (.int .i64 (d.sT.f*d.z:Nat))∧Below w.heap.size w w':=by
 obtain⟨A,h⟩:=h
 have hl:=look_any h
 have HS:=hid h.seen
 obtain⟨x0,hx0⟩:∃ x0,d.sT.f*d.z=x0:=⟨_,rfl⟩
 rw [hx0]
 have HX:=hid hx0
 clear h hx0
 have hpv:=parts_tape
 go_enter Tryz.func57,Tryz.ntmps57
 go_wp2_with fail
 refine hl.mono ?_
 rintro e w1 ⟨rfl,hb⟩
 have HB:=hid hb
 obtain⟨_,_,mb,ht⟩:=HS.out.later hb
 have hc:=tape_first ht
 clear ht
 rw [HX.out] at hc
 clear hl hb
 go_wp2_with fail
 refine hc.mono ?_
 rintro e w2 ⟨rfl,rfl⟩
 go_wp2_with fail
 go_ret
 exact⟨rfl,HB.out⟩
theorem disk_end (h:Dk w col c B d):Calls Tryz.prog 39 #[.pointer (some ⟨B,0,none⟩)] w fun e w'=>e=.returned (.int .i64 (d.sT.f*d.z+d.sT.B.length:Nat))∧Below w.heap.size w w':=by
 obtain⟨A,h⟩:=h
 have hl:=look_any h
 have HS:=hid h.seen
 obtain⟨x0,hx0⟩:∃ x0,d.sT.f*d.z+d.sT.B.length=x0:=⟨_,rfl⟩
 rw [hx0]
 have HX:=hid hx0
 clear h hx0
 have hpv:=parts_tape
 go_enter Tryz.func39,Tryz.ntmps39
 go_wp2_with fail
 refine hl.mono ?_
 rintro e w1 ⟨rfl,hb⟩
 have HB:=hid hb
 obtain⟨_,_,mb,ht⟩:=HS.out.later hb
 have hc:=tape_end ht
 clear ht
 rw [HX.out] at hc
 clear hl hb
 go_wp2_with fail
 refine hc.mono ?_
 rintro e w2 ⟨rfl,rfl⟩
 go_wp2_with fail
 go_ret
 exact⟨rfl,HB.out⟩
end
def q2c (w:World) (col:Nat→Nat) (c Bv T s:Nat) (V:List (List Int)) (a:Int) (z:Nat) (t:TS) (e:Ending) (w':World):Prop :=
 e=.returned (.tuple #[])∧(∃ col',Ext w col col'∧Pa w' col' c Bv T s V a z t)∧Chg (fun k=>col k=c∨col k=c+1) w w'
abbrev q2n (Bv T:Nat):Array Value:=#[.pointer (some ⟨Bv,0,none⟩),.pointer (some ⟨T,0,none⟩)]
theorem z9c (w:World) (x y:Array Value) (S T:TypeId):((w.alloc (.cells x S)).alloc (.cells y T)).heap[w.heap.size]?=some (.cells x S (0,0))∧((w.alloc (.cells x S)).alloc (.cells y T)).heap[w.heap.size+1]?=some (.cells y T (0,0)) ∧
 Below w.heap.size w ((w.alloc (.cells x S)).alloc (.cells y T)):=by
 have hs:(w.alloc (.cells x S)).heap.size=w.heap.size+1:=by simp
 have h2:=z0b (w.alloc (.cells x S)) (.cells y T)
 rw [hs] at h2
 exact⟨z0c (z0b w _) ((Below.refl _ _).alloc (Nat.le_refl _) _),h2,((Below.refl _ _).alloc (Nat.le_refl _) _).alloc (by omega) _⟩
theorem Chg.undrew1 {S:Nat→Prop} {a w:World} (h:Chg S a.drew w):Chg S a w:=⟨h.os,h.tape,h.output,h.size,h.block⟩
section
variable {w:World} {col:Nat→Nat} {c Bv T s z:Nat} {V:List (List Int)} {a:Int} {t:TS}
theorem Pa.tape {w1 w2:World} {mb':Option Nat} {t':TS} (h:Pa w col c Bv T s V a z t) (hb:Below w.heap.size w w1) (ht:Tp w2 T mb' (fun k=>col k=c+1∨w1.heap.size≤k) a z t') (hc:Chg (fun k=>col k=c+1) w1 w2):(∃ col',Ext w col col'∧Pa w2 col' c Bv T s V a z t')∧Chg (fun k=>col k=c∨col k=c+1) w w2:=by
 refine⟨⟨paint col w.heap.size (c+1),Ext.paint w col (c+1),?_⟩,(Chg.of_below hb).trans hc fun k _ e=>.inr e⟩
 have h1:=h.recol (Ext.paint w col (c+1))
 have h2:=h1.vo
 obtain⟨G,hv,hG⟩:=h2
 have hBlt:=z0g hv.blk
 have hGlt:=z0g hv.row
 have hs:=hb.size
 rw [z2g hGlt] at hG
 have hcv:=h1.cv
 rw [z2g hBlt] at hcv
 refine⟨⟨G,(hv.later hb).keep hc (by omega) (by omega),by rw [z2g hGlt];exact hG⟩,by rw [z2g hBlt];exact hcv,mb',ht.mono fun k hk hl=>?_⟩
 rcases hk with hk | hk
 · by_cases h3:k<w.heap.size
   · rw [z2g h3];exact hk
   · rw [z3d (by omega)]
 · rw [z3d (by omega)]
theorem dgrow_whole (h:Pa w col c Bv T s V a z t) (p:Option Addr) (m cp:Nat) (b:List Int) (hb:BL w p m cp b) (h0:0<m→∀ a,p=some a→col a.block=0) (hbig:t.len z+m≤1000000) :
 Calls Tryz.prog 219 #[.agg #[.slice p m cp],.agg #[.pointer (some ⟨Bv,0,none⟩),.pointer (some ⟨T,0,none⟩)]] w (q2c w col c Bv T s V a z (appT t b)):=by
 obtain⟨g0,g1,hbw⟩:=z9c w #[.slice p m cp] (q2n Bv T) 130 109
 obtain⟨mb,ht⟩:=h.tp
 have hadd:=tape_add (ht.later hbw) p m cp b (SlG.later hb hbw) (fun hm a ha e=>by have:=h0 hm a ha;rw [this] at e;omega) hbig
 have H:=hid h
 have HB:=hid hbw
 clear g0 g1 hb h0 hbw h ht
 go_enter Tryz.func219,Tryz.ntmps219
 go_wp2_with fail
 refine hadd.mono ?_
 rintro e w2 ⟨rfl,⟨mb',ht2⟩,hc2⟩
 have HX:=hid (H.out.tape HB.out ht2 hc2)
 clear ht2 hc2 hadd
 go_wp2_with fail
 go_end0
 exact⟨rfl,HX.out.1,HX.out.2⟩
theorem ddrop_whole (h:Pa w col c Bv T s V a z t) (x:Int) (hbig:t.len z≤1000000) :
 Calls Tryz.prog 221 #[.agg #[.int .i64 x],.agg #[.pointer (some ⟨Bv,0,none⟩),.pointer (some ⟨T,0,none⟩)]] w (q2c w col c Bv T s V a z (q0t z t x)):=by
 obtain⟨g0,g1,hbw⟩:=z9c w #[.int .i64 x] (q2n Bv T) 132 109
 obtain⟨mb,ht⟩:=h.tp
 have hdo:=tape_drop (ht.later hbw) x hbig
 have H:=hid h
 have HB:=hid hbw
 clear g0 g1 hbw h ht
 go_enter Tryz.func221,Tryz.ntmps221
 go_wp2_with fail
 refine hdo.mono ?_
 rintro e w2 ⟨rfl,ht2,hc2⟩
 have HX:=hid (H.out.tape HB.out (ht2.mono fun k hk _=>.inl hk) hc2)
 clear ht2 hc2 hdo
 go_wp2_with fail
 go_end0
 exact⟨rfl,HX.out.1,HX.out.2⟩
theorem dcut_whole (h:Pa w col c Bv T s V a z t) (x:Int) (hbig:t.len z≤1000000) :
 Calls Tryz.prog 223 #[.agg #[.int .i64 x],.agg #[.pointer (some ⟨Bv,0,none⟩),.pointer (some ⟨T,0,none⟩)]] w (q2c w col c Bv T s V a z (cutT z t x)):=by
 obtain⟨g0,g1,hbw⟩:=z9c w #[.int .i64 x] (q2n Bv T) 175 109
 obtain⟨mb,ht⟩:=h.tp
 have hdo:=tape_cut (ht.later hbw) x hbig
 have H:=hid h
 have HB:=hid hbw
 clear g0 g1 hbw h ht
 go_enter Tryz.func223,Tryz.ntmps223
 go_wp2_with fail
 refine hdo.mono ?_
 rintro e w2 ⟨rfl,ht2,hc2⟩
 have HX:=hid (H.out.tape HB.out (ht2.mono fun k hk _=>.inl hk) hc2)
 clear ht2 hc2 hdo
 go_wp2_with fail
 go_end0
 exact⟨rfl,HX.out.1,HX.out.2⟩
def wty:Dw→TypeId
 | .put _ _=>175
 | .grow _=>130
 | .drop _=>132
 | .cut _=>175
def wval:Pw→Value
 | ⟨.put i b,p,c⟩=>.agg #[.int .i64 i]
 | ⟨.grow b,p,c⟩=>.agg #[.slice p b.length c]
 | ⟨.drop x,_,_⟩=>.agg #[.int .i64 x]
 | ⟨.cut x,_,_⟩=>.agg #[.int .i64 x]
theorem Pw.val_eq (y:Pw):y.val=.iface (wty y.x) (wval y):=by
 obtain⟨x,p,c⟩:=y
 cases x <;> rfl
def q1b:Dw→FuncId
 | .put _ _=>223
 | .grow _=>219
 | .drop _=>221
 | .cut _=>223
theorem whole_meth (y : Pw) (n : Nat) (w : World) : (method (n + 1) (wty y.x) (wval y) "pledge/disk.whole").run Tryz.prog w = .ok (q1b y.x, wval y) w := by
 obtain⟨x,p,c⟩:=y
 cases x <;> kernel_rfl
theorem whole_ahead (y : Pw) (n : Nat) (w : World) : (nilAhead (n + 1) (wty y.x) (wval y) "pledge/disk.whole").run Tryz.prog w = .ok (some false) w := by
 obtain⟨x,p,c⟩:=y
 cases x <;> kernel_rfl
theorem whole_enter (x:Dw) (args:Array Value) (w:World):(callFunc (q1b x) args).run Tryz.prog w=.ok (.enter (q1b x) args) w:=by
 cases x <;> kernel_rfl
theorem whole_any (h:Pa w col c Bv T s V a z t) (hc:1≤c) (y:Pw) (hy:y.ok w col) (hbig:t.len z+y.x.wt≤1000000) :
 Calls Tryz.prog (q1b y.x) #[wval y,.agg #[.pointer (some ⟨Bv,0,none⟩),.pointer (some ⟨T,0,none⟩)]] w (q2c w col c Bv T s (dwV s V y.x) a z (dwT z t y.x)):=by
 obtain⟨x,p,cp⟩:=y
 cases x with
 | put i b=>exact hy.np.elim
 | grow b=>exact dgrow_whole h p _ cp b hy.bl hy.c0 hbig
 | drop x=>exact ddrop_whole h x (by simp only [Dw.wt] at hbig;omega)
 | cut x=>exact dcut_whole h x (by simp only [Dw.wt] at hbig;omega)
end
structure Dkh (w:World) (col:Nat→Nat) (c B:Nat) (A:Ad) (d:DS) (V:List (List Int)) (t:TS):Prop where
 c0:1≤c
 blk:w.heap[B]?=some (.cells (z8q d.M A) 114 (0,0))
 cB:col B=c
 pe:Pe w col (c+1) A.pv d.L
 seen:Pa w col (c+2) A.Bv A.T d.s V d.a d.z t
 sure:Pa w col (c+4) A.Bv' A.T' d.s d.V d.a d.z d.t
 most:d.M≤1048576
theorem Dka.half {w:World} {col:Nat→Nat} {c B:Nat} {A:Ad} {d:DS} (h:Dka w col c B A d):Dkh w col c B A d d.sV d.sT:=⟨h.c0,h.blk,h.cB,h.pe,h.seen,h.sure,h.most⟩
theorem Dkh.whole {w:World} {col:Nat→Nat} {c B:Nat} {A:Ad} {d:DS} (h:Dkh w col c B A d d.sV d.sT):Dka w col c B A d:=⟨h.c0,h.blk,h.cB,h.pe,h.seen,h.sure,h.most⟩
section
variable {w w':World} {col col':Nat→Nat} {c B:Nat} {A:Ad} {d:DS} {V V':List (List Int)} {t t':TS}
theorem Dkh.keep {S:Nat→Prop} (h:Dkh w col c B A d V t) (hc:Chg S w w') (hs:∀ k,col k=0∨own col c k→¬ S k):Dkh w' col c B A d V t:=by
 have hB:own col c B:=by have:=h.cB;unfold own;omega
 refine⟨h.c0,(hc.block B (z0g h.blk) (hs B (.inr hB))).trans h.blk,h.cB,h.pe.keep hc fun k hk=>hs k ?_,h.seen.keep hc fun k hk=>hs k (.inr (by unfold own;omega)),h.sure.keep hc fun k hk=>hs k (.inr (by unfold own;omega)),h.most⟩
 rcases hk with hk | hk
 · exact .inl hk
 · exact .inr (by unfold own;omega)
theorem Dkh.later (h:Dkh w col c B A d V t) (hb:Below w.heap.size w w'):Dkh w' col c B A d V t:=h.keep (Chg.of_below (S:=fun _=>False) hb) fun _ _ h=>h
theorem Dkh.recol (h:Dkh w col c B A d V t) (he:Ext w col col'):Dkh w col' c B A d V t:=⟨h.c0,h.blk,(he B (z0g h.blk)).trans h.cB,h.pe.recol he,h.seen.recol he,h.sure.recol he,h.most⟩
theorem own_of {k:Nat} (h:col k=c+2∨col k=c+2+1):own col c k:=by unfold own;omega
theorem Dkh.set_seen (h:Dkh w col c B A d V t) (hw:(∃ col',Ext w col col'∧Pa w' col' (c+2) A.Bv A.T d.s V' d.a d.z t')∧Chg (fun k=>col k=c+2∨col k=c+2+1) w w'):(∃ col',Ext w col col'∧Dkh w' col' c B A d V' t')∧Chg (own col c) w w':=by
 obtain⟨⟨col',he,hp⟩,hc⟩:=hw
 have h0:=h.c0
 have g:=h.recol he
 have hc':Chg (fun k=>col' k=c+2∨col' k=c+2+1) w w':=hc.mono fun k hk h=>by rw [he k hk];exact h
 refine⟨⟨col',he,g.c0,(hc'.block B (z0g g.blk) (by have:=g.cB;omega)).trans g.blk,g.cB,g.pe.keep hc' fun k hk=>by omega,hp,g.sure.keep hc' fun k hk=>by omega,g.most⟩,hc.mono fun k _ h=>own_of h⟩
end
theorem clone_b (p:Option Addr) (n c:Nat) (L:List Int) (w:World) (hL:BL w p n c L) (hn:n≤1000000) :
 Calls Tryz.prog 70 #[.slice p n c] w fun e w'=>∃ p' c',e=.returned (.slice p' n c')∧BL w' p' n c' L∧(0<n→∀ a,p'=some a→w.heap.size≤a.block)∧Below w.heap.size w w':=by
 by_cases h0:0<n
 · refine (clone_bytes p n c L w hL h0 hn).mono ?_
   rintro e w' ⟨g,c',rfl,hr,hg,hb⟩
   exact⟨_,_,rfl,hr.bl,fun _ a ha=>by cases ha;exact hg,hb⟩
 · obtain rfl:n=0:=by omega
   obtain rfl:L=[]:=List.eq_nil_of_length_eq_zero hL.len
   have hq:=fun w=>sl_nil p 0 c w
   cases p with
   | none =>
    go_enter Tryz.func70,Tryz.ntmps70
    go_wp2_with fail
    go_ret
    exact⟨_,_,rfl,SlG.empty _,fun h=>by omega,Below.refl _ _⟩
   | some ad =>
    have hb1:Below w.heap.size w (w.alloc (.cells #[] 5)):=(Below.refl _ _).alloc (Nat.le_refl _) _
    have HB1:=hid hb1
    have HR1:Hid (RowB (w.alloc (.cells #[] 5)) (.slice (some ⟨w.heap.size,0,none⟩) 0 0) 0 []):=hid (RowB.fresh (z0b w _) rfl (Nat.zero_le _))
    have HL1:=hid (SlG.later hL hb1)
    clear hL hb1
    go_enter Tryz.func70,Tryz.ntmps70
    go_wp2_with (first | (at_builtin;refine z4g rfl _ _ rfl _ _ _ rfl HR1.out _ 0 c [] rfl HL1.out (by omega) ?_;intro p' c' w3 hr3 hc3 hl3 hn3) | fail)
    go_ret
    have HBL:=hc3.below HB1.out HB1.out.size fun k hk=>by cases hk;exact Nat.le_refl _
    first | exact⟨_,_,rfl,hr3.bl,(fun h=>by omega),HBL⟩ | exact⟨_,_,rfl,hr3.bl,HBL⟩
/-- One more write waits. -/
theorem q0f {w:World} {col:Nat→Nat} {c B:Nat} {A:Ad} {d:DS} {V:List (List Int)} {t:TS} (h:Dkh w col c B A d V t) (y:Pw) (hy:y.ok w col) (T:TypeId) (v:Value) (hu:y.val=.iface T v) (hL:d.L.length<1000000) :
 Calls Tryz.prog 69 #[.pointer (some ⟨B,0,none⟩),.iface T v] w fun e w'=>e=.returned (.tuple #[])∧(∃ A' col',Ext w col col'∧Dkh w' col' c B A' (d.add y.x) V t)∧Chg (own col c) w w':=by
 obtain⟨Bv,T1,Bv',T',pv⟩:=A
 obtain⟨p,cp,PL,hp,hPL,hsl,hok,_⟩:=h.pe.sl
 simp only at hp
 subst hp
 have hlen:PL.length=d.L.length:=by rw [← hPL,List.length_map]
 obtain⟨⟨PL2,q1,q2,q3⟩,q4⟩:=h.pe
 have hl2:PL2.length=d.L.length:=by rw [← q1,List.length_map]
 rw [hl2] at q2
 have hb1:Below w.heap.size w (w.alloc (.cells #[.iface T v] 134)):=(Below.refl _ _).alloc (Nat.le_refl _) _
 have hrow:(w.alloc (.cells #[.iface T v] 134)).ownsRow 0 134 1 (.slice p d.L.length cp) d.L.length (z1e ew PL2):=q0m q2 (Chg.of_below (S:=fun _=>False) hb1) fun _ _ h=>h
 have hone:SlG ew 1 yd (w.alloc (.cells #[.iface T v] 134)) (some ⟨w.heap.size,0,none⟩) 1 1 [y]:=by
  refine⟨rfl,Nat.le_refl _,by unfold maxLen;omega,(fun e=>by cases e),fun _=>⟨w.heap.size,0,rfl,by simp,fun j hj i u hu'=>?_⟩⟩
  obtain rfl:j=0:=by omega
  match i,hu' with
  | 0,hu' =>
   simp only [List.getD_cons_zero,ew,List.getElem?_cons_zero,Option.some.injEq] at hu'
   subst hu'
   rw [hu]
   exact z0a (z0b w _) rfl
 have HROW:=hid hrow
 have HONE:=hid hone
 have HB1:=hid hb1
 have c5:w.cell? ⟨B,5,none⟩=some (.slice p d.L.length cp):=z0a h.blk rfl
 have hBlt:=z0g h.blk
 have HH:=hid h
 have hne:∀ k,(Value.slice p d.L.length cp).ownBlock=some k→¬ k=B:=fun k hk e=>by
  have h1:=q4 k hk
  have h2:=h.cB
  subst e
  omega
 have HNE:=hid hne
 have HQ4:=hid q4
 have HC3:Hid (∀ w3,Chg (fun k=>(Value.slice p d.L.length cp).ownBlock=some k) (w.alloc (.cells #[.iface T v] 134)) w3→w3.cell? ⟨B,5,none⟩=some (.slice p d.L.length cp)∧w3.frozen? ⟨B,5,none⟩=false):=hid fun w3 g2=>by
  have h3:w3.heap[B]?=some (.cells (z8q d.M ⟨Bv,T1,Bv',T',.slice p d.L.length cp⟩) 114 (0,0)):=(((Chg.of_below hb1).trans (g2.mono (T:=fun k=>col k=c+1) fun k _ hk=>q4 k hk) fun k _ h=>h).block B hBlt (by have:=h.cB;omega)).trans h.blk
  exact⟨z0a h3 rfl,z0t 5 h3⟩
 have HFIN:Hid (∀ w3 w4 p' c',w3.ownsRow 0 134 1 (.slice p' (d.L.length+1) c') (d.L.length+1) (z1e ew (PL2 ++ [y]))→Chg (fun k=>(Value.slice p d.L.length cp).ownBlock=some k) (w.alloc (.cells #[.iface T v] 134)) w3 →
  (∀ k,(Value.slice p' (d.L.length+1) c').ownBlock=some k→(Value.slice p d.L.length cp).ownBlock=some k∨(w.alloc (.cells #[.iface T v] 134)).heap.size≤k)→w4=w3.setCell ⟨B,5,none⟩ (.slice p' (d.L.length+1) c') →
  (∃ A' col',Ext w col col'∧Dkh w4 col' c B A' (d.add y.x) V t)∧Chg (own col c) w w4):=hid fun w3 w4 p' c' g1 g2 g3 g4=>by
  have hc3:Chg (fun k=>col k=c+1) w w3:=(Chg.of_below hb1).trans (g2.mono (T:=fun k=>col k=c+1) fun k _ hk=>q4 k hk) fun k _ h=>h
  have hc4:Chg (fun k=>k=B) w3 w4:=by rw [g4];exact (Chg.refl _ _).setCell _ _ fun _=>rfl
  have hc:Chg (fun k=>col k=c∨col k=c+1) w w4:=(hc3.mono (T:=fun k=>col k=c∨col k=c+1) fun k _ h=>.inr h).trans hc4 fun k _ e=>by subst e;exact .inl h.cB
  have hE:=Ext.paint w col (c+1)
  have h3:w3.heap[B]?=some (.cells (z8q d.M ⟨Bv,T1,Bv',T',.slice p d.L.length cp⟩) 114 (0,0)):=(hc3.block B hBlt (by have:=h.cB;omega)).trans h.blk
  have g:=h.recol hE
  have hcp:Chg (fun k=>paint col w.heap.size (c+1) k=c∨paint col w.heap.size (c+1) k=c+1) w w4:=hc.mono fun k hk h=>by rw [z2g hk];exact h
  have h0:=h.c0
  refine⟨⟨⟨Bv,T1,Bv',T',.slice p' (d.L.length+1) c'⟩,paint col w.heap.size (c+1),hE,h0,?_,g.cB,⟨⟨PL2 ++ [y],?_,?_,?_⟩,fun k hk=>?_⟩,g.seen.keep hcp fun k hk=>by omega,g.sure.keep hcp fun k hk=>by omega,h.most⟩,hc.mono fun k _ h=>by unfold own;omega⟩
  · rw [g4]
    exact z0u 5 _ h3
  · rw [List.map_append,q1]
    rfl
  · rw [List.length_append,hl2,List.length_singleton]
    refine q0m g1 hc4 fun k hk e=>?_
    rcases g3 k hk with h5 | h5
    · exact hne k h5 e
    · have:=hb1.size
      omega
  · intro z hz
    rcases List.mem_append.1 hz with hz | hz
    · exact ((q3 z hz).recol hE).keep hcp fun k hk=>by omega
    · rw [List.mem_singleton] at hz
      subst hz
      exact (hy.recol hE).keep hcp fun k hk=>by omega
  · rcases g3 k hk with h5 | h5
    · have hlt:=(q2.lt k h5).2
      rw [z2g hlt]
      exact q4 k h5
    · have:=hb1.size
      exact z3d (by omega)
 clear hrow hone hb1 q1 q2 q3 q4 hok hsl hPL hne h hlen hl2 hu hy
 generalize hn:d.L.length=n0 at *
 go_enter Tryz.func69,Tryz.ntmps69
 go_wp2_with (first | (at_builtin;refine wpList_append_w rfl _ _ rfl _ n0 PL2 rfl HROW.out _ 1 1 [y] rfl HONE.out (by omega) ?_;intro p' c' w3 hr3 hc3 hl3;obtain⟨x5,g5⟩:=HC3.out w3 hc3) | fail)
 have HX:=hid (HFIN.out w3 _ p' c' hr3 hc3 hl3 rfl)
 clear hr3 hc3 hl3
 go_end0
 exact⟨rfl,HX.out.1,HX.out.2⟩
section
variable {w:World} {col:Nat→Nat} {c B:Nat} {d:DS}
theorem cloned_ok {w2 w3:World} {A:Ad} {V:List (List Int)} {t:TS} {p':Option Addr} {cp':Nat} {b:List Int} {x:Dw} (hx:x.bytes=b) (hnp:x.np) (h:Dkh w2 col c B A d V t) (hb:BL w3 p' b.length cp' b) (hn:0<b.length→∀ a,p'=some a→w2.heap.size≤a.block) (hw:Below w2.heap.size w2 w3) :
 Ext w2 col (paint col w2.heap.size 0)∧Dkh w3 (paint col w2.heap.size 0) c B A d V t∧Pw.ok w3 (paint col w2.heap.size 0) ⟨x,p',cp'⟩:=by
 subst hx
 exact⟨Ext.paint _ _ _,(h.recol (Ext.paint _ _ _)).later hw,hb,fun h0 a ha=>z3d (hn h0 a ha),hnp⟩
theorem disk_append (h:Dk w col c B d) (hbig:d.tot+65536≤1000000) (hL:d.L.length<1000000) (p:Option Addr) (m cp:Nat) (b:List Int) (hb:BL w p m cp b) (h0:0<m→∀ a,p=some a→¬ own col c a.block) :
 Calls Tryz.prog 25 #[.pointer (some ⟨B,0,none⟩),.slice p m cp] w fun e w'=>e=.returned (.int .i64 (d.addE b))∧z5t w col c B (d.app b) w':=by
 obtain rfl:=hb.len
 by_cases hm:65536<b.length
 · have e1:d.addE b=7:=if_pos hm
   have e2:d.app b=d:=if_neg (by rw [e1];omega)
   rw [e1,e2]
   have hm':(65536:Int)<(b.length:Int):=by omega
   have HX:Hid (z5t w col c B d w):=hid ⟨col,Ext.refl _ _,h,Chg.refl _ _⟩
   clear h hb h0
   generalize b.length=n at *
   go_enter Tryz.func25,Tryz.ntmps25
   go_wp2_with fail
   go_ret
   exact⟨rfl,HX.out⟩
 · have hz:=h.z_in
   have hsT:=d.sT_len (by omega)
   have hf:=fun w' (hb':Below w.heap.size w w')=>disk_first (h.later hb')
   have he:=fun w' (hb':Below w.heap.size w w')=>disk_end (h.later hb')
   obtain⟨A,h⟩:=h
   have H:=hid h
   have HB:=hid hb
   have HN:=hid h0
   have HM:Hid (∀ p:After w,p.w.cell? ⟨B,0,none⟩=some (.int .i64 (d.M:Nat))):=hid fun p=>z3l p (z0a h.blk rfl)
   have hMM:=h.most
   have HE1:Hid ((d.M:Int)<(d.sT.B.length:Int)+b.length→d.addE b=4∧d.app b=d):=hid fun h=>by
    have e1:d.addE b=4:=by unfold DS.addE;rw [if_neg hm,if_pos h]
    exact⟨e1,if_neg (by rw [e1];omega)⟩
   have HE2:Hid (¬ (d.M:Int)<(d.sT.B.length:Int)+b.length→d.addE b=0∧d.app b=d.add (.grow b)):=hid fun h=>by
    have e1:d.addE b=0:=by unfold DS.addE;rw [if_neg hm,if_neg h]
    exact⟨e1,if_pos e1⟩
   have HF:Hid (∀ p:After w,Calls Tryz.prog 57 #[.pointer (some ⟨B,0,none⟩)] p.w fun e w'=>e=.returned (.int .i64 (d.sT.f*d.z:Nat))∧Below p.w.heap.size p.w w'):=hid fun p=>hf p.w p.h
   have HE:Hid (∀ p:After w,Calls Tryz.prog 39 #[.pointer (some ⟨B,0,none⟩)] p.w fun e w'=>e=.returned (.int .i64 (d.sT.f*d.z+d.sT.B.length:Nat))∧Below p.w.heap.size p.w w'):=hid fun p=>he p.w p.h
   have hlen:d.sT.f*d.z+d.sT.B.length≤1000000:=by have:d.sT.len d.z=d.sT.f*d.z+d.sT.B.length:=rfl;omega
   have hbig2:d.sT.len d.z+b.length≤1000000:=by omega
   have HBIG:=hid hbig2
   have hm':¬ (65536:Int)<(b.length:Int):=by omega
   clear h hb h0 hf he hz hbig hbig2
   generalize hD:d.app b=D at *
   generalize hE0:d.addE b=e0 at *
   obtain⟨E,hEE⟩:∃ E,d.sT.f*d.z+d.sT.B.length=E:=⟨_,rfl⟩
   rw [hEE] at HE hlen
   generalize hF:d.sT.f*d.z=F at *
   generalize hT:d.sT.B.length=n0 at *
   generalize hn:b.length=n at *
   have x1:(E:Int)-(F:Int)=(n0:Int):=by omega
   have x2:IntKind.i64.wrap (n0:Int)=(n0:Int):=IntWalk.i64_in _ (by omega)
   have x5:IntKind.i64.wrap ((n0:Int)+(n:Int))=(n0:Int)+(n:Int):=IntWalk.i64_in _ (by omega)
   have HM2:∀ p:After w,p.w.cell? ⟨B,0,none⟩=some (.int .i64 (d.M:Nat)):=HM.out
   have HMM:Hid (d.M=d.M):=hid rfl
   have HEE:=hid hEE
   have HFF:=hid hF
   have HTT:=hid hT
   have HNN:=hid hn
   have HDD:=hid hD
   have HEZ:=hid hE0
   clear hEE hF hT hn hD hE0
   by_cases hc:(d.M:Int)<(n0:Int)+(n:Int)
   · obtain⟨q1,q2⟩:=HE1.out hc
     subst q1
     have HX:Hid (∀ w',Below w.heap.size w w'→z5t w col c B D w'):=hid fun w' hb'=>by
      rw [q2]
      exact⟨col,Ext.refl _ _,⟨A,H.out.later hb'⟩,Chg.of_below hb'⟩
     clear HE1 HE2 q2
     generalize d.M=M at *
     go_enter Tryz.func25,Tryz.ntmps25
     go_wp2_with fail
     refine z1t (by kernel_rfl) (by kernel_rfl) ?_
     repeat (go_big_quiet_step (first | (go_at_call 57;exact z2j _ (HF.out _)) | (go_at_call 39;exact z2j _ (HE.out _))))
     refine wpQuiet_nil ?_
     intro w3 hw
     obtain⟨⟨wq,h6⟩,hw2⟩:=hw
     subst hw2
     have HX3:=hid (HX.out _ h6)
     clear h6
     go_wp2_with fail
     go_ret
     exact⟨rfl,HX3.out⟩
   · obtain⟨q1,q2⟩:=HE2.out hc
     subst q1
     have HD:=hid q2
     clear HE1 HE2 q2
     have HMG:Hid (∃ M,M=d.M):=hid ⟨_,rfl⟩
     generalize hM:d.M=M at *
     have HMQ:=hid hM
     clear hM
     go_enter Tryz.func25,Tryz.ntmps25
     go_wp2_with fail
     refine z1t (by kernel_rfl) (by kernel_rfl) ?_
     repeat (go_big_quiet_step (first | (go_at_call 57;exact z2j _ (HF.out _)) | (go_at_call 39;exact z2j _ (HE.out _))))
     refine wpQuiet_nil ?_
     intro w3 hw
     obtain⟨⟨wq,h6⟩,hw2⟩:=hw
     subst hw2
     have HB6:=hid h6
     have h1:=H.out.later h6
     have a2:w3.cell? ⟨B,2,none⟩=some (.pointer (some ⟨A.T,0,none⟩)):=z0a h1.blk rfl
     obtain⟨mb,ht⟩:=h1.seen.tp
     have hadd:=tape_add ht p n cp b (SlG.later HB.out h6) (fun hm a ha e=>HN.out hm a ha (by unfold own;rw [show col a.block=c+2+1 from e];omega)) (by have:d.sT.f*d.z+d.sT.B.length=d.sT.len d.z:=rfl;have:=HBIG.out;omega)
     have H1:=hid h1
     clear h6 h1 ht
     go_wp2_with fail
     refine hadd.mono ?_
     rintro e w2 ⟨rfl,⟨mb',ht2⟩,hc2⟩
     have HS:=hid (H1.out.half.set_seen (H1.out.seen.tape (Below.refl _ _) ht2 hc2))
     have HB2:Hid (BL w2 p n cp b):=hid (BL.keep (SlG.later HB.out HB6.out) hc2 fun hm a ha e=>HN.out hm a ha (by unfold own;rw [show col a.block=c+2+1 from e];omega))
     clear ht2 hc2 hadd
     have hcl:=clone_b p n cp b w2 HB2.out (by omega)
     go_wp2_with fail
     refine hcl.mono ?_
     rintro e w4 ⟨p',c',rfl,hbl3,hn3,hb3⟩
     obtain⟨⟨col2,he2,hd2⟩,hc2⟩:=HS.out
     have hnn:=HNN.out
     subst hnn
     obtain⟨he3,hd3,hok3⟩:=cloned_ok (x:=.grow b) rfl trivial hd2 hbl3 hn3 hb3
     have hwt:=q0f hd3 ⟨.grow b,p',c'⟩ hok3 _ _ rfl hL
     have HC2:=hid hc2
     have HE2:=hid he2
     have HE3:=hid he3
     have HB3:=hid hb3
     clear hbl3 hn3 hb3 he2 hd2 hc2 he3 hd3 hok3 hcl HS H1 HB2
     go_wp2_with fail
     refine hwt.mono ?_
     rintro e w5 ⟨rfl,⟨A',col4,he4,hd4⟩,hc4⟩
     have HX:Hid (z5t w col c B D w5):=hid (by
      have hs6:=HB6.out.size
      have hs2:=HC2.out.size
      have hs3:=HB3.out.size
      have e02:Ext w col col2:=(Ext.refl w col).trans HE2.out hs6
      have e23:=e02.trans HE3.out (Nat.le_trans hs6 hs2)
      refine⟨col4,e23.trans he4 (Nat.le_trans hs6 (Nat.le_trans hs2 hs3)),?_,?_⟩
      · rw [HD.out]
        have e1:d.sV=(d.add (.grow b)).sV:=(q2s d (.grow b)).symm
        have e2:appT d.sT b=(d.add (.grow b)).sT:=(q2b d (.grow b)).symm
        refine⟨A',Dkh.whole ?_⟩
        rw [← e1,← e2]
        exact hd4
      · refine (((Chg.of_below HB6.out).trans HC2.out fun k _ h=>h).trans (T:=fun _=>False) (Chg.of_below HB3.out) fun k _ h=>h.elim).trans hc4 fun k hk h=>?_
        unfold own at *
        rwa [e23 k hk] at h)
     clear he4 hd4 hc4 hwt
     go_wp2_with fail
     go_ret
     exact⟨rfl,HX.out⟩
theorem disk_drop (h:Dk w col c B d) (hbig:d.tot≤1000000) (hL:d.L.length<1000000) (x:Int) :
 Calls Tryz.prog 26 #[.pointer (some ⟨B,0,none⟩),.int .i64 x] w fun e w'=>e=.returned (.tuple #[])∧z5t w col c B (d.add (.drop x)) w':=by
 have hz:=h.z_in
 have hsT:=d.sT_len (by omega)
 obtain⟨A,h⟩:=h
 have a2:w.cell? ⟨B,2,none⟩=some (.pointer (some ⟨A.T,0,none⟩)):=z0a h.blk rfl
 obtain⟨mb,ht⟩:=h.seen.tp
 have hdo:=tape_drop ht x (by have:d.sT.f*d.z+d.sT.B.length=d.sT.len d.z:=rfl;omega)
 have H:=hid h
 clear h ht
 go_enter Tryz.func26,Tryz.ntmps26
 go_wp2_with fail
 refine hdo.mono ?_
 rintro e w2 ⟨rfl,ht2,hc2⟩
 have HS:=hid (H.out.half.set_seen (H.out.seen.tape (Below.refl _ _) (ht2.mono fun k hk _=>.inl hk) hc2))
 obtain⟨⟨col2,he2,hd2⟩,hc2'⟩:=HS.out
 have hwt:=q0f hd2 ⟨.drop x,none,0⟩ ⟨SlG.empty _,fun h=>absurd h (by simp [Dw.bytes]),trivial⟩ _ _ rfl hL
 have HC2:=hid hc2'
 have HE2:=hid he2
 clear ht2 hc2 hdo he2 hd2 hc2' HS
 go_wp2_with fail
 refine hwt.mono ?_
 rintro e w5 ⟨rfl,⟨A',col4,he4,hd4⟩,hc4⟩
 have HX:Hid (z5t w col c B (d.add (.drop x)) w5):=hid (by
  have hs2:=HC2.out.size
  refine⟨col4,HE2.out.trans he4 hs2,?_,?_⟩
  · have e1:d.sV=(d.add (.drop x)).sV:=(q2s d (.drop x)).symm
    have e2:q0t d.z d.sT x=(d.add (.drop x)).sT:=(q2b d (.drop x)).symm
    refine⟨A',Dkh.whole ?_⟩
    rw [← e1,← e2]
    exact hd4
  · refine HC2.out.trans hc4 fun k hk h=>?_
    unfold own at *
    rwa [HE2.out k hk] at h)
 clear he4 hd4 hc4 hwt
 go_wp2_with fail
 go_end0
 exact⟨rfl,HX.out⟩
theorem disk_cut (h:Dk w col c B d) (hbig:d.tot≤1000000) (hL:d.L.length<1000000) (x:Int) :
 Calls Tryz.prog 58 #[.pointer (some ⟨B,0,none⟩),.int .i64 x] w fun e w'=>e=.returned (.tuple #[])∧z5t w col c B (d.add (.cut x)) w':=by
 have hz:=h.z_in
 have hsT:=d.sT_len (by omega)
 obtain⟨A,h⟩:=h
 have a2:w.cell? ⟨B,2,none⟩=some (.pointer (some ⟨A.T,0,none⟩)):=z0a h.blk rfl
 obtain⟨mb,ht⟩:=h.seen.tp
 have hdo:=tape_cut ht x (by have:d.sT.f*d.z+d.sT.B.length=d.sT.len d.z:=rfl;omega)
 have H:=hid h
 clear h ht
 go_enter Tryz.func58,Tryz.ntmps58
 go_wp2_with fail
 refine hdo.mono ?_
 rintro e w2 ⟨rfl,ht2,hc2⟩
 have HS:=hid (H.out.half.set_seen (H.out.seen.tape (Below.refl _ _) (ht2.mono fun k hk _=>.inl hk) hc2))
 obtain⟨⟨col2,he2,hd2⟩,hc2'⟩:=HS.out
 have hwt:=q0f hd2 ⟨.cut x,none,0⟩ ⟨SlG.empty _,fun h=>absurd h (by simp [Dw.bytes]),trivial⟩ _ _ rfl hL
 have HC2:=hid hc2'
 have HE2:=hid he2
 clear ht2 hc2 hdo he2 hd2 hc2' HS
 go_wp2_with fail
 refine hwt.mono ?_
 rintro e w5 ⟨rfl,⟨A',col4,he4,hd4⟩,hc4⟩
 have HX:Hid (z5t w col c B (d.add (.cut x)) w5):=hid (by
  have hs2:=HC2.out.size
  refine⟨col4,HE2.out.trans he4 hs2,?_,?_⟩
  · have e1:d.sV=(d.add (.cut x)).sV:=(q2s d (.cut x)).symm
    have e2:cutT d.z d.sT x=(d.add (.cut x)).sT:=(q2b d (.cut x)).symm
    refine⟨A',Dkh.whole ?_⟩
    rw [← e1,← e2]
    exact hd4
  · refine HC2.out.trans hc4 fun k hk h=>?_
    unfold own at *
    rwa [HE2.out k hk] at h)
 clear he4 hd4 hc4 hwt
 go_wp2_with fail
 go_end0
 exact⟨rfl,HX.out⟩
end
theorem parts_two (w:World) (x y:Value):((w.alloc (.cells #[x,y] 109)).alloc (.cells #[.pointer none,.pointer none] 109)).heap[w.heap.size]?=some (.cells #[x,y] 109 (0,0)) ∧
 ((w.alloc (.cells #[x,y] 109)).alloc (.cells #[.pointer none,.pointer none] 109)).heap[w.heap.size+1]?=some (.cells #[.pointer none,.pointer none] 109 (0,0)) ∧
 Below w.heap.size w ((w.alloc (.cells #[x,y] 109)).alloc (.cells #[.pointer none,.pointer none] 109)):=by
 have hs:(w.alloc (.cells #[x,y] 109)).heap.size=w.heap.size+1:=by simp
 have h2:=z0b (w.alloc (.cells #[x,y] 109)) (.cells #[.pointer none,.pointer none] 109)
 rw [hs] at h2
 exact⟨z0c (z0b w _) ((Below.refl _ _).alloc (Nat.le_refl _) _),h2,((Below.refl _ _).alloc (Nat.le_refl _) _).alloc (by omega) _⟩
def Fresh (w w':World) (Bv T s:Nat) (V:List (List Int)) (a:Int) (z:Nat) (t:TS):Prop:=∀ col c,∃ col',Ext w col col'∧Pa w' col' c Bv T s V a z t
theorem Fresh.of {w w':World} {Bv G T s m:Nat} {mb:Option Nat} {V:List (List Int)} {a:Int} {z:Nat} {t:TS} (hv:Vo w' Bv G s V) (hB:w.heap.size≤Bv∧Bv<m) (hG:w.heap.size≤G∧G<m) (ht:Tp w' T mb (fun k=>m≤k) a z t):Fresh w w' Bv T s V a z t:=by
 intro col c
 refine⟨paint (paint col w.heap.size c) m (c+1),fun k hk=>?_,⟨G,hv,?_⟩,?_,mb,ht.mono fun k hk hl=>z3d hk⟩
 · rw [z2g (by omega),z2g hk]
 · rw [z2g hG.2,z3d hG.1]
 · rw [z2g hB.2,z3d hB.1]
theorem both_any {w:World} {col:Nat→Nat} {c Bv T s z:Nat} {V:List (List Int)} {a:Int} {t:TS} (h:Pa w col c Bv T s V a z t) (hbig:t.len z≤1000000) :
 Calls Tryz.prog 55 #[.agg #[.pointer (some ⟨Bv,0,none⟩),.pointer (some ⟨T,0,none⟩)]] w fun e w'=>∃ Bv' T',e=.returned (.agg #[.pointer (some ⟨Bv',0,none⟩),.pointer (some ⟨T',0,none⟩)])∧Fresh w w' Bv' T' s V a z t∧Below w.heap.size w w':=by
 obtain⟨h0,h1,hb⟩:=parts_two w (.pointer (some ⟨Bv,0,none⟩)) (.pointer (some ⟨T,0,none⟩))
 have H0:=hid h0
 have H1:=hid h1
 have HB:=hid hb
 have H:=hid h
 clear h h0 h1 hb
 go_enter Tryz.func55,Tryz.ntmps55
 go_wp2_with fail
 generalize hW:(w.alloc (.cells #[.pointer (some ⟨Bv,0,none⟩),.pointer (some ⟨T,0,none⟩)] 109)).alloc (.cells #[.pointer none,.pointer none] 109)=W at *
 clear hW
 have a0:=z0a (j:=0) H0.out (v:=.pointer (some ⟨Bv,0,none⟩)) rfl
 have a1:=z0a (j:=1) H0.out (v:=.pointer (some ⟨T,0,none⟩)) rfl
 have HV:Hid (∀ k,Calls Tryz.prog 100 #[.pointer (some ⟨Bv,0,none⟩)] (W.drewN k) fun e w'=>∃ G,e=.returned (.pointer (some ⟨W.heap.size,0,none⟩))∧Vo w' W.heap.size G s V∧W.heap.size≤G∧Below W.heap.size W w'):=hid fun k=>by
  obtain⟨⟨G,hv,_⟩,_,_⟩:=H.out.later HB.out
  refine (copy_any Bv G s V (W.drewN k) (hv.keep ((Chg.refl (fun _=>False) _).drewN k) (fun h=>h) (fun h=>h))).mono ?_
  rintro e w' ⟨rfl,h1,h2⟩
  exact⟨_,rfl,h1,Nat.le_succ _,z6k h2⟩
 have HT:Hid (∀ w',Below W.heap.size W w'→Calls Tryz.prog 101 #[.pointer (some ⟨T,0,none⟩)] w' fun e w''=>e=.returned (.pointer (some ⟨w'.heap.size,0,none⟩))∧(∃ mb',Tp w'' w'.heap.size mb' (fun k=>w'.heap.size≤k) a z t)∧Below w'.heap.size w' w''):=hid fun w' hb'=>by
  obtain⟨_,_,mb,ht⟩:=(H.out.later HB.out).later hb'
  exact tape_copy ht hbig
 clear H
 go_region_law (first
  | (go_simp;go_at_call 100;refine (HV.out _).mono ?_;rintro e w5 ⟨G,rfl,hv5,hG,hb5⟩;have b1:=z0a (j:=1) (z0c H0.out hb5) (v:=.pointer (some ⟨T,0,none⟩)) rfl)
  | (go_simp;go_at_call 101;refine (HT.out _ hb5).mono ?_;rintro e w6 ⟨rfl,⟨mb6,ht6⟩,hb6⟩;have hb56:=hb5.trans (hb6.mono hb5.size);have hA:=z0c H1.out hb56;have x0:=z0a (j:=0) hA (v:=.pointer none) rfl;have x1:=z0a (j:=1) hA (v:=.pointer none) rfl;have g0:=z0t 0 hA;have g1:=z0t 1 hA))
 all_goals
  have hc:Chg (fun k=>k=w.heap.size+1) w6 ((w6.setCell ⟨w.heap.size+1,0,none⟩ (.pointer (some ⟨W.heap.size,0,none⟩))).setCell ⟨w.heap.size+1,1,none⟩ (.pointer (some ⟨w5.heap.size,0,none⟩))):=((Chg.refl (fun k=>k=w.heap.size+1) w6).setCell ⟨w.heap.size+1,0,none⟩ _ fun _=>rfl).setCell ⟨w.heap.size+1,1,none⟩ _ fun _=>rfl
  have HR:Hid (((w6.setCell ⟨w.heap.size+1,0,none⟩ (.pointer (some ⟨W.heap.size,0,none⟩))).setCell ⟨w.heap.size+1,1,none⟩ (.pointer (some ⟨w5.heap.size,0,none⟩))).heap[w.heap.size+1]?=some (.cells #[.pointer (some ⟨W.heap.size,0,none⟩),.pointer (some ⟨w5.heap.size,0,none⟩)] 109 (0,0))):=hid (z0u 1 _ (z0u 0 _ hA))
  have hRW:w.heap.size+1<W.heap.size:=z0g H1.out
  have h5s:=hb5.size
  have hv8:=(hv5.later hb6).keep hc (by omega) (by omega)
  have ht8:=ht6.keep hc (by intro k hk;omega)
  have hbl:=hc.below (HB.out.trans (hb56.mono HB.out.size)) (Nat.le_trans HB.out.size hb56.size) fun k hk=>by omega
  have HBL:=hid hbl
  have HF:Hid (Fresh w _ W.heap.size w5.heap.size s V a z t):=hid (Fresh.of hv8 ⟨HB.out.size,z0g hv5.blk⟩ ⟨by have:=HB.out.size;omega,z0g hv5.row⟩ ht8)
  clear hc hA hv8 ht8 hbl hv5 ht6 x0 x1 g0 g1 b1
  go_wp2_with fail
  refine bodyPost_ret (v:=.agg #[.pointer (some ⟨W.heap.size,0,none⟩),.pointer (some ⟨w5.heap.size,0,none⟩)]) ?_ rfl ⟨_,_,rfl,HF.out,HBL.out⟩
  exact results_cell_row rfl _ _ (w.heap.size+1) 109 _ (0,0) _ rfl HR.out Tryz.underlying109 rfl (by kernel_rfl)
theorem Dka.made {w w5 w6 w7 w8:World} {col:Nat→Nat} {c B:Nat} {A:Ad} {d:DS} (hc:1≤c) (hM:d.M≤1048576) (b5:Below w.heap.size w w5) (h5:Fresh w w5 A.Bv A.T d.s d.sV d.a d.z d.sT) (b6:Below w5.heap.size w5 w6) (h6:Fresh w5 w6 A.Bv' A.T' d.s d.V d.a d.z d.t)
 (b7:Below w6.heap.size w6 w7) (h7:∀ col',Ext w col col'→Pe w7 (paint col' w6.heap.size (c+1)) (c+1) A.pv d.L) (b8:Below w7.heap.size w7 w8) (hB:w7.heap.size≤B) (hblk:w8.heap[B]?=some (.cells (z8q d.M A) 114 (0,0))):∃ col',Ext w col col'∧Dka w8 col' c B A d:=by
 obtain⟨k1,e1,p1⟩:=h5 col (c+2)
 obtain⟨k2,e2,p2⟩:=h6 k1 (c+4)
 have e12:=e1.trans e2 b5.size
 have e3:=Ext.paint w6 k2 (c+1)
 have s6:=Nat.le_trans b5.size b6.size
 have e13:=e12.trans e3 s6
 have p3:=h7 k2 e12
 have e4:=Ext.paint w7 (paint k2 w6.heap.size (c+1)) c
 have b68:=b7.trans (b8.mono b7.size)
 refine⟨paint (paint k2 w6.heap.size (c+1)) w7.heap.size c,e13.trans e4 (Nat.le_trans s6 b7.size),hc,hblk,z3d hB,(p3.recol e4).later b8,?_,?_,hM⟩
 · refine Pa.later (w:=w7) ?_ b8
   refine Pa.recol ?_ e4
   exact Pa.later (((p1.recol e2).later b6).recol e3) b7
 · refine Pa.later (w:=w7) ?_ b8
   refine Pa.recol ?_ e4
   exact Pa.later (p2.recol e3) b7
def DS.new (blocks block seg most:Int):DS:=⟨kp most 1048576,seg,cl seg 64 4096,kp block 4096,z8r (kp blocks 1024) (kp block 4096),⟨0,[]⟩,[]⟩
def Born (w w':World) (B:Nat) (d:DS):Prop:=∀ col c,1≤c→∃ col',Ext w col col'∧Dk w' col' c B d
theorem disk_new (x y g m:Int) (w:World):Calls Tryz.prog 12 #[.int .i64 x,.int .i64 y,.int .i64 g,.int .i64 m] w fun e w'=>∃ B,e=.returned (.pointer (some ⟨B,0,none⟩))∧Born w w' B (DS.new x y g m)∧w.heap.size≤B∧Below w.heap.size w w':=by
 have hn:=new_anyD x y w
 have HT:=hid fun w=>tape_new g w
 have HK:=hid fun w=>disk_kept m 1048576 w (by omega)
 have HM:Hid (kp m 1048576≤1048576):=hid (by have:=q3c m 1048576 (by omega);omega)
 have HD:Hid (DS.new x y g m=⟨kp m 1048576,g,cl g 64 4096,kp y 4096,z8r (kp x 1024) (kp y 4096),⟨0,[]⟩,[]⟩):=hid rfl
 generalize DS.new x y g m=D at *
 generalize kp m 1048576=M at *
 generalize kp y 4096=s at *
 generalize z8r (kp x 1024) s=V at *
 go_enter Tryz.func12,Tryz.ntmps12
 go_wp2_with fail
 refine hn.mono ?_
 rintro e w1 ⟨rfl,hv,hb⟩
 have HB1:=hid hb
 have HV1:=hid hv
 have ht:=HT.out w1
 clear hn hv hb HT
 go_wp2_with fail
 refine ht.mono ?_
 rintro e w2 ⟨rfl,hw2⟩
 have HT2:Hid (Tp w2 w1.heap.size none (fun k=>w1.heap.size≤k) g (cl g 64 4096) ⟨0,[]⟩):=hid (hw2 ▸ new_tape w1 g)
 have HB2:Hid (Below w1.heap.size w1 w2):=hid (hw2 ▸ (Below.refl _ _).alloc (Nat.le_refl _) _)
 clear ht hw2
 have hb3:Below w2.heap.size w2 (w2.alloc (.cells #[.pointer (some ⟨w.heap.size,0,none⟩),.pointer (some ⟨w1.heap.size,0,none⟩)] 109)):=(Below.refl _ _).alloc (Nat.le_refl _) _
 have HA3:=hid (z0b w2 (.cells #[.pointer (some ⟨w.heap.size,0,none⟩),.pointer (some ⟨w1.heap.size,0,none⟩)] 109))
 have HB3:=hid hb3
 clear hb3
 go_wp2_with fail
 generalize w2.alloc (.cells #[.pointer (some ⟨w.heap.size,0,none⟩),.pointer (some ⟨w1.heap.size,0,none⟩)] 109)=W at *
 have HB13:=hid (HB2.out.trans (HB3.out.mono HB2.out.size))
 have HB03:=hid (HB1.out.trans (HB13.out.mono HB1.out.size))
 have HS:Hid (Fresh w W w.heap.size w1.heap.size s V g (cl g 64 4096) ⟨0,[]⟩):=hid (Fresh.of (HV1.out.later HB13.out) ⟨Nat.le_refl _,z0g HV1.out.blk⟩ ⟨Nat.le_succ _,z0g HV1.out.row⟩ (HT2.out.later HB3.out))
 have HBO:Hid (∀ w',Below W.heap.size W w'→Calls Tryz.prog 55 #[.agg #[.pointer (some ⟨w.heap.size,0,none⟩),.pointer (some ⟨w1.heap.size,0,none⟩)]] w' fun e w''=>∃ Bv' T',e=.returned (.agg #[.pointer (some ⟨Bv',0,none⟩),.pointer (some ⟨T',0,none⟩)])∧Fresh w' w'' Bv' T' s V g (cl g 64 4096) ⟨0,[]⟩∧Below w'.heap.size w' w''):=hid fun w' hb'=>by
  obtain⟨k1,_,p1⟩:=HS.out (fun _=>0) 1
  exact both_any (p1.later hb') (by simp [TS.len])
 have a0:=z0a (j:=0) HA3.out (v:=.pointer (some ⟨w.heap.size,0,none⟩)) rfl
 have a1:=z0a (j:=1) HA3.out (v:=.pointer (some ⟨w1.heap.size,0,none⟩)) rfl
 generalize w2.heap.size=X at *
 go_region_law (first
  | (go_simp;go_at_call 54;refine (HK.out _).mono ?_;rintro e w5 ⟨rfl,rfl⟩)
  | (go_simp;go_at_call 55;refine (HBO.out _ (by first | exact z0f (Below.refl _ _) _ | exact Below.refl _ _)).mono ?_;rintro e w6 ⟨Bv',T',rfl,hf6,hb6⟩;have hb6':Below W.heap.size W w6:=(by first | exact z6k hb6 | exact hb6);have b0:=z0a (j:=0) (z0c HA3.out hb6') (v:=.pointer (some ⟨w.heap.size,0,none⟩)) rfl;have b1:=z0a (j:=1) (z0c HA3.out hb6') (v:=.pointer (some ⟨w1.heap.size,0,none⟩)) rfl))
 all_goals
  have hb7:Below w6.heap.size w6 (w6.alloc (.cells (z8q M ⟨w.heap.size,w1.heap.size,Bv',T',.slice none 0 0⟩) 114)):=(Below.refl _ _).alloc (Nat.le_refl _) _
  have HX:Hid (Born w (w6.alloc (.cells (z8q M ⟨w.heap.size,w1.heap.size,Bv',T',.slice none 0 0⟩) 114)) w6.heap.size D∧w.heap.size≤w6.heap.size∧Below w.heap.size w (w6.alloc (.cells (z8q M ⟨w.heap.size,w1.heap.size,Bv',T',.slice none 0 0⟩) 114))):=hid (by
   have hD:=HD.out
   subst hD
   have hb06:=HB03.out.trans (hb6'.mono HB03.out.size)
   refine⟨fun col c hc=>?_,hb06.size,hb06.trans (hb7.mono hb06.size)⟩
   obtain⟨col',h1,h2⟩:=Dka.made (col:=col) (A:=⟨w.heap.size,w1.heap.size,Bv',T',.slice none 0 0⟩) (d:=⟨M,g,cl g 64 4096,s,V,⟨0,[]⟩,[]⟩) hc HM.out HB03.out HS.out hb6' hf6 (Below.refl _ _) (fun col' _=>Pe.nil _ _ _) hb7 (Nat.le_refl _) (z0b _ _)
   exact⟨col',h1,_,h2⟩)
  clear hf6 hb6 hb6' hb7 b0 b1
  go_wp2_with fail
  go_ret
  exact⟨_,rfl,HX.out⟩
def DS.part (d:DS) (j:Nat):DS:={ d with V:=q1i d.s d.V (d.L.take j),t:=z8t d.z d.t (d.L.take j) }
structure Sy (w wr:World) (col col':Nat→Nat) (c B:Nat) (A:Ad) (d:DS) (V:List (List Int)) (t:TS) (p:Option Addr) (n cp:Nat) (PL:List Pw) (j:Nat):Prop where
 ext:Ext w col col'
 dk:Dkh wr col' c B A (d.part j) V t
 sl:SlG ew 1 yd wr p n cp PL
 at_:0<n→∀ a,p=some a→col' a.block=c+1
 ok:∀ y∈PL,y.ok wr col'
 len:PL.map (·.x)=d.L
 chg:Chg (fun k=>col k=c+4∨col k=c+5) w wr
theorem Sy.start {w:World} {col:Nat→Nat} {c B:Nat} {A:Ad} {d:DS} {V:List (List Int)} {t:TS} {p:Option Addr} {cp:Nat} {PL:List Pw} (h:Dkh w col c B A d V t) (hsl:SlG ew 1 yd w p d.L.length cp PL) (hat:0<d.L.length→∀ a,p=some a→col a.block=c+1) (hok:∀ y∈PL,y.ok w col) (hl:PL.map (·.x)=d.L):Sy w w col col c B A d V t p d.L.length cp PL 0 :=
 ⟨Ext.refl _ _,h,hsl,hat,hok,hl,Chg.refl _ _⟩
theorem Sy.drewN {w wr:World} {col col':Nat→Nat} {c B:Nat} {A:Ad} {d:DS} {V:List (List Int)} {t:TS} {p:Option Addr} {n cp:Nat} {PL:List Pw} {j:Nat} (h:Sy w wr col col' c B A d V t p n cp PL j) (q:Nat):Sy w (wr.drewN q) col col' c B A d V t p n cp PL j :=
 have hb:=z0f (Below.refl wr.heap.size wr) q
 ⟨h.ext,h.dk.later hb,SlG.later h.sl hb,h.at_,fun y hy=>(h.ok y hy).keep (Chg.of_below (S:=fun _=>False) hb) fun _ _ h=>h,h.len,h.chg.drewN q⟩
theorem Sy.next {w wr:World} {col col':Nat→Nat} {c B:Nat} {A:Ad} {d:DS} {V:List (List Int)} {t:TS} {p:Option Addr} {n cp:Nat} {PL:List Pw} {j:Nat} (h:Sy w wr col col' c B A d V t p n cp PL j) (hj:j<n) (hbig:d.tot≤1000000) :
 ∃ y b off,p=some ⟨b,off,none⟩∧wr.cell? ⟨b,off+j,none⟩=some (.iface (wty y.x) (wval y)) ∧
  (∀ q,Calls Tryz.prog (q1b y.x) #[wval y,.agg #[.pointer (some ⟨A.Bv',0,none⟩),.pointer (some ⟨A.T',0,none⟩)]] (wr.drewN q) fun e w'=>e=.returned (.tuple #[])∧∃ col'',Sy w w' col col'' c B A d V t p n cp PL (j+1)):=by
 obtain⟨b,off,hp,hlt,hc⟩:=SlW_at h.sl hj
 have hl:PL.length=n:=h.sl.len
 have hmem:PL.getD j yd∈PL:=by
  rw [List.getD,List.getElem?_eq_getElem (by omega)]
  exact List.getElem_mem _
 have htake:d.L.take (j+1)=d.L.take j ++ [(PL.getD j yd).x]:=by
  have e:d.L[j]?=some (PL.getD j yd).x:=by
   rw [← h.len,List.getElem?_map,List.getD,List.getElem?_eq_getElem (by omega)]
   rfl
  rw [List.take_add_one,e]
  rfl
 have hz:=h.dk.seen.z_in
 have hz':64≤d.z:=hz.1
 have hw1:(z8t d.z d.t (d.L.take j)).len d.z≤d.t.len d.z+wts (d.L.take j):=z9r (by omega) _ _
 have hw2:=wts_take_drop d.L (j+1)
 rw [htake,wts_snoc] at hw2
 refine⟨PL.getD j yd,b,off,hp,by rw [← Pw.val_eq];exact hc,fun q=>?_⟩
 replace h:=h.drewN q
 generalize wr.drewN q=wr at *
 have hsure:Pa wr col' (c+4) A.Bv' A.T' d.s (q1i d.s d.V (d.L.take j)) d.a d.z (z8t d.z d.t (d.L.take j)):=h.dk.sure
 have h0:=h.dk.c0
 refine (whole_any hsure (by omega) _ (h.ok _ hmem) (by unfold DS.tot at hbig;omega)).mono ?_
 rintro e w' ⟨rfl,⟨col'',he,hp'⟩,hch⟩
 have hch':Chg (fun k=>col'' k=c+4∨col'' k=c+4+1) wr w':=hch.mono fun k hk h=>by rw [he k hk];exact h
 have g:=h.dk.recol he
 refine⟨rfl,col'',h.ext.trans he h.chg.size,⟨g.c0,(hch'.block B (z0g g.blk) (by have:=g.cB;omega)).trans g.blk,g.cB,g.pe.keep hch' fun k hk=>by omega,g.seen.keep hch' fun k hk=>by omega,?_,g.most⟩,?_,?_,?_,h.len,?_⟩
 · show Pa w' col'' (c+4) A.Bv' A.T' d.s (q1i d.s d.V (d.L.take (j+1))) d.a d.z (z8t d.z d.t (d.L.take (j+1)))
   rw [htake,foldV_snoc,foldT_snoc]
   exact hp'
 · refine SlG.turn h.sl hch.size fun hn a ha hl=>hch.block _ hl ?_
   have:=h.at_ hn a ha
   omega
 · intro hn a ha
   obtain⟨b2,off2,hp2,hlt2,_⟩:=h.sl.cell hn
   rw [hp2] at ha
   cases ha
   rw [he b2 hlt2]
   exact h.at_ hn _ hp2
 · exact fun y hy=>((h.ok y hy).recol he).keep hch' fun k hk=>by omega
 · refine h.chg.trans hch fun k hk h2=>?_
   have e1:=h.ext k hk
   rw [e1] at h2
   omega
theorem Sy.done {w wr:World} {col col':Nat→Nat} {c B:Nat} {A:Ad} {d:DS} {p:Option Addr} {n cp:Nat} {PL:List Pw} (h:Sy w wr col col' c B A d d.sV d.sT p n cp PL d.L.length):z5t w col c B d.sync (wr.setCell ⟨B,5,none⟩ (.slice none 0 0)):=by
 have hc:Chg (fun k=>k=B) wr (wr.setCell ⟨B,5,none⟩ (.slice none 0 0)):=(Chg.refl _ _).setCell _ _ fun _=>rfl
 have g:=h.dk
 have hB:=g.cB
 have h0:=g.c0
 refine⟨col',h.ext,⟨{ A with pv:=.slice none 0 0 },g.c0,z0u 5 _ g.blk,hB,Pe.nil _ _ _,?_,?_,g.most⟩,(h.chg.mono (T:=own col c) fun k _ h=>by unfold own;omega).trans hc fun k hk e=>?_⟩
 · exact g.seen.keep hc fun k hk e=>by subst e;omega
 · have hsure:Pa wr col' (c+4) A.Bv' A.T' d.s (q1i d.s d.V (d.L.take d.L.length)) d.a d.z (z8t d.z d.t (d.L.take d.L.length)):=g.sure
   rw [List.take_length] at hsure
   exact hsure.keep hc fun k hk e=>by subst e;omega
 · subst e
   have:=h.ext k hk
   unfold own
   omega
theorem disk_sync_h {w:World} {col:Nat→Nat} {c B:Nat} {A:Ad} {d:DS} {V:List (List Int)} {t:TS} (h:Dkh w col c B A d V t) (hbig:d.tot≤1000000) (hL:d.L.length≤1000000) :
 Calls Tryz.prog 27 #[.pointer (some ⟨B,0,none⟩)] w fun e w'=>e=.returned (.tuple #[])∧∃ col' wr p n cp PL,Sy w wr col col' c B A d V t p n cp PL d.L.length∧w'=wr.setCell ⟨B,5,none⟩ (.slice none 0 0):=by
 obtain⟨Bv,T,Bv',T',pv⟩:=A
 obtain⟨p,cp,PL,hp,hPL,hsl,hok,hat⟩:=h.pe.sl
 simp only at hp
 subst hp
 have c5:w.cell? ⟨B,5,none⟩=some (.slice p d.L.length cp):=z0a h.blk rfl
 have HS:=hid (Sy.start h hsl hat hok hPL)
 have hcap:=hsl.cap
 have hmax:=hsl.max
 clear hsl hok hat hPL h
 generalize hn:d.L.length=n at *
 have HN:=hid hn
 clear hn
 go_enter Tryz.func27,Tryz.ntmps27
 go_wp2_with fail
 go_loopw [3,11] (fun x i wr=>∃ (j:Nat) (col':Nat→Nat) (x0:Value),j≤n∧x=x0∧i=.int .i64 (j:Nat)∧Hid (Sy w wr col col' c B ⟨Bv,T,Bv',T',.slice p n cp⟩ d V t p n cp PL j)) (fun _ i _=>n-(intOf i).toNat)
 case atStart=>exact⟨0,col,_,Nat.zero_le _,rfl,rfl,HS⟩
 case round =>
  obtain⟨j,col',x0,hj,rfl,rfl,HF⟩:=hrel
  have b3:wr.cell? ⟨B,3,none⟩=some (.pointer (some ⟨Bv',0,none⟩)):=z0a HF.out.dk.blk rfl
  have b4:wr.cell? ⟨B,4,none⟩=some (.pointer (some ⟨T',0,none⟩)):=z0a HF.out.dk.blk rfl
  have b5:wr.cell? ⟨B,5,none⟩=some (.slice p n cp):=z0a HF.out.dk.blk rfl
  have g5:=z0t 5 HF.out.dk.blk
  by_cases hlt:j<n
  · have hlt':(j:Int)<n:=by omega
    obtain⟨y,b,off,hpe,hcell,hcall⟩:=HF.out.next hlt hbig
    subst hpe
    have HCALL:=hid hcall
    clear hcall
    have hah:=whole_ahead y
    have hme:=whole_meth y
    have hen:=whole_enter y.x
    go_wp2_with fail
    go_region_law (first | (go_simp;refine (HCALL.out _).mono ?_;rintro e w2 ⟨rfl,col2,hsy⟩))
    all_goals
     have HSY:=hid hsy
     clear hsy
     go_wp2_with fail
     go_roundw
     case rel=>exact⟨j+1,col2,_,by omega,rfl,by go_num,HSY⟩
     case measure=>simp [intOf];omega
  · obtain rfl:n=j:=by omega
    have hnn:=HN.out
    go_wp2_with fail
    go_end0
    exact⟨rfl,col',wr,p,n,cp,PL,HF.out,rfl⟩
theorem disk_sync {w:World} {col:Nat→Nat} {c B:Nat} {d:DS} (h:Dk w col c B d) (hbig:d.tot≤1000000) (hL:d.L.length≤1000000) :
 Calls Tryz.prog 27 #[.pointer (some ⟨B,0,none⟩)] w fun e w'=>e=.returned (.tuple #[])∧z5t w col c B d.sync w':=by
 obtain⟨A,h⟩:=h
 refine (disk_sync_h h.half hbig hL).mono ?_
 rintro e w' ⟨rfl,col',wr,p,n,cp,PL,hs,rfl⟩
 exact⟨rfl,hs.done⟩
end Go.Proofs.YtfdgnniicjdjdaaGreatDoor
