import Derived.Test.YtfdgnniicjdjdaaGreatDoorPS15
import Derived.WalkSpells
namespace Go.Proofs.YtfdgnniicjdjdaaGreatDoor
open Go.Lib (hid)
set_option maxHeartbeats 1000000
open Go.RowKit Go.ChangeShapes Go.WideShapes
set_option linter.unusedVariables false
set_option maxRecDepth 10000
set_option linter.unusedSimpArgs false
theorem z9f (x:Int) (lo hi:Nat) (w:World):Calls Tryz.prog 114 #[.int .i64 x,.int .i64 (lo:Nat),.int .i64 (hi:Nat)] w fun e w'=>e=.returned (.int .i64 (cl x lo hi:Nat))∧w'=w:=by
 have hk:=cl_eq x lo hi
 have hk1:(if (hi:Int)<(if x<(lo:Int) then (lo:Int) else x) then (hi:Int) else (if x<(lo:Int) then (lo:Int) else x))=((cl x lo hi:Nat):Int):=by rw [← hk];split <;> split <;> omega
 have hk2:min (hi:Int) (max x (lo:Int))=((cl x lo hi:Nat):Int):=by rw [← hk];omega
 generalize cl x lo hi=y at *
 go_enter Tryz.func114,Tryz.ntmps114
 go_wp2_with fail
 all_goals (go_ret;exact⟨rfl,rfl⟩)
section
variable {w:World} {T:Nat} {mb:Option Nat} {Q:Nat→Prop} {a:Int} {s:Nat} {t:TS}
theorem z7h (T:Nat) (a:Int) (s:Nat) (w:World) (c0:w.cell? ⟨T,0,none⟩=some (.int .i64 a)) (hs:s=cl a 64 4096):Calls Tryz.prog 113 #[.pointer (some ⟨T,0,none⟩)] w fun e w'=>e=.returned (.int .i64 (s:Nat))∧w'=w:=by
 have hk:=z9f a 64 4096 w
 rw [← hs] at hk
 clear hs
 go_enter Tryz.func113,Tryz.ntmps113
 go_wp2_with fail
 refine hk.mono ?_
 rintro e w' ⟨rfl,rfl⟩
 go_wp2_with fail
 go_ret
 exact⟨rfl,rfl⟩
theorem Tp.at (h:Tp w T mb Q a s t) {F E:Nat} (hF:t.f*s=F) (hE:F+t.B.length=E):(∀ q,(w.drewN q).cell? ⟨T,1,none⟩=some (.int .i64 (F:Nat)))∧(∀ q,(w.drewN q).cell? ⟨T,2,none⟩=some (.int .i64 (E:Nat)))∧(∀ q,(w.drewN q).cell? ⟨T,3,none⟩=some (.map mb)) ∧
 ∀ q,Calls Tryz.prog 113 #[.pointer (some ⟨T,0,none⟩)] (w.drewN q) fun e w'=>e=.returned (.int .i64 (s:Nat))∧w'=w.drewN q:=by
 subst hF hE
 exact⟨fun q=>h.cells.2.1,fun q=>h.cells.2.2.1,fun q=>h.cells.2.2.2,fun q=>z7h T a s _ h.cells.1 h.seg⟩
theorem tape_first (h:Tp w T mb Q a s t):Calls Tryz.prog 102 #[.pointer (some ⟨T,0,none⟩)] w fun e w'=>e=.returned (.int .i64 (t.f*s:Nat))∧w'=w:=by
 obtain⟨_,c1,_,_⟩:=h.cells
 clear h
 generalize t.f*s=x at *
 go_enter Tryz.func102,Tryz.ntmps102
 go_wp2_with fail
 go_ret
 exact⟨rfl,rfl⟩
theorem tape_end (h:Tp w T mb Q a s t):Calls Tryz.prog 79 #[.pointer (some ⟨T,0,none⟩)] w fun e w'=>e=.returned (.int .i64 (t.f*s+t.B.length:Nat))∧w'=w:=by
 obtain⟨_,_,c2,_⟩:=h.cells
 clear h
 generalize t.f*s+t.B.length=x at *
 go_enter Tryz.func79,Tryz.ntmps79
 go_wp2_with fail
 go_ret
 exact⟨rfl,rfl⟩
end
theorem tape_new (a:Int) (w:World):Calls Tryz.prog 53 #[.int .i64 a] w fun e w'=>e=.returned (.pointer (some ⟨w.heap.size,0,none⟩))∧w'=w.alloc (.cells #[.int .i64 a,.int .i64 0,.int .i64 0,.map none] 171):=by
 go_enter Tryz.func53,Tryz.ntmps53
 go_wp2_with fail
 go_ret
 exact⟨rfl,rfl⟩
theorem Sm.struck {w w1:World} {Q:Nat→Prop} {b f s n:Nat} {B:List Int} {z:Nat→Nat × Nat} {D:DataW Sv} (hs:0<s) (hQb:Q b) (hm:MapB w b (nSD s B.length) D) (hT:Tm D (So z f s B) (nSD s B.length)) (hS:Seg w Q z f s B) (hl:s≤B.length)
 (hm1:MapB w1 b n (D.del (kLD (f:Nat)))) (hc1:Chg (fun k=>k=b) w w1):Sm w1 Q b (f+1) s (B.drop s):=by
 have hdl:(B.drop s).length=B.length-s:=List.length_drop
 have h0:So z f s B (f:Nat)=some (some ⟨(z f).1,0,none⟩,(sgD s B 0).length,(z f).2):=by
  have:=z4f z f s B 0
  rw [if_pos (by omega)] at this
  exact this
 have hcnt:nSD s B.length-1=nSD s (B.drop s).length:=by
  have h1:0<nSD s B.length:=(z8c hs).2 (by omega)
  symm
  refine z9x hs ?_ fun i hi=>?_
  · have h2:¬ nSD s B.length*s<B.length:=fun e=>by have:=(z8c hs).2 e;omega
    obtain⟨m,hm⟩:∃ m,nSD s B.length=m+1:=⟨_,(by omega:nSD s B.length=(nSD s B.length-1)+1)⟩
    rw [hm] at h2 ⊢
    rw [Nat.add_mul,Nat.one_mul] at h2
    rw [Nat.add_sub_cancel,hdl]
    omega
  · have:=(z8c hs).1 (show i+1<nSD s B.length by omega)
    rw [Nat.add_mul,Nat.one_mul] at this
    omega
 have hT1:=hT.del (f:Nat) (by rw [h0];rfl)
 have hne:∀ i,i*s<B.length→(z (f+i)).1≠b:=by
  intro j hj
  rcases (hS.row j hj).2.own.2 with ⟨h3,_⟩ | ⟨g3,c3,cur3,h3,_,h4,_⟩
  · cases h3
  · cases h3
    exact hm.ne h4
 have hsh:∀ i,i*s<(B.drop s).length→(1+i)*s<B.length:=fun i hi=>by rw [Nat.add_mul,Nat.one_mul];omega
 have hsg:∀ i,sgD s (B.drop s) i=sgD s B (1+i):=fun i=>by
  have:=sg_drop s B 1 i
  rwa [Nat.one_mul] at this
 have ht:=hm1.tight
 rw [hT1.size,hcnt] at ht
 refine⟨hQb,z,_,ht,hT1.congr (fun y=>?_) hcnt,⟨fun i hi=>?_,fun i j hi hj hij=>?_⟩⟩
 · rcases z5b (f+1) y with h | ⟨i,rfl⟩
   · rw [z5u z (f+1) s _ h]
     by_cases e:y=(f:Nat)
     · rw [if_pos e]
     · rw [if_neg e,z5u z f s B (by omega)]
   · rw [if_neg (by omega),z4f]
     have e:((f+1+i:Nat):Int)=((f+(1+i):Nat):Int):=by omega
     rw [e,z4f,hsg,show f+1+i=f+(1+i) by omega]
     have e2:(1+i)*s=s+i*s:=by rw [Nat.add_mul,Nat.one_mul]
     by_cases hi:i*s<(B.drop s).length
     · rw [if_pos hi,if_pos (hsh i hi)]
     · rw [if_neg hi,if_neg (by omega)]
 · rw [show f+1+i=f+(1+i) by omega,hsg]
   exact⟨(hS.row _ (hsh i hi)).1,(hS.row _ (hsh i hi)).2.keep hc1 fun k hk=>by cases hk;exact hne _ (hsh i hi)⟩
 · rw [show f+1+i=f+(1+i) by omega,show f+1+j=f+(1+j) by omega]
   exact hS.apart _ _ (hsh i hi) (hsh j hj) (by omega)
structure Dm (w wr:World) (T:Nat) (mb:Option Nat) (Q:Nat→Prop) (a:Int) (s:Nat) (t:TS) (j:Nat):Prop where
 blk:wr.heap[T]?=some (.cells #[.int .i64 a,.int .i64 (t.f*s:Nat),.int .i64 (t.f*s+t.B.length:Nat),.map mb] 171 (0,0))
 yes:∀ b,mb=some b→Sm wr Q b (t.f+j) s (t.B.drop (j*s))
 chg:Chg Q w wr
theorem Dm.step {w wr w1:World} {T:Nat} {mb:Option Nat} {Q:Nat→Prop} {a:Int} {s:Nat} {t:TS} {j b:Nat} (h:Dm w wr T mb Q a s t j) (hQT:Q T) (hmb:mb=some b) (hs:Sm w1 Q b (t.f+j+1) s ((t.B.drop (j*s)).drop s)) (hc:Chg (fun k=>k=b) wr w1) (hb:¬ T=b):Dm w w1 T mb Q a s t (j+1):=by
 subst hmb
 have hQb:Q b:=hs.1
 refine⟨(hc.block T (z0g h.blk) hb).trans h.blk,fun b' e=>?_,h.chg.trans (hc.mono fun k _ e=>by rw [e];exact hQb) fun _ _ h=>h⟩
 cases e
 rw [List.drop_drop] at hs
 rw [Nat.add_mul,Nat.one_mul]
 exact hs
section
variable {w:World} {T:Nat} {mb:Option Nat} {Q:Nat→Prop} {a:Int} {s:Nat} {t:TS}
theorem tape_start (h:Tp w T mb Q a s t) {w':World} (hb:Below w.heap.size w w'):Dm w w' T mb Q a s t 0 :=
 ⟨(h.later hb).blk,fun b e=>by rw [Nat.zero_mul,List.drop_zero];exact (h.later hb).yes b e,Chg.of_below hb⟩
set_option maxRecDepth 100000 in
theorem tape_drop (h:Tp w T mb Q a s t) (keep:Int) (hbig:t.f*s+t.B.length≤1000000):Calls Tryz.prog 71 #[.pointer (some ⟨T,0,none⟩),.int .i64 keep] w fun e w'=>e=.returned (.tuple #[])∧Tp w' T mb Q a s (q0t s t keep)∧Chg Q w w':=by
 have hs:=h.s_in
 obtain⟨g1,g2,g3,g4⟩:=gone_spec (by omega:0<s) t keep
 have hk:=fun q=>z9f keep (t.f*s) (t.f*s+t.B.length) (w.drewN q)
 have hf:t.f*s / s=t.f:=Nat.mul_div_cancel _ (by omega)
 have hdl:=drop_len (by omega:0<s) t keep
 have HTP:=hid h
 clear h
 generalize hcl:cl keep (t.f*s) (t.f*s+t.B.length)=c at *
 generalize hd:gone s t keep=d at *
 have HDT:Hid (q0t s t keep=⟨t.f+d,t.B.drop (d*s)⟩):=hid (by unfold q0t;rw [hd])
 have hcb:c≤t.f*s+t.B.length:=by rw [← hcl];exact q2z ..
 have HDL:=hid hdl
 have HG2:=hid g2
 clear g4 hcl hd hdl g2
 generalize hF:t.f*s=F at *
 generalize hE:F+t.B.length=E at *
 have HF:=hid hF
 have HE:=hid hE
 have HG3:=hid g3
 have fle:F≤1000000:=by omega
 obtain⟨c1,c2,_,hsg⟩:=HTP.out.at hF hE
 have q0:((s:Int)==0)=false:=by simp;omega
 have q1:¬ s=0:=by omega
 have d1:(c:Int).tdiv (s:Int)=((t.f+d:Nat):Int):=by rw [← g1];rfl
 have d2:(F:Int).tdiv (s:Int)=(t.f:Int):=by rw [← hf];rfl
 have hfd:t.f+d≤1000000:=by
  rw [← g1]
  exact Nat.le_trans (Nat.div_le_self _ _) (by omega)
 have d3:IntKind.i64.wrap ((t.f+d:Nat):Int)=((t.f+d:Nat):Int):=IntWalk.i64_in _ (by omega)
 have d4:IntKind.i64.wrap (t.f:Int)=(t.f:Int):=IntWalk.i64_in _ (by omega)
 clear g1 hf hE hF g3
 go_enter Tryz.func71,Tryz.ntmps71
 go_wp2_with fail
 go_quiet (first
  | (go_at_call 114;exact Calls.quiet_of_same (hk _))
  | (go_at_call 113;exact Calls.quiet_of_same (hsg _)))
 go_wp2_with fail
 have HB1:Hid (Below w.heap.size w (w.drewN nq)):=hid (z0f (Below.refl _ _) nq)
 clear hk hsg c1 c2
 obtain⟨c1,c2,_,hsg⟩:=(HTP.out.drewN nq).at HF.out HE.out
 generalize w.drewN nq=W1 at *
 go_quiet (first
  | (go_at_call 113;exact Calls.quiet_of_same (hsg _)))
 go_wp2_with fail
 have HS0:=hid (tape_start HTP.out (z0f HB1.out nq))
 clear c1 c2 hsg d1 d2 d3 d4 q0
 generalize W1.drewN nq=W2 at *
 have HB:=hid HTP.out
 go_loopw [5] (fun n wr=>∃ j:Nat,j≤d∧n=.int .i64 (t.f+j:Nat)∧Hid (Dm w wr T mb Q a s t j)) (fun n _=>t.f+d-(intOf n).toNat)
 case atStart=>exact⟨0,Nat.zero_le _,rfl,HS0⟩
 case round =>
  obtain⟨j,hj,rfl,HD⟩:=hrel
  have hblk:=HD.out.blk
  rw [HF.out,HE.out] at hblk
  have HBLK:=hid hblk
  by_cases hlt:j<d
  · have hlt':(t.f:Int)+(j:Int)<(t.f:Int)+(d:Int):=by omega
    have hlen:j*s+s≤t.B.length:=by
     have:=z2s (s:=s) hlt
     have:=HG2.out
     omega
    obtain⟨b,rfl⟩:∃ b,mb=some b:=by
     cases mb with
     | none =>
      have:=(HTP.out.no rfl).2
      rw [this] at hlen
      simp at hlen
      omega
     | some b=>exact⟨b,rfl⟩
    obtain⟨hQb,z,D,hown,hT,hS⟩:=HD.out.yes b rfl
    have HTM:=hid hT
    have HSG:=hid hS
    have HO:=hid hown
    have hTb:=hid (hown.ne hblk)
    have c3:=z0a (j:=3) hblk (v:=.map (some b)) rfl
    have wf:(Lit.int .i64 ((t.f+j:Nat):Int)).wf=true:=WalkArith.wf_i64 (by omega)
    clear hblk hown hT hS
    go_wp2_with (first | (at_delete;refine z4u rfl _ _ rfl b _ D rfl HO.out ((t.f+j:Nat):Int) wf rfl ?_;intro w3 hm3 hc3) | fail)
    have HN:Hid (Dm w w3 T (some b) Q a s t (j+1)):=hid (HD.out.step HTP.out.q rfl (Sm.struck (by omega) hQb HO.out HTM.out HSG.out (by rw [List.length_drop];omega) hm3 hc3) hc3 hTb.out)
    go_wp2_with fail
    go_roundw
    case rel=>exact⟨j+1,by omega,by go_num,HN⟩
    case measure=>simp [intOf];omega
  · obtain rfl:j=d:=by omega
    have c0:=z0a (j:=0) hblk (v:=.int .i64 a) rfl
    have c1:=z0a (j:=1) hblk (v:=.int .i64 (F:Nat)) rfl
    have f1:=z0t 1 hblk
    have hsg:=z7h T a s wr c0 HTP.out.seg
    have e1:((t.f:Int)+(j:Int))*(s:Int)=((F+j*s:Nat):Int):=by
     rw [← HG3.out]
     push_cast
     rfl
    have hb1:F+j*s≤1000000:=by have:=HG2.out;have:=HE.out;omega
    clear hblk
    generalize hX:F+j*s=X at *
    have HX:=hid hX
    clear hX
    go_wp2_with fail
    refine hsg.mono ?_
    rintro e w' ⟨rfl,rfl⟩
    go_wp2_with fail
    go_end0
    have hx3:(t.f+j)*s=X:=HG3.out
    have hx4:X+(t.B.drop (j*s)).length=E:=by rw [List.length_drop];have:=HX.out;have:=HE.out;have:=HG2.out;omega
    rw [HDT.out]
    refine⟨rfl,⟨HTP.out.seg,?_,fun e=>?_,fun b e=>(HD.out.yes b e).put HBLK.out 1 _,HTP.out.q⟩,HD.out.chg.trans (T:=fun k=>k=T) ((Chg.refl _ _).setCell _ _ fun _=>rfl) fun k _ e=>by rw [e];exact HTP.out.q⟩
    · rw [hx3,hx4]
      exact z0u 1 _ HBLK.out
    · obtain⟨h1,h2⟩:=HTP.out.no e
      have h3:=HG2.out
      rw [h2] at h3
      simp only [List.length_nil] at h3
      have:j≤j*s:=Nat.le_mul_of_pos_right _ (by omega)
      exact⟨(by omega:t.f+j=0),by rw [h2];simp⟩
end
end Go.Proofs.YtfdgnniicjdjdaaGreatDoor
