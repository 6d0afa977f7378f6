import Derived.Test.YtclbkfpbdidaiaaGreatDoorPC99
import Derived.Test.YtclbkfpbdidaiaaGreatDoorPC23
import Derived.Deep.Cut
namespace Go.Proofs.YtclbkfpbdidaiaaGreatDoor
open Go.Lib (hid)
set_option maxHeartbeats 8000000
open Go.RowKit Go.ChangeShapes Go.WideShapes
set_option linter.unusedVariables false
set_option linter.unusedSimpArgs false
set_option maxRecDepth 10000
theorem z4a {w:World} {X:Nat} {o a r q:Int} (h:w.heap[X]?=some (.cells #[.int .u32 o,.int .u8 a,.int .u8 r,.int .i64 q] 73 (0,0))):w.cell? ⟨X,0,none⟩=some (.int .u32 o)∧w.cell? ⟨X,1,none⟩=some (.int .u8 a)∧w.cell? ⟨X,2,none⟩=some (.int .u8 r)∧w.cell? ⟨X,3,none⟩=some (.int .i64 q):=⟨z0a h rfl,z0a h rfl,z0a h rfl,z0a h rfl⟩
theorem z4r (t:Int) (tp:Option Addr) (tn tcp:Nat) (T:List Tk) (W:World) (hT:TKL W tp tn tcp T) (hn:tn≤1000) :
 Calls Tryz.prog 81 #[.int .u8 t,.slice tp tn tcp] W fun e w'=>∃ v H,e=.returned v∧FillS W w' v H (z1a t T) tn:=by
 have HT:=hid hT
 have HST:=hid fun j (hj:j<tn)=>z3n t T j (by rw [hT.len];exact hj)
 have HET:Hid (z1a t (T.take tn)=z1a t T):=hid (by rw [← hT.len,List.take_length])
 have hcap:=hT.cap
 clear hT
 go_enter Tryz.func81,Tryz.ntmps81
 go_wp2_with fail
 go_loopw [5,11] (fun v i wr=>∃ j:Nat,j≤tn∧i=.int .i64 j∧Hid (Hst W wr v t T j)) (fun _ i _=>tn-(Go.RowKit.intOf i).toNat)
 case atStart=>exact⟨0,Nat.zero_le _,rfl,hid (.inl ⟨rfl,rfl,Below.refl _ _⟩)⟩
 case round =>
  obtain⟨j,hj,rfl,HI⟩:=hrel
  by_cases hlt:j<tn
  case neg =>
   obtain rfl:j=tn:=by omega
   obtain⟨H0,hf⟩:=HI.out.fill
   rw [HET.out] at hf
   have HF:=hid hf
   clear hf
   go_wp2_with fail
   go_ret
   exact⟨_,H0,rfl,HF.out⟩
  have hlt':(j:Int)<tn:=by omega
  obtain⟨b,off,rfl,_,k0,k1,k2,k3⟩:=z1g (HT.out.later HI.out.below) hlt
  have HTC:Hid (∀ i,i<tn→∀ w',Below W.heap.size W w'→w'.cell? ⟨b,off+i*4,none⟩=some (.int .u32 (T.getD i tk0).1)∧w'.cell? ⟨b,off+i*4+1,none⟩=some (.int .u8 (T.getD i tk0).2.1)∧w'.cell? ⟨b,off+i*4+2,none⟩=some (.int .u8 (T.getD i tk0).2.2.1)∧w'.cell? ⟨b,off+i*4+3,none⟩=some (.int .i64 (T.getD i tk0).2.2.2)):=hid fun i hi w' h=>by
   obtain⟨b',off',he,_,d0,d1,d2,d3⟩:=z1g (HT.out.later h) hi
   cases he
   exact⟨d0,d1,d2,d3⟩
  have hst:=HST.out j hlt
  generalize hx:T.getD j tk0=x at *
  obtain⟨o,a,r,q⟩:=x
  dsimp only at k0 k1 k2 k3
  have HX:=hid hx
  have HS:=hid hst
  clear hst hx
  -- the box of the take
  obtain⟨W1,hW1,hs1,hbx,hb1⟩:∃ W1,wr.alloc (.cells #[.int .u32 o,.int .u8 a,.int .u8 r,.int .i64 q] 73)=W1∧W1.heap.size=wr.heap.size+1∧W1.heap[wr.heap.size]?=some (.cells #[.int .u32 o,.int .u8 a,.int .u8 r,.int .i64 q] 73 (0,0))∧Below wr.heap.size wr W1:=⟨_,rfl,by simp,z0c wr _,(Below.refl _ _).alloc (Nat.le_refl _) _⟩
  have HW1:=hid hW1
  have HS1:=hid hs1
  have HBX:=hid hbx
  have HB1:=hid hb1
  clear hW1 hs1 hbx hb1
  have hszr:=HI.out.below.size
  go_wp2_with fail
  rw [HW1.out]
  obtain⟨x0,x1,x2,x3⟩:=z4a HBX.out
  rcases HI.out with ⟨hj0,hv0,hbw⟩ | ⟨H0,h0,S0,s0,hw,he,ht0,hr0,hj1⟩
  case inl =>
   subst hv0
   have hd0:((j:Int)==0)=true:=by simp [hj0]
   have HF:=hid ((((FillS.nil W).later hbw).later HB1.out).mono (Nat.zero_le j))
   have HHN:Hid (z1a t (T.take (j+1))=[] ++ [(t,r,[lnT (o,a,r,q)])]):=hid (by
    rw [HS.out,hj0]
    rfl)
   have HJ0:=hid hj0
   have HLT:Hid (∀ b,(Value.slice none 0 0).ownBlock=some b→b<wr.heap.size):=hid fun b hb=>by cases hb
   obtain⟨m,hm⟩:∃ m,([]:List Hs).length=m:=⟨_,rfl⟩
   have HM:=hid hm
   have HMJ:Hid (m≤j):=hid (by rw [← hm];exact Nat.zero_le _)
   clear hj0 hbw hm
   have HFA:=hid fun (z:Nat)=>HF.out.later (show Below W1.heap.size W1 ((W1.drewN z).alloc (.cells #[.int .u8 t,.int .u8 r,.slice none 0 0] 52)) from (z0e (Below.refl _ _) z).alloc (Nat.le_refl _) _)
   have HBA:=hid fun (z:Nat)=>z0b HBX.out (show Below W1.heap.size W1 ((W1.drewN z).alloc (.cells #[.int .u8 t,.int .u8 r,.slice none 0 0] 52)) from (z0e (Below.refl _ _) z).alloc (Nat.le_refl _) _)
   go_quiet (fail)
   go_upto_region 7 with (at_builtin;refine z1i (k:=3) (by decide) Tryz.underlying48 z4p rfl (by omega) rfl _ _ rfl (.slice none 0 0) m (z0n sc []) rfl (by rw [← HM.out];exact z2a (HFA.out _).own) (some ⟨W1.heap.size,0,none⟩) 1 1 (z0n sc [(t,r,none,0,0)]) rfl rfl (fun h=>by cases h) (z5p (c:=#[.int .u8 t,.int .u8 r,.slice none 0 0]) (z0c (W1.drewN _) _) rfl) (z1n z9l _) (by have:=HMJ.out;omega) ?_;intro p3 c3 w3 h1 h2 h3)
   have hF3:=(HFA.out _).app (H':=[(t,r,none,0,0)]) (S':=[(t,r,[])]) rfl ⟨⟨rfl,rfl,SlG.empty _⟩,trivial⟩ (fun h hh h0=>by obtain rfl:=List.mem_singleton.1 hh;exact absurd h0 (Nat.lt_irrefl 0)) (by rw [HM.out];exact h1) h2 (by rw [HM.out];exact h3)
   rw [HM.out] at hF3
   have hBX3:=(h2.block wr.heap.size (z0g (HBA.out _)) fun hb=>by have:=HLT.out _ hb;omega).trans (HBA.out _)
   obtain⟨g,hg,hgl⟩:∃ g,p3=some ⟨g,0,none⟩∧g≠wr.heap.size:=by
    rcases h1.2 with ⟨he,h0⟩ | ⟨g,cap,cur,he,_,hgb,_⟩
    · omega
    · cases he
      refine⟨g,rfl,fun hc=>?_⟩
      rw [hc,hBX3] at hgb
      cases hgb
   subst hg
   have HBX3:=hid hBX3
   have HG:=hid hgl
   have HW3:=hid (Hw.new hF3)
   have HIX:Hid (∀ b,(itm (t,r,none,0,0)).ownBlock=some b→b≠wr.heap.size):=hid fun b hb=>by cases hb
   clear h1 h2 h3 hF3 hBX3 hgl HF HFA HBA
   obtain⟨lq,hlq⟩:∃ lq,([]:List Ln).length=lq:=⟨_,rfl⟩
   have HLQ:=hid hlq
   have HLJ:Hid (lq≤j):=hid (by rw [← hlq];exact Nat.zero_le _)
   clear hlq
   have HSN:Hid (z6p t (z1a t (T.take j)) (o,a,r,q)=[] ++ [(t,r,[] ++ [(a,q)])]):=hid (by rw [HJ0.out];rfl)
   have hwm:wrap64 (m:Int)=m:=by have:=HMJ.out;unfold wrap64;omega
   have hm0:(0:Int)≤m:=by omega
   go_upto_region 8 with (fail)
   clear hwm hm0
   refine wp_region_held_drew (S:=fun w'=>Hid (w'.heap[wr.heap.size]?=some (.cells #[.int .u32 o,.int .u8 a,.int .u8 r,.int .i64 q] 73 (0,0)))) (by kernel_rfl) HBX3 (fun hHeld=>?_)
   refine wpAnyH_take (i:=0) (oi:=⟨some 41,_,_,_,_,_⟩) (v:=(.pointer (some ⟨g,m*3,none⟩))) rfl (by kernel_rfl) (by kernel_rfl) (by kernel_rfl) (fun _ _ _ h=>h) (Or.inl ⟨by rfl,fun w' hw'=>?_⟩) (by assumption) ?_
   · clear hHeld
     go_simp
   simp only [Act.put,sIB,sCZ,sCS]
   refine wpAnyH_take (i:=1) (oi:=⟨some 42,_,_,_,_,_⟩) (v:=(.pointer (some ⟨g,m*3,none⟩))) rfl (by kernel_rfl) (by kernel_rfl) (by kernel_rfl) (fun _ _ _ h=>h) (Or.inl ⟨by rfl,fun w' hw'=>?_⟩) (by assumption) ?_
   · clear hHeld
     go_simp
   simp only [Act.put,sIB,sCZ,sCS]
   refine wpAnyH_take (i:=2) (oi:=⟨some 43,_,_,_,_,_⟩) (v:=(.pointer (some ⟨g,m*3,none⟩))) rfl (by kernel_rfl) (by kernel_rfl) (by kernel_rfl) (fun _ _ _ h=>h) (Or.inl ⟨by rfl,fun w' hw'=>?_⟩) (by assumption) ?_
   · clear hHeld
     go_simp
   simp only [Act.put,sIB,sCZ,sCS]
   refine wpAnyH_take (i:=3) (oi:=⟨some 44,_,_,_,_,_⟩) (v:=(.pointer (some ⟨g,m*3+2,none⟩))) rfl (by kernel_rfl) (by kernel_rfl) (by kernel_rfl) (fun _ _ _ h=>h) (Or.inl ⟨by rfl,fun w' hw'=>?_⟩) (by assumption) ?_
   · clear hHeld
     go_simp
   simp only [Act.put,sIB,sCZ,sCS]
   refine wpAnyH_take (i:=5) (oi:=⟨some 46,_,_,_,_,_⟩) (v:=(.pointer (some ⟨wr.heap.size,1,none⟩))) rfl (by kernel_rfl) (by kernel_rfl) (by kernel_rfl) (fun _ _ _ h=>h) (Or.inl ⟨by rfl,fun w' hw'=>?_⟩) (by assumption) ?_
   · clear hHeld
     go_simp
   simp only [Act.put,sIB,sCZ,sCS]
   refine wpAnyH_take (i:=6) (oi:=⟨some 47,_,_,_,_,_⟩) (v:=(.int .u8 a)) rfl (by kernel_rfl) (by kernel_rfl) (by kernel_rfl) (fun _ _ _ h=>h) (Or.inl ⟨by rfl,fun w' hw'=>?_⟩) (by assumption) ?_
   · obtain⟨g0,g1,g2,g3⟩:=z4a hw'.out
     clear hHeld
     go_simp
   simp only [Act.put,sIB,sCZ,sCS]
   refine wpAnyH_take (i:=7) (oi:=⟨some 48,_,_,_,_,_⟩) (v:=(.pointer (some ⟨wr.heap.size,3,none⟩))) rfl (by kernel_rfl) (by kernel_rfl) (by kernel_rfl) (fun _ _ _ h=>h) (Or.inl ⟨by rfl,fun w' hw'=>?_⟩) (by assumption) ?_
   · clear hHeld
     go_simp
   simp only [Act.put,sIB,sCZ,sCS]
   refine wpAnyH_take (i:=8) (oi:=⟨some 49,_,_,_,_,_⟩) (v:=(.int .i64 q)) rfl (by kernel_rfl) (by kernel_rfl) (by kernel_rfl) (fun _ _ _ h=>h) (Or.inl ⟨by rfl,fun w' hw'=>?_⟩) (by assumption) ?_
   · obtain⟨g0,g1,g2,g3⟩:=z4a hw'.out
     clear hHeld
     go_simp
   simp only [Act.put,sIB,sCZ,sCS]
   refine wpAnyH_take (i:=9) (oi:=⟨some 50,_,_,_,_,_⟩) (v:=(.agg #[.int .u8 a,.int .i64 q])) rfl (by kernel_rfl) (by kernel_rfl) (by kernel_rfl) (fun _ _ _ h=>h) (Or.inl ⟨by rfl,fun w' hw'=>?_⟩) (by assumption) ?_
   · clear hHeld
     go_simp
   simp only [Act.put,sIB,sCZ,sCS]
   have HD:=hid (HW3.out.later (show Below w3.heap.size w3 w3.drew from (Below.refl _ _).drew))
   have HXD:Hid (w3.drew.heap[wr.heap.size]?=some (.cells #[.int .u32 o,.int .u8 a,.int .u8 r,.int .i64 q] 73 (0,0))):=HBX3
   generalize w3.drew=Wd at *
   refine wpAnyH_ready (rs:=[4,10]) (by kernel_rfl) (by simp) (AllReadyH.cons rfl (fun K hK=>?_) (AllReadyH.cons rfl (fun K hK=>?_) AllReadyH.nil))
   · have hv:=(z1k HD.out.fill.own).1
     rw [HM.out] at hv
     unfold itm at hv
     dsimp only at hv
     go_simp
     refine hK.out _ _ HXD (fun hHeld2=>?_)
     clear hK K hHeld
     have hHeld:=hHeld2
     clear hHeld2
     try simp only [Act.put,sIB,sCZ,sCS]
     clear hv
     refine wpAnyH_ready (rs:=[10]) (by kernel_rfl) (by simp) (AllReadyH.cons rfl (fun K hK=>?_) AllReadyH.nil)
     go_simp
     have HA2:=hid (HD.out.later (show Below Wd.heap.size Wd (Wd.alloc (.cells #[.int .u8 a,.int .i64 q] 76)) from (Below.refl _ _).alloc (Nat.le_refl _) _))
     have HX2:=hid (z0b HXD.out (show Below Wd.heap.size Wd (Wd.alloc (.cells #[.int .u8 a,.int .i64 q] 76)) from (Below.refl _ _).alloc (Nat.le_refl _) _))
     refine hK.out _ _ HX2 (fun hHeld2=>?_)
     clear hK K hHeld
     have hHeld:=hHeld2
     clear hHeld2
     try simp only [Act.put,sIB,sCZ,sCS]
     refine wpAnyH_ready (rs:=[11]) (by kernel_rfl) (by simp) (AllReadyH.cons rfl (fun K hK=>?_) AllReadyH.nil)
     refine z1b (k:=2) (by decide) Tryz.underlying23 z4q rfl (by omega) rfl (.tmp 45) (.tmp 51) rfl (.slice none 0 0) lq (z0n lc ([]:List Ln)) (by simp [Act.eval]) (by rw [← HLQ.out];exact z2a HA2.out.items) (some ⟨Wd.heap.size,0,none⟩) 1 1 (z0n lc [((a,q):Ln)]) (by simp [Act.eval]) rfl (fun h=>by cases h) (z4o Wd (a,q)) (z1n z8z _) (by have:=HLJ.out;omega) ?_
     intro p4 c4 w4 h1 h2 h3
     have HA3:=hid (HA2.out.app h1 h2 h3)
     have HX3:=hid ((h2.block wr.heap.size (z0g HX2.out) fun hb=>HIX.out _ hb rfl).trans HX2.out)
     clear h1 h2 h3
     refine hK.out _ _ HX3 (fun hHeld2=>?_)
     clear hK K hHeld
     have hHeld:=hHeld2
     clear hHeld2
     try simp only [Act.put,sIB,sCZ,sCS]
     refine wpAnyH_take (i:=12) (oi:=⟨some 53,_,_,_,_,_⟩) (v:=(.pointer (some ⟨g,m*3,none⟩))) rfl (by kernel_rfl) (by kernel_rfl) (by kernel_rfl) (fun _ _ _ h=>h) (Or.inl ⟨by rfl,fun w' hw'=>?_⟩) (by assumption) ?_
     · clear hHeld
       go_simp
     simp only [Act.put,sIB,sCZ,sCS]
     refine wpAnyH_take (i:=13) (oi:=⟨some 54,_,_,_,_,_⟩) (v:=(.pointer (some ⟨g,m*3+2,none⟩))) rfl (by kernel_rfl) (by kernel_rfl) (by kernel_rfl) (fun _ _ _ h=>h) (Or.inl ⟨by rfl,fun w' hw'=>?_⟩) (by assumption) ?_
     · clear hHeld
       go_simp
     simp only [Act.put,sIB,sCZ,sCS]
     refine wpAnyH_ready (rs:=[14]) (by kernel_rfl) (by simp) (AllReadyH.cons rfl (fun K hK=>?_) AllReadyH.nil)
     have hc2:=(z1k HA3.out.own).1
     have hfz:=(z1k HA3.out.own).2
     rw [HM.out] at hc2 hfz
     have hA4:=HA3.out.put
     rw [HM.out] at hA4
     have HA4:=hid hA4
     have HX4:Hid ((w4.setCell ⟨g,m*3+2,none⟩ (.slice p4 (lq+1) c4)).heap[wr.heap.size]?=_):=hid ((Below.heap_setCell _ _ _ _ (fun hc=>HG.out hc.symm)).trans HX3.out)
     clear hA4
     go_simp
     refine hK.out _ _ HX4 (fun hHeld2=>?_)
     clear hc2 hfz
     clear hK K hHeld
     have hHeld:=hHeld2
     clear hHeld2
     try simp only [Act.put,sIB,sCZ,sCS]
     refine wpAnyH_done (by kernel_rfl) ?_ _
     clear hHeld
     go_wp2_with fail
     go_roundw
     case rel=>exact⟨j+1,by omega,by go_num,hid (.inr ⟨_,_,_,_,HA4.out.mono (Nat.le_refl (j+1)),by rw [HS.out];exact HSN.out.symm,rfl,by rw [Nat.add_sub_cancel,HX.out],by omega⟩)⟩
     case measure=>simp [Go.RowKit.intOf];omega
   · go_simp
     have HA2:=hid (HD.out.later (show Below Wd.heap.size Wd (Wd.alloc (.cells #[.int .u8 a,.int .i64 q] 76)) from (Below.refl _ _).alloc (Nat.le_refl _) _))
     have HX2:=hid (z0b HXD.out (show Below Wd.heap.size Wd (Wd.alloc (.cells #[.int .u8 a,.int .i64 q] 76)) from (Below.refl _ _).alloc (Nat.le_refl _) _))
     refine hK.out _ _ HX2 (fun hHeld2=>?_)
     clear hK K hHeld
     have hHeld:=hHeld2
     clear hHeld2
     try simp only [Act.put,sIB,sCZ,sCS]
     refine wpAnyH_ready (rs:=[4]) (by kernel_rfl) (by simp) (AllReadyH.cons rfl (fun K hK=>?_) AllReadyH.nil)
     have hv:=(z1k HA2.out.fill.own).1
     rw [HM.out] at hv
     unfold itm at hv
     dsimp only at hv
     go_simp
     refine hK.out _ _ HX2 (fun hHeld2=>?_)
     clear hK K hHeld
     have hHeld:=hHeld2
     clear hHeld2
     try simp only [Act.put,sIB,sCZ,sCS]
     clear hv
     refine wpAnyH_ready (rs:=[11]) (by kernel_rfl) (by simp) (AllReadyH.cons rfl (fun K hK=>?_) AllReadyH.nil)
     refine z1b (k:=2) (by decide) Tryz.underlying23 z4q rfl (by omega) rfl (.tmp 45) (.tmp 51) rfl (.slice none 0 0) lq (z0n lc ([]:List Ln)) (by simp [Act.eval]) (by rw [← HLQ.out];exact z2a HA2.out.items) (some ⟨Wd.heap.size,0,none⟩) 1 1 (z0n lc [((a,q):Ln)]) (by simp [Act.eval]) rfl (fun h=>by cases h) (z4o Wd (a,q)) (z1n z8z _) (by have:=HLJ.out;omega) ?_
     intro p4 c4 w4 h1 h2 h3
     have HA3:=hid (HA2.out.app h1 h2 h3)
     have HX3:=hid ((h2.block wr.heap.size (z0g HX2.out) fun hb=>HIX.out _ hb rfl).trans HX2.out)
     clear h1 h2 h3
     refine hK.out _ _ HX3 (fun hHeld2=>?_)
     clear hK K hHeld
     have hHeld:=hHeld2
     clear hHeld2
     try simp only [Act.put,sIB,sCZ,sCS]
     refine wpAnyH_take (i:=12) (oi:=⟨some 53,_,_,_,_,_⟩) (v:=(.pointer (some ⟨g,m*3,none⟩))) rfl (by kernel_rfl) (by kernel_rfl) (by kernel_rfl) (fun _ _ _ h=>h) (Or.inl ⟨by rfl,fun w' hw'=>?_⟩) (by assumption) ?_
     · clear hHeld
       go_simp
     simp only [Act.put,sIB,sCZ,sCS]
     refine wpAnyH_take (i:=13) (oi:=⟨some 54,_,_,_,_,_⟩) (v:=(.pointer (some ⟨g,m*3+2,none⟩))) rfl (by kernel_rfl) (by kernel_rfl) (by kernel_rfl) (fun _ _ _ h=>h) (Or.inl ⟨by rfl,fun w' hw'=>?_⟩) (by assumption) ?_
     · clear hHeld
       go_simp
     simp only [Act.put,sIB,sCZ,sCS]
     refine wpAnyH_ready (rs:=[14]) (by kernel_rfl) (by simp) (AllReadyH.cons rfl (fun K hK=>?_) AllReadyH.nil)
     have hc2:=(z1k HA3.out.own).1
     have hfz:=(z1k HA3.out.own).2
     rw [HM.out] at hc2 hfz
     have hA4:=HA3.out.put
     rw [HM.out] at hA4
     have HA4:=hid hA4
     have HX4:Hid ((w4.setCell ⟨g,m*3+2,none⟩ (.slice p4 (lq+1) c4)).heap[wr.heap.size]?=_):=hid ((Below.heap_setCell _ _ _ _ (fun hc=>HG.out hc.symm)).trans HX3.out)
     clear hA4
     go_simp
     refine hK.out _ _ HX4 (fun hHeld2=>?_)
     clear hc2 hfz
     clear hK K hHeld
     have hHeld:=hHeld2
     clear hHeld2
     try simp only [Act.put,sIB,sCZ,sCS]
     refine wpAnyH_done (by kernel_rfl) ?_ _
     clear hHeld
     go_wp2_with fail
     go_roundw
     case rel=>exact⟨j+1,by omega,by go_num,hid (.inr ⟨_,_,_,_,HA4.out.mono (Nat.le_refl (j+1)),by rw [HS.out];exact HSN.out.symm,rfl,by rw [Nat.add_sub_cancel,HX.out],by omega⟩)⟩
     case measure=>simp [Go.RowKit.intOf];omega
  case inr =>
   have hj0:¬ j=0:=by omega
   have hd0:((j:Int)==0)=false:=by simp;omega
   obtain⟨k,hk⟩:∃ k,j=k+1:=⟨j-1,by omega⟩
   have hji:(j:Int)-1=k:=by omega
   have hkn:(k:Int)<tn:=by omega
   obtain⟨y0,y1,y2,y3⟩:=HTC.out k (by omega) W1 (hw.fill.below.trans (HB1.out.mono hszr))
   obtain⟨S',L',q',R⟩:=z9u t T j hj1 (by rw [HT.out.len];exact hj)
   have hRL:s0.2.2.length≤j:=by
    have:=he.trans R.eq
    have h2:=(List.append_inj' this rfl).2
    simp only [List.cons.injEq,and_true] at h2
    rw [h2]
    have h3:=R.len
    have h4:=R.le
    dsimp only
    omega
   have e1:j-1=k:=by omega
   rw [e1] at hr0
   clear R
   generalize T.getD k tk0=y at *
   obtain⟨yo,ya,yr,yq⟩:=y
   dsimp only at y0 y1 y2 y3 hr0
   have HJ1:=hid hj1
   have HHE:=hid he
   have HLT:Hid (∀ b,u5.ownBlock=some b→b<wr.heap.size):=hid fun b hb=>(hw.fill.own.lt b hb).2
   obtain⟨s1,s2,Lq⟩:=s0
   dsimp only at ht0 hr0 hRL
   replace ht0:=ht0.symm
   replace hr0:=hr0.symm
   subst ht0 hr0
   have hmj:H0.length+1≤j:=by have:=hw.fill.most;rwa [List.length_append,List.length_singleton] at this
   have HWR:=hid hw
   clear he hk hj1 e1 hj0 hw
   by_cases hrr:yr=r
   case neg =>
    have hd1:(r != yr)=true:=by simpa using fun h=>hrr h.symm
    obtain⟨m,hm⟩:∃ m,(H0 ++ [h0]).length=m:=⟨_,rfl⟩
    have HM:=hid hm
    have HMJ:Hid (m≤j):=hid (by rw [← hm,List.length_append,List.length_singleton];exact hmj)
    have HF:=hid (HWR.out.fill.later HB1.out)
    have HRR:=hid hrr
    clear hmj hm HWR hrr hRL
    have HFA:=hid fun (z:Nat)=>HF.out.later (show Below W1.heap.size W1 ((W1.drewN z).alloc (.cells #[.int .u8 t,.int .u8 r,.slice none 0 0] 52)) from (z0e (Below.refl _ _) z).alloc (Nat.le_refl _) _)
    have HBA:=hid fun (z:Nat)=>z0b HBX.out (show Below W1.heap.size W1 ((W1.drewN z).alloc (.cells #[.int .u8 t,.int .u8 r,.slice none 0 0] 52)) from (z0e (Below.refl _ _) z).alloc (Nat.le_refl _) _)
    go_quiet (fail)
    go_upto_region 7 with (at_builtin;refine z1i (k:=3) (by decide) Tryz.underlying48 z4p rfl (by omega) rfl _ _ rfl u5 m (z0n sc (H0 ++ [h0])) rfl (by rw [← HM.out];exact z2a (HFA.out _).own) (some ⟨W1.heap.size,0,none⟩) 1 1 (z0n sc [(t,r,none,0,0)]) rfl rfl (fun h=>by cases h) (z5p (c:=#[.int .u8 t,.int .u8 r,.slice none 0 0]) (z0c (W1.drewN _) _) rfl) (z1n z9l _) (by have:=HMJ.out;omega) ?_;intro p3 c3 w3 h1 h2 h3)
    have hF3:=(HFA.out _).app (H':=[(t,r,none,0,0)]) (S':=[(t,r,[])]) rfl ⟨⟨rfl,rfl,SlG.empty _⟩,trivial⟩ (fun h hh h0=>by obtain rfl:=List.mem_singleton.1 hh;exact absurd h0 (Nat.lt_irrefl 0)) (by rw [HM.out];exact h1) h2 (by rw [HM.out];exact h3)
    rw [HM.out] at hF3
    have hBX3:=(h2.block wr.heap.size (z0g (HBA.out _)) fun hb=>by have:=HLT.out _ hb;omega).trans (HBA.out _)
    obtain⟨g,hg,hgl⟩:∃ g,p3=some ⟨g,0,none⟩∧g≠wr.heap.size:=by
     rcases h1.2 with ⟨he,h0⟩ | ⟨g,cap,cur,he,_,hgb,_⟩
     · omega
     · cases he
       refine⟨g,rfl,fun hc=>?_⟩
       rw [hc,hBX3] at hgb
       cases hgb
    subst hg
    have HBX3:=hid hBX3
    have HG:=hid hgl
    have HW3:=hid (Hw.new hF3)
    have HIX:Hid (∀ b,(itm (t,r,none,0,0)).ownBlock=some b→b≠wr.heap.size):=hid fun b hb=>by cases hb
    clear h1 h2 h3 hF3 hBX3 hgl HF HFA HBA
    obtain⟨lq,hlq⟩:∃ lq,([]:List Ln).length=lq:=⟨_,rfl⟩
    have HLQ:=hid hlq
    have HLJ:Hid (lq≤j):=hid (by rw [← hlq];exact Nat.zero_le _)
    clear hlq
    have HSN:Hid (z6p t (z1a t (T.take j)) (o,a,r,q)=(S0 ++ [(t,yr,Lq)]) ++ [(t,r,[] ++ [(a,q)])]):=hid (by rw [← HHE.out];exact z7j t S0 _ _ HRR.out)
    have hwm:wrap64 (m:Int)=m:=by have:=HMJ.out;unfold wrap64;omega
    have hm0:(0:Int)≤m:=by omega
    go_upto_region 8 with (fail)
    clear hwm hm0
    refine wp_region_held_drew (S:=fun w'=>Hid (w'.heap[wr.heap.size]?=some (.cells #[.int .u32 o,.int .u8 a,.int .u8 r,.int .i64 q] 73 (0,0)))) (by kernel_rfl) HBX3 (fun hHeld=>?_)
    refine wpAnyH_take (i:=0) (oi:=⟨some 41,_,_,_,_,_⟩) (v:=(.pointer (some ⟨g,m*3,none⟩))) rfl (by kernel_rfl) (by kernel_rfl) (by kernel_rfl) (fun _ _ _ h=>h) (Or.inl ⟨by rfl,fun w' hw'=>?_⟩) (by assumption) ?_
    · clear hHeld
      go_simp
    simp only [Act.put,sIB,sCZ,sCS]
    refine wpAnyH_take (i:=1) (oi:=⟨some 42,_,_,_,_,_⟩) (v:=(.pointer (some ⟨g,m*3,none⟩))) rfl (by kernel_rfl) (by kernel_rfl) (by kernel_rfl) (fun _ _ _ h=>h) (Or.inl ⟨by rfl,fun w' hw'=>?_⟩) (by assumption) ?_
    · clear hHeld
      go_simp
    simp only [Act.put,sIB,sCZ,sCS]
    refine wpAnyH_take (i:=2) (oi:=⟨some 43,_,_,_,_,_⟩) (v:=(.pointer (some ⟨g,m*3,none⟩))) rfl (by kernel_rfl) (by kernel_rfl) (by kernel_rfl) (fun _ _ _ h=>h) (Or.inl ⟨by rfl,fun w' hw'=>?_⟩) (by assumption) ?_
    · clear hHeld
      go_simp
    simp only [Act.put,sIB,sCZ,sCS]
    refine wpAnyH_take (i:=3) (oi:=⟨some 44,_,_,_,_,_⟩) (v:=(.pointer (some ⟨g,m*3+2,none⟩))) rfl (by kernel_rfl) (by kernel_rfl) (by kernel_rfl) (fun _ _ _ h=>h) (Or.inl ⟨by rfl,fun w' hw'=>?_⟩) (by assumption) ?_
    · clear hHeld
      go_simp
    simp only [Act.put,sIB,sCZ,sCS]
    refine wpAnyH_take (i:=5) (oi:=⟨some 46,_,_,_,_,_⟩) (v:=(.pointer (some ⟨wr.heap.size,1,none⟩))) rfl (by kernel_rfl) (by kernel_rfl) (by kernel_rfl) (fun _ _ _ h=>h) (Or.inl ⟨by rfl,fun w' hw'=>?_⟩) (by assumption) ?_
    · clear hHeld
      go_simp
    simp only [Act.put,sIB,sCZ,sCS]
    refine wpAnyH_take (i:=6) (oi:=⟨some 47,_,_,_,_,_⟩) (v:=(.int .u8 a)) rfl (by kernel_rfl) (by kernel_rfl) (by kernel_rfl) (fun _ _ _ h=>h) (Or.inl ⟨by rfl,fun w' hw'=>?_⟩) (by assumption) ?_
    · obtain⟨g0,g1,g2,g3⟩:=z4a hw'.out
      clear hHeld
      go_simp
    simp only [Act.put,sIB,sCZ,sCS]
    refine wpAnyH_take (i:=7) (oi:=⟨some 48,_,_,_,_,_⟩) (v:=(.pointer (some ⟨wr.heap.size,3,none⟩))) rfl (by kernel_rfl) (by kernel_rfl) (by kernel_rfl) (fun _ _ _ h=>h) (Or.inl ⟨by rfl,fun w' hw'=>?_⟩) (by assumption) ?_
    · clear hHeld
      go_simp
    simp only [Act.put,sIB,sCZ,sCS]
    refine wpAnyH_take (i:=8) (oi:=⟨some 49,_,_,_,_,_⟩) (v:=(.int .i64 q)) rfl (by kernel_rfl) (by kernel_rfl) (by kernel_rfl) (fun _ _ _ h=>h) (Or.inl ⟨by rfl,fun w' hw'=>?_⟩) (by assumption) ?_
    · obtain⟨g0,g1,g2,g3⟩:=z4a hw'.out
      clear hHeld
      go_simp
    simp only [Act.put,sIB,sCZ,sCS]
    refine wpAnyH_take (i:=9) (oi:=⟨some 50,_,_,_,_,_⟩) (v:=(.agg #[.int .u8 a,.int .i64 q])) rfl (by kernel_rfl) (by kernel_rfl) (by kernel_rfl) (fun _ _ _ h=>h) (Or.inl ⟨by rfl,fun w' hw'=>?_⟩) (by assumption) ?_
    · clear hHeld
      go_simp
    simp only [Act.put,sIB,sCZ,sCS]
    have HD:=hid (HW3.out.later (show Below w3.heap.size w3 w3.drew from (Below.refl _ _).drew))
    have HXD:Hid (w3.drew.heap[wr.heap.size]?=some (.cells #[.int .u32 o,.int .u8 a,.int .u8 r,.int .i64 q] 73 (0,0))):=HBX3
    generalize w3.drew=Wd at *
    refine wpAnyH_ready (rs:=[4,10]) (by kernel_rfl) (by simp) (AllReadyH.cons rfl (fun K hK=>?_) (AllReadyH.cons rfl (fun K hK=>?_) AllReadyH.nil))
    · have hv:=(z1k HD.out.fill.own).1
      rw [HM.out] at hv
      unfold itm at hv
      dsimp only at hv
      go_simp
      refine hK.out _ _ HXD (fun hHeld2=>?_)
      clear hK K hHeld
      have hHeld:=hHeld2
      clear hHeld2
      try simp only [Act.put,sIB,sCZ,sCS]
      clear hv
      refine wpAnyH_ready (rs:=[10]) (by kernel_rfl) (by simp) (AllReadyH.cons rfl (fun K hK=>?_) AllReadyH.nil)
      go_simp
      have HA2:=hid (HD.out.later (show Below Wd.heap.size Wd (Wd.alloc (.cells #[.int .u8 a,.int .i64 q] 76)) from (Below.refl _ _).alloc (Nat.le_refl _) _))
      have HX2:=hid (z0b HXD.out (show Below Wd.heap.size Wd (Wd.alloc (.cells #[.int .u8 a,.int .i64 q] 76)) from (Below.refl _ _).alloc (Nat.le_refl _) _))
      refine hK.out _ _ HX2 (fun hHeld2=>?_)
      clear hK K hHeld
      have hHeld:=hHeld2
      clear hHeld2
      try simp only [Act.put,sIB,sCZ,sCS]
      refine wpAnyH_ready (rs:=[11]) (by kernel_rfl) (by simp) (AllReadyH.cons rfl (fun K hK=>?_) AllReadyH.nil)
      refine z1b (k:=2) (by decide) Tryz.underlying23 z4q rfl (by omega) rfl (.tmp 45) (.tmp 51) rfl (.slice none 0 0) lq (z0n lc ([]:List Ln)) (by simp [Act.eval]) (by rw [← HLQ.out];exact z2a HA2.out.items) (some ⟨Wd.heap.size,0,none⟩) 1 1 (z0n lc [((a,q):Ln)]) (by simp [Act.eval]) rfl (fun h=>by cases h) (z4o Wd (a,q)) (z1n z8z _) (by have:=HLJ.out;omega) ?_
      intro p4 c4 w4 h1 h2 h3
      have HA3:=hid (HA2.out.app h1 h2 h3)
      have HX3:=hid ((h2.block wr.heap.size (z0g HX2.out) fun hb=>HIX.out _ hb rfl).trans HX2.out)
      clear h1 h2 h3
      refine hK.out _ _ HX3 (fun hHeld2=>?_)
      clear hK K hHeld
      have hHeld:=hHeld2
      clear hHeld2
      try simp only [Act.put,sIB,sCZ,sCS]
      refine wpAnyH_take (i:=12) (oi:=⟨some 53,_,_,_,_,_⟩) (v:=(.pointer (some ⟨g,m*3,none⟩))) rfl (by kernel_rfl) (by kernel_rfl) (by kernel_rfl) (fun _ _ _ h=>h) (Or.inl ⟨by rfl,fun w' hw'=>?_⟩) (by assumption) ?_
      · clear hHeld
        go_simp
      simp only [Act.put,sIB,sCZ,sCS]
      refine wpAnyH_take (i:=13) (oi:=⟨some 54,_,_,_,_,_⟩) (v:=(.pointer (some ⟨g,m*3+2,none⟩))) rfl (by kernel_rfl) (by kernel_rfl) (by kernel_rfl) (fun _ _ _ h=>h) (Or.inl ⟨by rfl,fun w' hw'=>?_⟩) (by assumption) ?_
      · clear hHeld
        go_simp
      simp only [Act.put,sIB,sCZ,sCS]
      refine wpAnyH_ready (rs:=[14]) (by kernel_rfl) (by simp) (AllReadyH.cons rfl (fun K hK=>?_) AllReadyH.nil)
      have hc2:=(z1k HA3.out.own).1
      have hfz:=(z1k HA3.out.own).2
      rw [HM.out] at hc2 hfz
      have hA4:=HA3.out.put
      rw [HM.out] at hA4
      have HA4:=hid hA4
      have HX4:Hid ((w4.setCell ⟨g,m*3+2,none⟩ (.slice p4 (lq+1) c4)).heap[wr.heap.size]?=_):=hid ((Below.heap_setCell _ _ _ _ (fun hc=>HG.out hc.symm)).trans HX3.out)
      clear hA4
      go_simp
      refine hK.out _ _ HX4 (fun hHeld2=>?_)
      clear hc2 hfz
      clear hK K hHeld
      have hHeld:=hHeld2
      clear hHeld2
      try simp only [Act.put,sIB,sCZ,sCS]
      refine wpAnyH_done (by kernel_rfl) ?_ _
      clear hHeld
      go_wp2_with fail
      go_roundw
      case rel=>exact⟨j+1,by omega,by go_num,hid (.inr ⟨_,_,_,_,HA4.out.mono (Nat.le_refl (j+1)),by rw [HS.out];exact HSN.out.symm,rfl,by rw [Nat.add_sub_cancel,HX.out],by omega⟩)⟩
      case measure=>simp [Go.RowKit.intOf];omega
    · go_simp
      have HA2:=hid (HD.out.later (show Below Wd.heap.size Wd (Wd.alloc (.cells #[.int .u8 a,.int .i64 q] 76)) from (Below.refl _ _).alloc (Nat.le_refl _) _))
      have HX2:=hid (z0b HXD.out (show Below Wd.heap.size Wd (Wd.alloc (.cells #[.int .u8 a,.int .i64 q] 76)) from (Below.refl _ _).alloc (Nat.le_refl _) _))
      refine hK.out _ _ HX2 (fun hHeld2=>?_)
      clear hK K hHeld
      have hHeld:=hHeld2
      clear hHeld2
      try simp only [Act.put,sIB,sCZ,sCS]
      refine wpAnyH_ready (rs:=[4]) (by kernel_rfl) (by simp) (AllReadyH.cons rfl (fun K hK=>?_) AllReadyH.nil)
      have hv:=(z1k HA2.out.fill.own).1
      rw [HM.out] at hv
      unfold itm at hv
      dsimp only at hv
      go_simp
      refine hK.out _ _ HX2 (fun hHeld2=>?_)
      clear hK K hHeld
      have hHeld:=hHeld2
      clear hHeld2
      try simp only [Act.put,sIB,sCZ,sCS]
      clear hv
      refine wpAnyH_ready (rs:=[11]) (by kernel_rfl) (by simp) (AllReadyH.cons rfl (fun K hK=>?_) AllReadyH.nil)
      refine z1b (k:=2) (by decide) Tryz.underlying23 z4q rfl (by omega) rfl (.tmp 45) (.tmp 51) rfl (.slice none 0 0) lq (z0n lc ([]:List Ln)) (by simp [Act.eval]) (by rw [← HLQ.out];exact z2a HA2.out.items) (some ⟨Wd.heap.size,0,none⟩) 1 1 (z0n lc [((a,q):Ln)]) (by simp [Act.eval]) rfl (fun h=>by cases h) (z4o Wd (a,q)) (z1n z8z _) (by have:=HLJ.out;omega) ?_
      intro p4 c4 w4 h1 h2 h3
      have HA3:=hid (HA2.out.app h1 h2 h3)
      have HX3:=hid ((h2.block wr.heap.size (z0g HX2.out) fun hb=>HIX.out _ hb rfl).trans HX2.out)
      clear h1 h2 h3
      refine hK.out _ _ HX3 (fun hHeld2=>?_)
      clear hK K hHeld
      have hHeld:=hHeld2
      clear hHeld2
      try simp only [Act.put,sIB,sCZ,sCS]
      refine wpAnyH_take (i:=12) (oi:=⟨some 53,_,_,_,_,_⟩) (v:=(.pointer (some ⟨g,m*3,none⟩))) rfl (by kernel_rfl) (by kernel_rfl) (by kernel_rfl) (fun _ _ _ h=>h) (Or.inl ⟨by rfl,fun w' hw'=>?_⟩) (by assumption) ?_
      · clear hHeld
        go_simp
      simp only [Act.put,sIB,sCZ,sCS]
      refine wpAnyH_take (i:=13) (oi:=⟨some 54,_,_,_,_,_⟩) (v:=(.pointer (some ⟨g,m*3+2,none⟩))) rfl (by kernel_rfl) (by kernel_rfl) (by kernel_rfl) (fun _ _ _ h=>h) (Or.inl ⟨by rfl,fun w' hw'=>?_⟩) (by assumption) ?_
      · clear hHeld
        go_simp
      simp only [Act.put,sIB,sCZ,sCS]
      refine wpAnyH_ready (rs:=[14]) (by kernel_rfl) (by simp) (AllReadyH.cons rfl (fun K hK=>?_) AllReadyH.nil)
      have hc2:=(z1k HA3.out.own).1
      have hfz:=(z1k HA3.out.own).2
      rw [HM.out] at hc2 hfz
      have hA4:=HA3.out.put
      rw [HM.out] at hA4
      have HA4:=hid hA4
      have HX4:Hid ((w4.setCell ⟨g,m*3+2,none⟩ (.slice p4 (lq+1) c4)).heap[wr.heap.size]?=_):=hid ((Below.heap_setCell _ _ _ _ (fun hc=>HG.out hc.symm)).trans HX3.out)
      clear hA4
      go_simp
      refine hK.out _ _ HX4 (fun hHeld2=>?_)
      clear hc2 hfz
      clear hK K hHeld
      have hHeld:=hHeld2
      clear hHeld2
      try simp only [Act.put,sIB,sCZ,sCS]
      refine wpAnyH_done (by kernel_rfl) ?_ _
      clear hHeld
      go_wp2_with fail
      go_roundw
      case rel=>exact⟨j+1,by omega,by go_num,hid (.inr ⟨_,_,_,_,HA4.out.mono (Nat.le_refl (j+1)),by rw [HS.out];exact HSN.out.symm,rfl,by rw [Nat.add_sub_cancel,HX.out],by omega⟩)⟩
      case measure=>simp [Go.RowKit.intOf];omega
   case pos =>
    have hd1:(r != yr)=false:=by simp [hrr]
    have HRR:=hid hrr
    obtain⟨m,hm⟩:∃ m,H0.length=m:=⟨_,rfl⟩
    have HM:=hid hm
    rw [hm] at hmj
    have HMJ:Hid (m≤j):=hid (by omega)
    obtain⟨g,c3,hv⟩:∃ g c3,u5=.slice (some ⟨g,0,none⟩) (m+1) c3:=by
     rcases HWR.out.fill.own.2 with ⟨_,h0⟩ | ⟨g,cap,cur,hv,_⟩
     · simp at h0
     · rw [List.length_append,List.length_singleton,hm] at hv
       exact⟨g,cap,hv⟩
    subst hv
    have HG:Hid (g≠wr.heap.size):=hid (Nat.ne_of_lt (HLT.out g rfl))
    have HIX:Hid (∀ b,(itm h0).ownBlock=some b→b≠wr.heap.size):=hid fun b hb=>Nat.ne_of_lt (HWR.out.items.lt b hb).2
    obtain⟨i1,i2,ip,il,ic⟩:=h0
    obtain⟨lq,hlq⟩:∃ lq,Lq.length=lq:=⟨_,rfl⟩
    have HLQ:=hid hlq
    have HLJ:Hid (lq≤j):=hid (by rw [← hlq];exact hRL)
    have HSN:Hid (z6p t (z1a t (T.take j)) (o,a,r,q)=S0 ++ [(t,yr,Lq ++ [(a,q)])]):=hid (by rw [← HHE.out];exact z6d t S0 _ _ hrr)
    clear hlq hRL hm hmj hrr
    go_quiet (fail)
    have HW3:=hid ((HWR.out.later HB1.out).later (z0e (Below.refl _ _) nq))
    have HBX3:Hid ((W1.drewN nq).heap[wr.heap.size]?=some (.cells #[.int .u32 o,.int .u8 a,.int .u8 r,.int .i64 q] 73 (0,0))):=HBX
    clear x0 x1 x2 x3 y0 y1 y2 y3
    generalize W1.drewN nq=w3 at *
    have hwm:wrap64 (m:Int)=m:=by have:=HMJ.out;unfold wrap64;omega
    have hm0:(0:Int)≤m:=by omega
    go_upto_region 8 with (fail)
    clear hwm hm0
    refine wp_region_held_drew (S:=fun w'=>Hid (w'.heap[wr.heap.size]?=some (.cells #[.int .u32 o,.int .u8 a,.int .u8 r,.int .i64 q] 73 (0,0)))) (by kernel_rfl) HBX3 (fun hHeld=>?_)
    refine wpAnyH_take (i:=0) (oi:=⟨some 41,_,_,_,_,_⟩) (v:=(.pointer (some ⟨g,m*3,none⟩))) rfl (by kernel_rfl) (by kernel_rfl) (by kernel_rfl) (fun _ _ _ h=>h) (Or.inl ⟨by rfl,fun w' hw'=>?_⟩) (by assumption) ?_
    · clear hHeld
      go_simp
    simp only [Act.put,sIB,sCZ,sCS]
    refine wpAnyH_take (i:=1) (oi:=⟨some 42,_,_,_,_,_⟩) (v:=(.pointer (some ⟨g,m*3,none⟩))) rfl (by kernel_rfl) (by kernel_rfl) (by kernel_rfl) (fun _ _ _ h=>h) (Or.inl ⟨by rfl,fun w' hw'=>?_⟩) (by assumption) ?_
    · clear hHeld
      go_simp
    simp only [Act.put,sIB,sCZ,sCS]
    refine wpAnyH_take (i:=2) (oi:=⟨some 43,_,_,_,_,_⟩) (v:=(.pointer (some ⟨g,m*3,none⟩))) rfl (by kernel_rfl) (by kernel_rfl) (by kernel_rfl) (fun _ _ _ h=>h) (Or.inl ⟨by rfl,fun w' hw'=>?_⟩) (by assumption) ?_
    · clear hHeld
      go_simp
    simp only [Act.put,sIB,sCZ,sCS]
    refine wpAnyH_take (i:=3) (oi:=⟨some 44,_,_,_,_,_⟩) (v:=(.pointer (some ⟨g,m*3+2,none⟩))) rfl (by kernel_rfl) (by kernel_rfl) (by kernel_rfl) (fun _ _ _ h=>h) (Or.inl ⟨by rfl,fun w' hw'=>?_⟩) (by assumption) ?_
    · clear hHeld
      go_simp
    simp only [Act.put,sIB,sCZ,sCS]
    refine wpAnyH_take (i:=5) (oi:=⟨some 46,_,_,_,_,_⟩) (v:=(.pointer (some ⟨wr.heap.size,1,none⟩))) rfl (by kernel_rfl) (by kernel_rfl) (by kernel_rfl) (fun _ _ _ h=>h) (Or.inl ⟨by rfl,fun w' hw'=>?_⟩) (by assumption) ?_
    · clear hHeld
      go_simp
    simp only [Act.put,sIB,sCZ,sCS]
    refine wpAnyH_take (i:=6) (oi:=⟨some 47,_,_,_,_,_⟩) (v:=(.int .u8 a)) rfl (by kernel_rfl) (by kernel_rfl) (by kernel_rfl) (fun _ _ _ h=>h) (Or.inl ⟨by rfl,fun w' hw'=>?_⟩) (by assumption) ?_
    · obtain⟨g0,g1,g2,g3⟩:=z4a hw'.out
      clear hHeld
      go_simp
    simp only [Act.put,sIB,sCZ,sCS]
    refine wpAnyH_take (i:=7) (oi:=⟨some 48,_,_,_,_,_⟩) (v:=(.pointer (some ⟨wr.heap.size,3,none⟩))) rfl (by kernel_rfl) (by kernel_rfl) (by kernel_rfl) (fun _ _ _ h=>h) (Or.inl ⟨by rfl,fun w' hw'=>?_⟩) (by assumption) ?_
    · clear hHeld
      go_simp
    simp only [Act.put,sIB,sCZ,sCS]
    refine wpAnyH_take (i:=8) (oi:=⟨some 49,_,_,_,_,_⟩) (v:=(.int .i64 q)) rfl (by kernel_rfl) (by kernel_rfl) (by kernel_rfl) (fun _ _ _ h=>h) (Or.inl ⟨by rfl,fun w' hw'=>?_⟩) (by assumption) ?_
    · obtain⟨g0,g1,g2,g3⟩:=z4a hw'.out
      clear hHeld
      go_simp
    simp only [Act.put,sIB,sCZ,sCS]
    refine wpAnyH_take (i:=9) (oi:=⟨some 50,_,_,_,_,_⟩) (v:=(.agg #[.int .u8 a,.int .i64 q])) rfl (by kernel_rfl) (by kernel_rfl) (by kernel_rfl) (fun _ _ _ h=>h) (Or.inl ⟨by rfl,fun w' hw'=>?_⟩) (by assumption) ?_
    · clear hHeld
      go_simp
    simp only [Act.put,sIB,sCZ,sCS]
    have HD:=hid (HW3.out.later (show Below w3.heap.size w3 w3.drew from (Below.refl _ _).drew))
    have HXD:Hid (w3.drew.heap[wr.heap.size]?=some (.cells #[.int .u32 o,.int .u8 a,.int .u8 r,.int .i64 q] 73 (0,0))):=HBX3
    generalize w3.drew=Wd at *
    refine wpAnyH_ready (rs:=[4,10]) (by kernel_rfl) (by simp) (AllReadyH.cons rfl (fun K hK=>?_) (AllReadyH.cons rfl (fun K hK=>?_) AllReadyH.nil))
    · have hv:=(z1k HD.out.fill.own).1
      rw [HM.out] at hv
      unfold itm at hv
      dsimp only at hv
      go_simp
      refine hK.out _ _ HXD (fun hHeld2=>?_)
      clear hK K hHeld
      have hHeld:=hHeld2
      clear hHeld2
      try simp only [Act.put,sIB,sCZ,sCS]
      clear hv
      refine wpAnyH_ready (rs:=[10]) (by kernel_rfl) (by simp) (AllReadyH.cons rfl (fun K hK=>?_) AllReadyH.nil)
      go_simp
      have HA2:=hid (HD.out.later (show Below Wd.heap.size Wd (Wd.alloc (.cells #[.int .u8 a,.int .i64 q] 76)) from (Below.refl _ _).alloc (Nat.le_refl _) _))
      have HX2:=hid (z0b HXD.out (show Below Wd.heap.size Wd (Wd.alloc (.cells #[.int .u8 a,.int .i64 q] 76)) from (Below.refl _ _).alloc (Nat.le_refl _) _))
      refine hK.out _ _ HX2 (fun hHeld2=>?_)
      clear hK K hHeld
      have hHeld:=hHeld2
      clear hHeld2
      try simp only [Act.put,sIB,sCZ,sCS]
      refine wpAnyH_ready (rs:=[11]) (by kernel_rfl) (by simp) (AllReadyH.cons rfl (fun K hK=>?_) AllReadyH.nil)
      refine z1b (k:=2) (by decide) Tryz.underlying23 z4q rfl (by omega) rfl (.tmp 45) (.tmp 51) rfl (.slice ip il ic) lq (z0n lc Lq) (by simp [Act.eval]) (by rw [← HLQ.out];exact z2a HA2.out.items) (some ⟨Wd.heap.size,0,none⟩) 1 1 (z0n lc [((a,q):Ln)]) (by simp [Act.eval]) rfl (fun h=>by cases h) (z4o Wd (a,q)) (z1n z8z _) (by have:=HLJ.out;omega) ?_
      intro p4 c4 w4 h1 h2 h3
      have HA3:=hid (HA2.out.app h1 h2 h3)
      have HX3:=hid ((h2.block wr.heap.size (z0g HX2.out) fun hb=>HIX.out _ hb rfl).trans HX2.out)
      clear h1 h2 h3
      refine hK.out _ _ HX3 (fun hHeld2=>?_)
      clear hK K hHeld
      have hHeld:=hHeld2
      clear hHeld2
      try simp only [Act.put,sIB,sCZ,sCS]
      refine wpAnyH_take (i:=12) (oi:=⟨some 53,_,_,_,_,_⟩) (v:=(.pointer (some ⟨g,m*3,none⟩))) rfl (by kernel_rfl) (by kernel_rfl) (by kernel_rfl) (fun _ _ _ h=>h) (Or.inl ⟨by rfl,fun w' hw'=>?_⟩) (by assumption) ?_
      · clear hHeld
        go_simp
      simp only [Act.put,sIB,sCZ,sCS]
      refine wpAnyH_take (i:=13) (oi:=⟨some 54,_,_,_,_,_⟩) (v:=(.pointer (some ⟨g,m*3+2,none⟩))) rfl (by kernel_rfl) (by kernel_rfl) (by kernel_rfl) (fun _ _ _ h=>h) (Or.inl ⟨by rfl,fun w' hw'=>?_⟩) (by assumption) ?_
      · clear hHeld
        go_simp
      simp only [Act.put,sIB,sCZ,sCS]
      refine wpAnyH_ready (rs:=[14]) (by kernel_rfl) (by simp) (AllReadyH.cons rfl (fun K hK=>?_) AllReadyH.nil)
      have hc2:=(z1k HA3.out.own).1
      have hfz:=(z1k HA3.out.own).2
      rw [HM.out] at hc2 hfz
      have hA4:=HA3.out.put
      rw [HM.out] at hA4
      have HA4:=hid hA4
      have HX4:Hid ((w4.setCell ⟨g,m*3+2,none⟩ (.slice p4 (lq+1) c4)).heap[wr.heap.size]?=_):=hid ((Below.heap_setCell _ _ _ _ (fun hc=>HG.out hc.symm)).trans HX3.out)
      clear hA4
      go_simp
      refine hK.out _ _ HX4 (fun hHeld2=>?_)
      clear hc2 hfz
      clear hK K hHeld
      have hHeld:=hHeld2
      clear hHeld2
      try simp only [Act.put,sIB,sCZ,sCS]
      refine wpAnyH_done (by kernel_rfl) ?_ _
      clear hHeld
      go_wp2_with fail
      go_roundw
      case rel=>exact⟨j+1,by omega,by go_num,hid (.inr ⟨_,_,_,_,HA4.out.mono (Nat.le_succ j),by rw [HS.out];exact HSN.out.symm,rfl,by rw [Nat.add_sub_cancel,HX.out];exact HRR.out,by omega⟩)⟩
      case measure=>simp [Go.RowKit.intOf];omega
    · go_simp
      have HA2:=hid (HD.out.later (show Below Wd.heap.size Wd (Wd.alloc (.cells #[.int .u8 a,.int .i64 q] 76)) from (Below.refl _ _).alloc (Nat.le_refl _) _))
      have HX2:=hid (z0b HXD.out (show Below Wd.heap.size Wd (Wd.alloc (.cells #[.int .u8 a,.int .i64 q] 76)) from (Below.refl _ _).alloc (Nat.le_refl _) _))
      refine hK.out _ _ HX2 (fun hHeld2=>?_)
      clear hK K hHeld
      have hHeld:=hHeld2
      clear hHeld2
      try simp only [Act.put,sIB,sCZ,sCS]
      refine wpAnyH_ready (rs:=[4]) (by kernel_rfl) (by simp) (AllReadyH.cons rfl (fun K hK=>?_) AllReadyH.nil)
      have hv:=(z1k HA2.out.fill.own).1
      rw [HM.out] at hv
      unfold itm at hv
      dsimp only at hv
      go_simp
      refine hK.out _ _ HX2 (fun hHeld2=>?_)
      clear hK K hHeld
      have hHeld:=hHeld2
      clear hHeld2
      try simp only [Act.put,sIB,sCZ,sCS]
      clear hv
      refine wpAnyH_ready (rs:=[11]) (by kernel_rfl) (by simp) (AllReadyH.cons rfl (fun K hK=>?_) AllReadyH.nil)
      refine z1b (k:=2) (by decide) Tryz.underlying23 z4q rfl (by omega) rfl (.tmp 45) (.tmp 51) rfl (.slice ip il ic) lq (z0n lc Lq) (by simp [Act.eval]) (by rw [← HLQ.out];exact z2a HA2.out.items) (some ⟨Wd.heap.size,0,none⟩) 1 1 (z0n lc [((a,q):Ln)]) (by simp [Act.eval]) rfl (fun h=>by cases h) (z4o Wd (a,q)) (z1n z8z _) (by have:=HLJ.out;omega) ?_
      intro p4 c4 w4 h1 h2 h3
      have HA3:=hid (HA2.out.app h1 h2 h3)
      have HX3:=hid ((h2.block wr.heap.size (z0g HX2.out) fun hb=>HIX.out _ hb rfl).trans HX2.out)
      clear h1 h2 h3
      refine hK.out _ _ HX3 (fun hHeld2=>?_)
      clear hK K hHeld
      have hHeld:=hHeld2
      clear hHeld2
      try simp only [Act.put,sIB,sCZ,sCS]
      refine wpAnyH_take (i:=12) (oi:=⟨some 53,_,_,_,_,_⟩) (v:=(.pointer (some ⟨g,m*3,none⟩))) rfl (by kernel_rfl) (by kernel_rfl) (by kernel_rfl) (fun _ _ _ h=>h) (Or.inl ⟨by rfl,fun w' hw'=>?_⟩) (by assumption) ?_
      · clear hHeld
        go_simp
      simp only [Act.put,sIB,sCZ,sCS]
      refine wpAnyH_take (i:=13) (oi:=⟨some 54,_,_,_,_,_⟩) (v:=(.pointer (some ⟨g,m*3+2,none⟩))) rfl (by kernel_rfl) (by kernel_rfl) (by kernel_rfl) (fun _ _ _ h=>h) (Or.inl ⟨by rfl,fun w' hw'=>?_⟩) (by assumption) ?_
      · clear hHeld
        go_simp
      simp only [Act.put,sIB,sCZ,sCS]
      refine wpAnyH_ready (rs:=[14]) (by kernel_rfl) (by simp) (AllReadyH.cons rfl (fun K hK=>?_) AllReadyH.nil)
      have hc2:=(z1k HA3.out.own).1
      have hfz:=(z1k HA3.out.own).2
      rw [HM.out] at hc2 hfz
      have hA4:=HA3.out.put
      rw [HM.out] at hA4
      have HA4:=hid hA4
      have HX4:Hid ((w4.setCell ⟨g,m*3+2,none⟩ (.slice p4 (lq+1) c4)).heap[wr.heap.size]?=_):=hid ((Below.heap_setCell _ _ _ _ (fun hc=>HG.out hc.symm)).trans HX3.out)
      clear hA4
      go_simp
      refine hK.out _ _ HX4 (fun hHeld2=>?_)
      clear hc2 hfz
      clear hK K hHeld
      have hHeld:=hHeld2
      clear hHeld2
      try simp only [Act.put,sIB,sCZ,sCS]
      refine wpAnyH_done (by kernel_rfl) ?_ _
      clear hHeld
      go_wp2_with fail
      go_roundw
      case rel=>exact⟨j+1,by omega,by go_num,hid (.inr ⟨_,_,_,_,HA4.out.mono (Nat.le_succ j),by rw [HS.out];exact HSN.out.symm,rfl,by rw [Nat.add_sub_cancel,HX.out];exact HRR.out,by omega⟩)⟩
      case measure=>simp [Go.RowKit.intOf];omega
def StepFit (t:Int) (N:Nat) (s:Stp):Prop:=s.1=t∧(0≤s.2.1∧s.2.1≤255)∧(∀ y∈s.2.2,Lnok y)∧s.2.2.length≤N
theorem StepFit.mono {t:Int} {N K:Nat} {s:Stp} (h:StepFit t N s) (hn:N≤K):StepFit t K s:=⟨h.1,h.2.1,h.2.2.1,Nat.le_trans h.2.2.2 hn⟩
theorem hstep_fit {t:Int} {N:Nat} {S:List Stp} {x:Tk} (h:∀ s∈S,StepFit t N s) (hx:Tkok x):∀ s∈z6p t S x,StepFit t (N+1) s:=by
 have hl:Lnok (lnT x):=⟨hx.2.1,hx.2.2.2⟩
 have hn:StepFit t (N+1) (t,x.2.2.1,[lnT x]):=⟨rfl,hx.2.2.1,fun y hy=>by obtain rfl:=List.mem_singleton.1 hy;exact hl,by simp⟩
 unfold z6p
 intro s hs
 cases hg:S.getLast? with
 | none =>
  rw [hg] at hs
  obtain rfl:=List.mem_singleton.1 hs
  exact hn
 | some l =>
  rw [hg] at hs
  dsimp only at hs
  have hlm:=List.mem_of_getLast? hg
  split at hs
  · rcases List.mem_append.1 hs with hs | hs
    · exact (h s (List.dropLast_subset _ hs)).mono (by omega)
    · obtain rfl:=List.mem_singleton.1 hs
      obtain⟨h1,h2,h3,h4⟩:=h l hlm
      refine⟨h1,h2,fun y hy=>?_,by simp;exact h4⟩
      rcases List.mem_append.1 hy with hy | hy
      · exact h3 y hy
      · obtain rfl:=List.mem_singleton.1 hy
        exact hl
  · rcases List.mem_append.1 hs with hs | hs
    · exact (h s hs).mono (by omega)
    · obtain rfl:=List.mem_singleton.1 hs
      exact hn
theorem houses_fit {t:Int}:∀ (T:List Tk) (N:Nat) (S:List Stp),(∀ x∈T,Tkok x)→(∀ s∈S,StepFit t N s)→∀ s∈T.foldl (z6p t) S,StepFit t (N+T.length) s
 | [],N,S,_,h=>h
 | x::T,N,S,hT,h=>by
  have:=houses_fit T (N+1) (z6p t S x) (fun y hy=>hT y (List.mem_cons.2 (.inr hy))) (hstep_fit h (hT x (List.mem_cons.2 (.inl rfl))))
  rw [List.length_cons]
  have e:N+(T.length+1)=N+1+T.length:=by omega
  rw [e]
  exact this
theorem houses_each (t:Int) (T:List Tk) (h:∀ x∈T,Tkok x) {j:Nat} (hj:j<(z1a t T).length):StepFit t T.length ((z1a t T).getD j (0,0,[])):=by
 have:=houses_fit (t:=t) T 0 [] h (fun s hs=>by cases hs)
 rw [Nat.zero_add] at this
 refine this _ ?_
 rw [List.getD,List.getElem?_eq_getElem hj]
 exact List.getElem_mem _
theorem takes_long {s w o:Int} {T:List Tk} (h:12<T.length):z0s s w o T=false:=by
 cases hc:z0s s w o T with
 | false=>rfl
 | true=>have:=((z3v s w o T).1 hc).1;omega
theorem takes_other {s w o:Int} {T:List Tk} (h:z4m o T=true):z0s s w o T=false:=by
 cases hc:z0s s w o T with
 | false=>rfl
 | true =>
  have h1:=((z3v s w o T).1 hc).2.1
  unfold z4m at h
  rw [List.any_eq_true] at h
  obtain⟨x,hx,hne⟩:=h
  obtain⟨j,hj,rfl⟩:=z3t tk0 hx
  rw [h1 j hj] at hne
  simp at hne
theorem takes_house {s w o:Int} {T:List Tk} (hs:z0m s w=true) {j:Nat} (hj:j<(z1a 1 T).length) (h:z3o s w (z1a 1 T) j=false):z0s s w o T=false:=by
 cases hc:z0s s w o T with
 | false=>rfl
 | true =>
  have:=((house_all s w o T hs).1 hc).2.2 j hj
  rw [h] at this
  cases this
theorem takes_all {s w o:Int} {T:List Tk} (hs:z0m s w=true) (hl:T.length≤12) (h:z4m o T=false) (ha:∀ j,j<(z1a 1 T).length→z3o s w (z1a 1 T) j=true):z0s s w o T=true:=by
 refine (house_all s w o T hs).2 ⟨hl,fun j hj=>?_,ha⟩
 unfold z4m at h
 rw [List.any_eq_false] at h
 have:=h (T.getD j tk0) (by rw [List.getD,List.getElem?_eq_getElem hj];exact List.getElem_mem _)
 simpa using this
theorem z7r {w:World} {p:Option Addr} {n c:Nat} {H:List Hs} (h:HL w p n c H) {j:Nat} (hj:j<n):∃ b off,p=some ⟨b,off,none⟩∧b<w.heap.size∧w.cell? ⟨b,off+j*3,none⟩=some (.int .u8 (H.getD j hs0).1)∧w.cell? ⟨b,off+j*3+1,none⟩=some (.int .u8 (H.getD j hs0).2.1)∧w.cell? ⟨b,off+j*3+2,none⟩=some (.slice (H.getD j hs0).2.2.1 (H.getD j hs0).2.2.2.1 (H.getD j hs0).2.2.2.2):=by
 obtain⟨b,off,rfl,hb,hc⟩:=h.cell (by omega)
 exact⟨b,off,rfl,hb,hc j hj 0 _ rfl,hc j hj 1 _ rfl,hc j hj 2 _ rfl⟩
theorem z3f (s w:Int) (k od po:Int) (lp:Option Addr) (ln lcp:Nat) (tp:Option Addr) (tn tcp:Nat) (wp:Option Addr) (wn wcp:Nat) (sk fr to q:Int) (T:List Tk) (W:World) (hw:Words W) (hT:TKL W tp tn tcp T) (hok:∀ x∈T,Tkok x) (h1:1≤s) (h4:s≤4) (hw1:1≤w) (hw4:w≤4) (hn:tn≤1000) :
 Calls Tryz.prog 134 #[.int .i64 s,.int .i64 w,.agg #[.int .u8 k,.int .u32 od,.int .u8 po,.slice lp ln lcp,.slice tp tn tcp,.slice wp wn wcp,.int .u8 sk,.int .u8 fr,.int .u8 to,.int .i64 q]] W fun e w'=>e=.returned (.bool (z0s s w od T))∧Below W.heap.size W w':=by
 have hs:z0m s w=true:=by unfold z0m;simp;omega
 obtain⟨W2,hW2,hbx,hb2⟩:∃ W2,W.alloc (.cells #[.int .u8 k,.int .u32 od,.int .u8 po,.slice lp ln lcp,.slice tp tn tcp,.slice wp wn wcp,.int .u8 sk,.int .u8 fr,.int .u8 to,.int .i64 q] 26)=W2∧W2.heap[W.heap.size]?=some (.cells #[.int .u8 k,.int .u32 od,.int .u8 po,.slice lp ln lcp,.slice tp tn tcp,.slice wp wn wcp,.int .u8 sk,.int .u8 fr,.int .u8 to,.int .i64 q] 26 (0,0))∧Below W.heap.size W W2:=⟨_,rfl,z0c W _,(Below.refl _ _).alloc (Nat.le_refl _) _⟩
 have HW2:=hid hW2
 have HB2:=hid hb2
 have HX2:=hid hbx
 have HT2:=hid (hT.later hb2)
 have HV2:=hid (hw.later hb2)
 have HLN:=hid hT.len
 have HOK:=hid hok
 have HLG:=hid (takes_long (s:=s) (w:=w) (o:=od) (T:=T))
 have HOT:=hid (takes_other (s:=s) (w:=w) (o:=od) (T:=T))
 have HHO:=hid (fun j=>takes_house (s:=s) (w:=w) (o:=od) (T:=T) hs (j:=j))
 have HAL:=hid (takes_all (s:=s) (w:=w) (o:=od) (T:=T) hs)
 generalize z0s s w od T=res at *
 clear hW2 hb2 hbx hT hok hw hs
 by_cases hlen:12<tn
 case pos =>
  have hlen':(12:Int)<tn:=by omega
  have d1:decide ((12:Int)<tn)=true:=decide_eq_true hlen'
  have HF:=hid (HLG.out (by rw [HLN.out];exact hlen))
  go_enter Tryz.func134,Tryz.ntmps134
  go_wp2_with fail
  go_ret
  rw [HW2.out]
  exact⟨by rw [HF.out];rfl,HB2.out⟩
 have d1:decide ((12:Int)<tn)=false:=decide_eq_false (by omega)
 have HL12:=hid hlen
 go_enter Tryz.func134,Tryz.ntmps134
 go_wp2_with fail
 rw [HW2.out]
 refine (contains_other W.heap.size od tp tn tcp T W2 HT2.out (z0a HX2.out rfl) hn).mono ?_
 rintro e w3 ⟨rfl,hb3⟩
 have HB3:=hid hb3
 have HT3:=hid (HT2.out.later hb3)
 have HX3:=hid (z0b HX2.out hb3)
 have HV3:=hid (HV2.out.later hb3)
 clear hb3
 cases ho:z4m od T with
 | true =>
  have HF:=hid (HOT.out ho)
  clear ho
  go_wp2_with fail
  go_ret
  exact⟨by rw [HF.out];rfl,HB2.out.trans (HB3.out.mono HB2.out.size)⟩
 | false =>
  have HO:=hid ho
  obtain⟨a0,a1,a2,a3,a4,a5,a6,a7,a8,a9⟩:=z0d k od po lp ln lcp tp tn tcp wp wn wcp sk fr to q HX3.out
  clear ho
  go_wp2_with fail
  refine (z4r 1 tp tn tcp T w3 HT3.out hn).mono ?_
  rintro e w4 ⟨v,H,rfl,hf⟩
  have hb4:=hf.below
  have HB4:=hid hb4
  have HV4:=hid (HV3.out.later hb4)
  have hmost:=hf.most
  obtain⟨p,c,H',he,hsl,_⟩:=hf.gives
  cases he
  have HSL:=hid hsl
  have HEA:=hid fun j (hj:j<(z1a 1 T).length)=>houses_each 1 T HOK.out hj
  have hSN:(z1a 1 T).length≤1000:=by rw [← hf.tells.len];omega
  clear hf hsl hb4 hmost a0 a1 a2 a3 a4 a5 a6 a7 a8 a9
  generalize z1a 1 T=S at *
  generalize hnl:S.length=n at *
  have HNL:=hid hnl
  have hcap:=HSL.out.row.cap
  clear hnl
  go_wp2_with fail
  go_loopw [27] (fun i wr=>∃ j:Nat,j≤n∧i=.int .i64 j∧Hid (Below w4.heap.size w4 wr)∧Hid (∀ i,i<j→z3o s w S i=true)) (fun i _=>n-(Go.RowKit.intOf i).toNat)
  case atStart=>exact⟨0,Nat.zero_le _,rfl,hid (Below.refl _ _),hid fun i hi=>by omega⟩
  case round =>
   obtain⟨j,hj,rfl,HB,HE⟩:=hrel
   by_cases hlt:j<n
   case neg =>
    obtain rfl:j=n:=by omega
    have HF:=hid (HAL.out (by rw [HLN.out];have:=HL12.out;omega) HO.out HE.out)
    go_wp2_with fail
    go_ret
    exact⟨by rw [HF.out];rfl,HB2.out.trans ((HB3.out.trans ((HB4.out.trans (HB.out.mono HB4.out.size)).mono HB3.out.size)).mono HB2.out.size)⟩
   have hlt':(j:Int)<n:=by omega
   obtain⟨hq1,hfr,hfl,hfn⟩:=HEA.out j hlt
   rw [HLN.out] at hfn
   obtain⟨ht1,ht2,hl3⟩:=(HSL.out.later HB.out).tells.at j (by rw [HSL.out.row.len];exact hlt)
   obtain⟨b,off,rfl,_,k0,k1,k2⟩:=z7r (HSL.out.row.later HB.out) hlt
   have hat:z3o s w S j=((decide (j=0) || decide ((S.getD (j-1) (0,0,[])).2.1<(S.getD j (0,0,[])).2.1)) && z3i s w (S.getD j (0,0,[])).1 (S.getD j (0,0,[])).2.1 (S.getD j (0,0,[])).2.2):=rfl
   have HPV:=hid fun i (hi:i<n)=>(HSL.out.tells.at i (by rw [HSL.out.row.len];exact hi)).2.1
   have HPC:Hid (∀ i,i<n→∀ w',Below w4.heap.size w4 w'→w'.cell? ⟨b,off+i*3+1,none⟩=some (.int .u8 (H'.getD i hs0).2.1)):=hid fun i hi w' h=>by
    obtain⟨b',off',he,_,d0,d1,d2⟩:=z7r (HSL.out.row.later h) hi
    cases he
    exact d1
   rw [hq1] at hat ht1
   rw [ht1] at k0
   rw [ht2] at k1
   generalize hSj:S.getD j (0,0,[])=sj at *
   obtain⟨z1,r,Lq⟩:=sj
   generalize hh:H'.getD j hs0=hd at *
   obtain⟨z2,z3,lp2,ln2,lc2⟩:=hd
   dsimp only at *
   have HAT:=hid hat
   have hlnn:=hl3.len
   have HBA:=hid (HB.out.trans ((show Below wr.heap.size wr (wr.alloc (.cells #[.int .u8 1,.int .u8 r,.slice lp2 ln2 lc2] 52)) from (Below.refl _ _).alloc (Nat.le_refl _) _).mono HB.out.size))
   have HVB:=hid fun w' (h:Below (wr.alloc (.cells #[.int .u8 1,.int .u8 r,.slice lp2 ln2 lc2] 52)).heap.size (wr.alloc (.cells #[.int .u8 1,.int .u8 r,.slice lp2 ln2 lc2] 52)) w')=>(HV4.out.later HBA.out).later h
   have HLB:=hid fun w' (h:Below (wr.alloc (.cells #[.int .u8 1,.int .u8 r,.slice lp2 ln2 lc2] 52)).heap.size (wr.alloc (.cells #[.int .u8 1,.int .u8 r,.slice lp2 ln2 lc2] 52)) w')=>(hl3.later ((Below.refl _ _).alloc (Nat.le_refl _) (.cells #[.int .u8 1,.int .u8 r,.slice lp2 ln2 lc2] 52))).later h
   have HBK:=hid (z0c wr (.cells #[.int .u8 1,.int .u8 r,.slice lp2 ln2 lc2] 52))
   have e0:=fun q:After (wr.alloc (.cells #[.int .u8 1,.int .u8 r,.slice lp2 ln2 lc2] 52))=>z6h q (z0a (j:=0) (v:=.int .u8 1) HBK.out rfl)
   have e1:=fun q:After (wr.alloc (.cells #[.int .u8 1,.int .u8 r,.slice lp2 ln2 lc2] 52))=>z6h q (z0a (j:=1) (v:=.int .u8 r) HBK.out rfl)
   have e2:=fun q:After (wr.alloc (.cells #[.int .u8 1,.int .u8 r,.slice lp2 ln2 lc2] 52))=>z6h q (z0a (j:=2) (v:=.slice lp2 ln2 lc2) HBK.out rfl)
   clear ht1 ht2 hh hat hSj hl3
   by_cases h0:j=0
   case pos =>
    have d2:decide (0<(j:Int))=false:=decide_eq_false (by omega)
    have d2n:decide (0<j)=false:=decide_eq_false (by omega)
    have HPREV:Hid (((decide (j=0) || decide ((S.getD (j-1) (0,0,[])).2.1<r)) && true)=true):=hid (by rw [h0];rfl)
    clear h0
    have hgd:=fun q:After (wr.alloc (.cells #[.int .u8 1,.int .u8 r,.slice lp2 ln2 lc2] 52))=>q1r s w 1 r lp2 ln2 lc2 Lq q.w (HVB.out q.w q.h) (HLB.out q.w q.h) hfl (by omega) hfr (by omega)
    cases hg:z3i s w 1 r Lq with
    | false =>
     rw [hg] at hgd
     have HF:=hid (HHO.out j hlt (by rw [HAT.out,hg,Bool.and_false]))
     go_wp2_with fail
     refine z2f (by kernel_rfl) (by kernel_rfl) ?_
     repeat (go_big_quiet_step (first | (go_at_call 147;exact z3z _ (hgd _))))
     refine wpQuiet_nil ?_
     rintro w5 ⟨⟨wq,h6⟩,hw5⟩
     subst hw5
     have HB5:=hid (HBA.out.trans (h6.mono HBA.out.size))
     clear h6 hgd
     go_wp2_with fail
     go_ret
     exact⟨by rw [HF.out];rfl,HB2.out.trans ((HB3.out.trans ((HB4.out.trans (HB5.out.mono HB4.out.size)).mono HB3.out.size)).mono HB2.out.size)⟩
    | true =>
     rw [hg] at hgd
     have HT1:Hid (z3o s w S j=true):=hid (by rw [HAT.out,hg];exact HPREV.out)
     go_wp2_with fail
     refine z2f (by kernel_rfl) (by kernel_rfl) ?_
     repeat (go_big_quiet_step (first | (go_at_call 147;exact z3z _ (hgd _))))
     refine wpQuiet_nil ?_
     rintro w5 ⟨⟨wq,h6⟩,hw5⟩
     subst hw5
     have HB5:=hid (HBA.out.trans (h6.mono HBA.out.size))
     clear h6 hgd
     go_wp2_with fail
     go_roundw
     case rel =>
      refine⟨j+1,by omega,by go_num,HB5,hid fun i hi=>?_⟩
      by_cases e:i=j
      · subst e;exact HT1.out
      · exact HE.out i (by omega)
     case measure=>simp [Go.RowKit.intOf];omega
   have d2:decide (0<(j:Int))=true:=decide_eq_true (by omega)
   have d2n:decide (0<j)=true:=decide_eq_true (by omega)
   obtain⟨k,hk⟩:∃ k,j=k+1:=⟨j-1,by omega⟩
   have hji:(j:Int)-1=k:=by omega
   have hkn:(k:Int)<n:=by omega
   have ej:j-1=k:=by omega
   have y0:=HPC.out k (by omega) (wr.alloc (.cells #[.int .u8 1,.int .u8 r,.slice lp2 ln2 lc2] 52)) HBA.out
   rw [HPV.out k (by omega)] at y0
   have y1:=fun q:After (wr.alloc (.cells #[.int .u8 1,.int .u8 r,.slice lp2 ln2 lc2] 52))=>z6h q y0
   clear y0
   rw [ej,decide_eq_false h0,Bool.false_or] at HAT
   generalize (S.getD k (0,0,[])).2.1=rp at *
   clear hk ej h0
   by_cases hrp:r≤rp
   case pos =>
    have d3:decide (r≤rp)=true:=decide_eq_true hrp
    have HF:=hid (HHO.out j hlt (by rw [HAT.out,decide_eq_false (by omega),Bool.false_and]))
    have hgd:=fun q:After (wr.alloc (.cells #[.int .u8 1,.int .u8 r,.slice lp2 ln2 lc2] 52))=>q1r s w 1 r lp2 ln2 lc2 Lq q.w (HVB.out q.w q.h) (HLB.out q.w q.h) hfl (by omega) hfr (by omega)
    go_wp2_with fail
    refine z2f (by kernel_rfl) (by kernel_rfl) ?_
    repeat (go_big_quiet_step (first | (go_at_call 147;exact z3z _ (hgd _))))
    refine wpQuiet_nil ?_
    rintro w5 ⟨⟨wq,h6⟩,hw5⟩
    subst hw5
    have HB5:=hid (HBA.out.trans (h6.mono HBA.out.size))
    clear h6 hgd
    go_wp2_with fail
    go_ret
    exact⟨by rw [HF.out];rfl,HB2.out.trans ((HB3.out.trans ((HB4.out.trans (HB5.out.mono HB4.out.size)).mono HB3.out.size)).mono HB2.out.size)⟩
   have d3:decide (r≤rp)=false:=decide_eq_false hrp
   have HPREV:Hid ((decide (rp<r) && true)=true):=hid (by rw [decide_eq_true (by omega)];rfl)
   clear hrp
   have hgd:=fun q:After (wr.alloc (.cells #[.int .u8 1,.int .u8 r,.slice lp2 ln2 lc2] 52))=>q1r s w 1 r lp2 ln2 lc2 Lq q.w (HVB.out q.w q.h) (HLB.out q.w q.h) hfl (by omega) hfr (by omega)
   cases hg:z3i s w 1 r Lq with
   | false =>
    rw [hg] at hgd
    have HF:=hid (HHO.out j hlt (by rw [HAT.out,hg,Bool.and_false]))
    go_wp2_with fail
    refine z2f (by kernel_rfl) (by kernel_rfl) ?_
    repeat (go_big_quiet_step (first | (go_at_call 147;exact z3z _ (hgd _))))
    refine wpQuiet_nil ?_
    rintro w5 ⟨⟨wq,h6⟩,hw5⟩
    subst hw5
    have HB5:=hid (HBA.out.trans (h6.mono HBA.out.size))
    clear h6 hgd
    go_wp2_with fail
    go_ret
    exact⟨by rw [HF.out];rfl,HB2.out.trans ((HB3.out.trans ((HB4.out.trans (HB5.out.mono HB4.out.size)).mono HB3.out.size)).mono HB2.out.size)⟩
   | true =>
    rw [hg] at hgd
    have HT1:Hid (z3o s w S j=true):=hid (by rw [HAT.out,hg];exact HPREV.out)
    go_wp2_with fail
    refine z2f (by kernel_rfl) (by kernel_rfl) ?_
    repeat (go_big_quiet_step (first | (go_at_call 147;exact z3z _ (hgd _))))
    refine wpQuiet_nil ?_
    rintro w5 ⟨⟨wq,h6⟩,hw5⟩
    subst hw5
    have HB5:=hid (HBA.out.trans (h6.mono HBA.out.size))
    clear h6 hgd
    go_wp2_with fail
    go_roundw
    case rel =>
     refine⟨j+1,by omega,by go_num,HB5,hid fun i hi=>?_⟩
     by_cases e:i=j
     · subst e;exact HT1.out
     · exact HE.out i (by omega)
    case measure=>simp [Go.RowKit.intOf];omega
theorem served_no {s:Int} {o:Int} {w:Int} {T:List Tk} {M L:List Ln} (h0:0≤s) (h4:s≤4) (hL:z0q s L=true) (hM:z0q s M=true) (hT:z0s s w o T=true) (hok:∀ x∈L,Lnok x) {a:Nat} (ha:(a:Int)<s) (h:z3s T M L a=false):z2i T M L=false:=by
 cases hc:z2i T M L with
 | false=>rfl
 | true =>
  have:=(served_cover (o:=o) h0 h4 hL hM (takes_sku hT) hok).2 hc a ha
  rw [h] at this
  cases this
theorem served_yes {s:Int} {o:Int} {w:Int} {T:List Tk} {M L:List Ln} (h0:0≤s) (h4:s≤4) (hL:z0q s L=true) (hM:z0q s M=true) (hT:z0s s w o T=true) (hok:∀ x∈L,Lnok x) (h:∀ a:Nat,(a:Int)<s→z3s T M L a=true):z2i T M L=true :=
 (served_cover (o:=o) h0 h4 hL hM (takes_sku hT) hok).1 h
theorem lnparts_zero (M:List Ln) (s:Int):z0z (M.take 0) s=[]:=by simp [z0z]
theorem tkparts_zero (T:List Tk) (s:Int):z1f (T.take 0) s=[]:=by simp [z1f]
theorem served_any (s w:Int) (k od po:Int) (lp:Option Addr) (ln lcp:Nat) (tp:Option Addr) (tn tcp:Nat) (wp:Option Addr) (wn wcp:Nat) (sk fr to q:Int) (L:List Ln) (T:List Tk) (M:List Ln) (W:World) (hP:PgM W lp ln lcp L tp tn tcp T wp wn wcp M) (hkL:∀ x∈L,Lnok x) (hkT:∀ x∈T,Tkok x) (hkM:∀ x∈M,Lnok x) (h1:1≤s) (h4:s≤4) (hL:z0q s L=true) (hM:z0q s M=true) (hT:z0s s w od T=true) (hn:ln≤400∧tn≤400∧wn≤400) :
 Calls Tryz.prog 135 #[.int .i64 s,.agg #[.int .u8 k,.int .u32 od,.int .u8 po,.slice lp ln lcp,.slice tp tn tcp,.slice wp wn wcp,.int .u8 sk,.int .u8 fr,.int .u8 to,.int .i64 q]] W fun e w'=>e=.returned (.bool (z2i T M L))∧Below W.heap.size W w':=by
 obtain⟨hn1,hn2,hn3⟩:=hn
 obtain⟨ns,rfl⟩:∃ ns:Nat,s=(ns:Int):=⟨s.toNat,by omega⟩
 obtain⟨W2,hW2,hbx,hb2⟩:∃ W2,W.alloc (.cells #[.int .u8 k,.int .u32 od,.int .u8 po,.slice lp ln lcp,.slice tp tn tcp,.slice wp wn wcp,.int .u8 sk,.int .u8 fr,.int .u8 to,.int .i64 q] 26)=W2∧W2.heap[W.heap.size]?=some (.cells #[.int .u8 k,.int .u32 od,.int .u8 po,.slice lp ln lcp,.slice tp tn tcp,.slice wp wn wcp,.int .u8 sk,.int .u8 fr,.int .u8 to,.int .i64 q] 26 (0,0))∧Below W.heap.size W W2:=⟨_,rfl,z0c W _,(Below.refl _ _).alloc (Nat.le_refl _) _⟩
 have HW2:=hid hW2
 have HB2:=hid hb2
 have HX2:=hid hbx
 have HL:=hid (hP.later hb2).l
 have HT:=hid (hP.later hb2).t
 have HM:=hid (hP.later hb2).o
 have HNO:=hid (fun (a:Nat)=>served_no (a:=a) (o:=od) (w:=w) (by omega) h4 hL hM hT hkL)
 have HYE:=hid (served_yes (o:=od) (w:=w) (s:=(ns:Int)) (by omega) h4 hL hM hT hkL)
 have HPO:=hid fun (a:Int)=>named_lines_ok hL hkL a
 have HKL:=hid fun (a:Int)=>z7x hkL a
 have HKT:=hid fun (a:Int)=>tkparts_in hkT a
 have HKM:=hid fun (a:Int)=>z7x hkM a
 have HOL:=hid fun j (hj:j<ln)=>z8n hkL (show j<L.length by rw [hP.l.len];exact hj)
 have HOT:=hid fun j (hj:j<tn)=>q0w hkT (show j<T.length by rw [hP.t.len];exact hj)
 have HOM:=hid fun j (hj:j<wn)=>z8n hkM (show j<M.length by rw [hP.o.len];exact hj)
 have HSL:=hid fun a j (hj:j<ln)=>z4c L a j (by rw [hP.l.len];exact hj)
 have HST:=hid fun a j (hj:j<tn)=>tkparts_take T a j (by rw [hP.t.len];exact hj)
 have HSM:=hid fun a j (hj:j<wn)=>z4c M a j (by rw [hP.o.len];exact hj)
 have HEL:Hid (L.take ln=L):=hid (by rw [← hP.l.len,List.take_length])
 have HET:Hid (T.take tn=T):=hid (by rw [← hP.t.len,List.take_length])
 have HEM:Hid (M.take wn=M):=hid (by rw [← hP.o.len,List.take_length])
 have hcl:=hP.l.cap
 have hct:=hP.t.cap
 have hcm:=hP.o.cap
 clear hW2 hb2 hbx hP hL hM hT hkL hkT hkM
 go_enter Tryz.func135,Tryz.ntmps135
 go_wp2_with fail
 rw [HW2.out]
 go_loopw [19] (fun i wr=>∃ a:Nat,a≤ns∧i=.int .i64 a∧Hid (Below W2.heap.size W2 wr)∧Hid (∀ b:Nat,b<a→z3s T M L b=true)) (fun i _=>ns-(Go.RowKit.intOf i).toNat)
 case atStart=>exact⟨0,Nat.zero_le _,rfl,hid (Below.refl _ _),hid fun i hi=>by omega⟩
 case round =>
  obtain⟨a,ha,rfl,HBO,HE⟩:=hrel
  by_cases hlt:a<ns
  case neg =>
   obtain rfl:a=ns:=by omega
   have HF:=hid (HYE.out fun b hb=>HE.out b (by omega))
   go_wp2_with fail
   go_ret
   exact⟨by rw [HF.out];rfl,HB2.out.trans (HBO.out.mono HB2.out.size)⟩
  have hlt':(a:Int)<ns:=by omega
  obtain⟨wo,hwo⟩:∃ x,x=wr:=⟨_,rfl⟩
  subst hwo
  obtain⟨a0,a1,a2,a3,a4,a5,a6,a7,a8,a9⟩:=z0d k od po lp ln lcp tp tn tcp wp wn wcp sk fr to q (z0b HX2.out HBO.out)
  go_wp2_with fail
  clear a0 a1 a2 a3 a4 a5 a6 a7 a8 a9
  -- what the order has
  go_loopw [6,25] (fun v i w1=>∃ j:Nat,j≤ln∧i=.int .i64 j∧Hid (q0r wo w1 v (z0z (L.take j) a) j)) (fun _ i _=>ln-(Go.RowKit.intOf i).toNat)
  case atStart=>exact⟨0,Nat.zero_le _,rfl,hid (by rw [lnparts_zero];exact FillG.nil wo)⟩
  case round =>
   obtain⟨j,hj,rfl,HF⟩:=hrel
   by_cases hl:j<ln
   case pos =>
    have hl':(j:Int)<ln:=by omega
    obtain⟨b,off,rfl,_,k0,k1⟩:=z1o (HL.out.later (HBO.out.trans (HF.out.below.mono HBO.out.size))) hl
    have hst:=HSL.out a j hl
    have hok:=HOL.out j hl
    generalize L.getD j l0=x at *
    obtain⟨o,q⟩:=x
    dsimp only at k0 k1 hst
    have HS:=hid hst
    have ho:0≤o∧o≤255:=hok.1
    have HF1:=hid (HF.out.later ((Below.refl wr.heap.size wr).alloc (Nat.le_refl _) (.cells #[.int .u8 o,.int .i64 q] 76)))
    clear hst hok
    go_wp2_with fail
    refine (z5w wo _ _ (z0z (L.take j) a) j a o q HF1.out ho (by omega)).mono ?_
    rintro e w2 ⟨v2,rfl,hf2⟩
    have HF2:=hid hf2
    clear hf2
    go_wp2_with fail
    go_roundw
    case rel=>exact⟨j+1,by omega,by go_num,hid (by rw [HS.out];exact HF2.out)⟩
    case measure=>simp [Go.RowKit.intOf];omega
   obtain rfl:ln=j:=by omega
   obtain⟨w1,hw1⟩:∃ x,x=wr:=⟨_,rfl⟩
   subst hw1
   obtain⟨vh,hvh⟩:∃ x,x=u6:=⟨_,rfl⟩
   subst hvh
   have hf:=HF.out
   rw [HEL.out] at hf
   have HH:=hid hf
   have HB1:=hid hf.below
   clear hf HF
   obtain⟨a0,a1,a2,a3,a4,a5,a6,a7,a8,a9⟩:=z0d k od po lp ln lcp tp tn tcp wp wn wcp sk fr to q (z0b HX2.out (HBO.out.trans (HB1.out.mono HBO.out.size)))
   go_wp2_with fail
   clear a0 a1 a2 a3 a4 a5 a6 a7 a8 a9
   go_loopw [7,40] (fun v i w2=>∃ j:Nat,j≤tn∧i=.int .i64 j∧Hid (q0r w1 w2 v (z1f (T.take j) a) j)) (fun _ i _=>tn-(Go.RowKit.intOf i).toNat)
   case atStart=>exact⟨0,Nat.zero_le _,rfl,hid (by rw [tkparts_zero];exact FillG.nil w1)⟩
   case round =>
    obtain⟨j,hj,rfl,HF⟩:=hrel
    by_cases hl:j<tn
    case pos =>
     have hl':(j:Int)<tn:=by omega
     obtain⟨b,off,rfl,_,k0,k1,k2,k3⟩:=z1g (HT.out.later (HBO.out.trans ((HB1.out.trans (HF.out.below.mono HB1.out.size)).mono HBO.out.size))) hl
     have hst:=HST.out a j hl
     have hok:=HOT.out j hl
     generalize T.getD j tk0=x at *
     obtain⟨od2,o,r2,q⟩:=x
     dsimp only at k0 k1 k2 k3 hst
     have HS:=hid hst
     have ho:0≤o∧o≤255:=hok.2.1
     have HF1:=hid (HF.out.later ((Below.refl wr.heap.size wr).alloc (Nat.le_refl _) (.cells #[.int .u32 od2,.int .u8 o,.int .u8 r2,.int .i64 q] 73)))
     clear hst hok
     go_wp2_with fail
     refine (z5w w1 _ _ (z1f (T.take j) a) j a o q HF1.out ho (by omega)).mono ?_
     rintro e w2 ⟨v2,rfl,hf2⟩
     have HF2:=hid hf2
     clear hf2
     go_wp2_with fail
     go_roundw
     case rel=>exact⟨j+1,by omega,by go_num,hid (by rw [HS.out];exact HF2.out)⟩
     case measure=>simp [Go.RowKit.intOf];omega
    obtain rfl:tn=j:=by omega
    obtain⟨w2,hw2⟩:∃ x,x=wr:=⟨_,rfl⟩
    subst hw2
    have hf:=HF.out
    rw [HET.out] at hf
    have HF:=hid hf
    have HB2b:=hid (HB1.out.trans (hf.below.mono HB1.out.size))
    clear hf
    obtain⟨a0,a1,a2,a3,a4,a5,a6,a7,a8,a9⟩:=z0d k od po lp ln lcp tp tn tcp wp wn wcp sk fr to q (z0b HX2.out (HBO.out.trans (HB2b.out.mono HBO.out.size)))
    go_wp2_with fail
    clear a0 a1 a2 a3 a4 a5 a6 a7 a8 a9
    go_loopw [7,55] (fun v i w3=>∃ i':Nat,i'≤wn∧i=.int .i64 i'∧Hid (q0r w1 w3 v (z1f T a++z0z (M.take i') a) (tn+i'))) (fun _ i _=>wn-(Go.RowKit.intOf i).toNat)
    case atStart=>exact⟨0,Nat.zero_le _,rfl,hid (by rw [lnparts_zero,List.append_nil];exact HF.out)⟩
    case round =>
     clear HF
     obtain⟨j,hj,rfl,HF⟩:=hrel
     by_cases hl:j<wn
     case pos =>
      have hl':(j:Int)<wn:=by omega
      obtain⟨b,off,rfl,_,k0,k1⟩:=z1o (HM.out.later (HBO.out.trans ((HB1.out.trans (HF.out.below.mono HB1.out.size)).mono HBO.out.size))) hl
      have hst:=HSM.out a j hl
      have hok:=HOM.out j hl
      generalize M.getD j l0=x at *
      obtain⟨o,q⟩:=x
      dsimp only at k0 k1 hst
      have HS:=hid hst
      have ho:0≤o∧o≤255:=hok.1
      have HF1:=hid (HF.out.later ((Below.refl wr.heap.size wr).alloc (Nat.le_refl _) (.cells #[.int .u8 o,.int .i64 q] 76)))
      clear hst hok
      go_wp2_with fail
      refine (z5w w1 _ _ (z1f T a++z0z (M.take j) a) (tn+j) a o q HF1.out ho (by omega)).mono ?_
      rintro e w2 ⟨v2,rfl,hf2⟩
      have HF2:=hid hf2
      clear hf2
      go_wp2_with fail
      go_roundw
      case rel=>exact⟨j+1,by omega,by go_num,hid (by rw [HS.out,← List.append_assoc];exact HF2.out)⟩
      case measure=>simp [Go.RowKit.intOf];omega
     obtain rfl:wn=j:=by omega
     obtain⟨w3,hw3⟩:∃ x,x=wr:=⟨_,rfl⟩
     subst hw3
     have hg:=HF.out
     rw [HEM.out] at hg
     have hh:=HH.out.later hg.below
     have HB3:=hid (HBO.out.trans ((HB1.out.trans (hg.below.mono HB1.out.size)).mono HBO.out.size))
     obtain⟨ph,ch,hv,hsh⟩:=z5h hh
     subst hv
     obtain⟨pg,cg,hv,hsg⟩:=z5h hg
     subst hv
     have hm1:=hh.most
     have hm2:=hg.most
     have hs1:=q2f ph _ ch _ _ (IL.row hsh (HKL.out a)) (by omega)
     have hs2:=q2f pg _ cg _ _ (IL.row hsg (fun z hz=>by rcases List.mem_append.1 hz with hz | hz;exact HKT.out a z hz;exact HKM.out a z hz)) (by omega)
     have h3:=HPO.out a
     have h4:z1c [] L a=z1h (z0z L a):=rfl
     have h5:z1c T M a=z1h (z1f T a++z0z M a):=rfl
     have h6:z3s T M L a=(okB (z1c T M a) && decide (z1c T M a=z1c [] L a)):=rfl
     rw [h4] at h3
     rw [h4,h5] at h6
     have hv1:val (z1h (z0z L a))=z1h (z0z L a):=z6t _ ((z3x _).1 h3)
     rw [hv1] at hs1
     have HSA:=hid h6
     clear hh hg hsh hsg hm1 hm2 h3 h4 h5 h6 hv1
     generalize z1h (z0z L a)=zh at *
     generalize z1h (z1f T a++z0z M a)=zg at *
     generalize (z0z L ↑a).length=n1 at *
     generalize (z1f T ↑a++z0z M ↑a).length=n2 at *
     go_wp2_with fail
     refine hs1.mono ?_
     rintro e w4 ⟨rfl,rfl⟩
     clear hs1
     go_wp2_with fail
     refine hs2.mono ?_
     rintro e w5 ⟨rfl,rfl⟩
     clear hs2
     cases hb:okB zg with
     | false =>
      have HF5:=hid (HNO.out a (by omega) (by rw [HSA.out,hb,Bool.false_and]))
      go_wp2_with fail
      go_ret
      exact⟨by rw [HF5.out];rfl,HB2.out.trans (HB3.out.mono HB2.out.size)⟩
     | true =>
      have hv2:val zg=zg:=z6t _ ((z3x _).1 hb)
      rw [hv2]
      by_cases hz:zg=zh
      case neg =>
       have d1:(zg != zh)=true:=by simpa using hz
       have HF5:=hid (HNO.out a (by omega) (by rw [HSA.out,hb,decide_eq_false hz];rfl))
       go_wp2_with fail
       go_ret
       exact⟨by rw [HF5.out];rfl,HB2.out.trans (HB3.out.mono HB2.out.size)⟩
      have d1:(zg != zh)=false:=by simpa using hz
      have HF5:Hid (z3s T M L a=true):=hid (by rw [HSA.out,hb,decide_eq_true hz];rfl)
      clear hz hv2
      go_wp2_with fail
      go_roundw
      case rel =>
       refine⟨a+1,by omega,by go_num,HB3,hid fun b hb=>?_⟩
       by_cases e:b=a
       · subst e;exact HF5.out
       · exact HE.out b (by omega)
      case measure=>simp [Go.RowKit.intOf];omega
theorem z9m (k od po:Int) (lp:Option Addr) (ln lcp:Nat) (tp:Option Addr) (tn tcp:Nat) (wp:Option Addr) (wn wcp:Nat) (sk fr to q:Int) (k' od' po':Int) (lp':Option Addr) (ln' lcp':Nat) (tp':Option Addr) (tn' tcp':Nat) (wp':Option Addr) (wn' wcp':Nat) (sk' fr' to' q':Int) (L:List Ln) (T:List Tk) (M:List Ln) (L':List Ln) (T':List Tk) (M':List Ln) (W:World) (hP:PgM W lp ln lcp L tp tn tcp T wp wn wcp M) (hP':PgM W lp' ln' lcp' L' tp' tn' tcp' T' wp' wn' wcp' M') (h1:ln≤1000∧tn≤1000∧wn≤1000) (h2:ln'≤1000∧tn'≤1000∧wn'≤1000) :
 Calls Tryz.prog 107 #[.agg #[.int .u8 k,.int .u32 od,.int .u8 po,.slice lp ln lcp,.slice tp tn tcp,.slice wp wn wcp,.int .u8 sk,.int .u8 fr,.int .u8 to,.int .i64 q],.agg #[.int .u8 k',.int .u32 od',.int .u8 po',.slice lp' ln' lcp',.slice tp' tn' tcp',.slice wp' wn' wcp',.int .u8 sk',.int .u8 fr',.int .u8 to',.int .i64 q']] W fun e w'=>e=.returned (.bool (decide ((⟨k,od,po,L,T,M,sk,fr,to,q⟩:Pg)=⟨k,od',po',L',T',M',sk',fr',to',q'⟩)))∧Below W.heap.size W w':=by
 obtain⟨W2,hW2,b0,b1,hb⟩:=z2o W #[.int .u8 k,.int .u32 od,.int .u8 po,.slice lp ln lcp,.slice tp tn tcp,.slice wp wn wcp,.int .u8 sk,.int .u8 fr,.int .u8 to,.int .i64 q] #[.int .u8 k',.int .u32 od',.int .u8 po',.slice lp' ln' lcp',.slice tp' tn' tcp',.slice wp' wn' wcp',.int .u8 sk',.int .u8 fr',.int .u8 to',.int .i64 q']
 have HW:=hid hW2
 have hb3:Below W.heap.size W (W2.setCell ⟨W.heap.size+1,0,none⟩ (.int .u8 k)):=hb.setCell (by show W.heap.size≤W.heap.size+1;omega) _
 have hx1:=z0u 0 (.int .u8 k) b1
 have hx0:(W2.setCell ⟨W.heap.size+1,0,none⟩ (.int .u8 k)).heap[W.heap.size]?=_:=(Below.heap_setCell _ _ _ _ (by show W.heap.size≠W.heap.size+1;omega)).trans b0
 simp only [sIB,sCZ] at hx1
 have hfz:=z0o 0 b1
 obtain⟨c0,c1,c2,c3,c4,c5,c6,c7,c8,c9⟩:=z0d k od po lp ln lcp tp tn tcp wp wn wcp sk fr to q b0
 obtain⟨d0,d1,d2,d3,d4,d5,d6,d7,d8,d9⟩:=z0d k' od' po' lp' ln' lcp' tp' tn' tcp' wp' wn' wcp' sk' fr' to' q' b1
 obtain⟨a0,a1,a2,a3,a4,a5,a6,a7,a8,a9⟩:=z0d k od po lp ln lcp tp tn tcp wp wn wcp sk fr to q hx0
 obtain⟨e0,e1,e2,e3,e4,e5,e6,e7,e8,e9⟩:=z0d k od' po' lp' ln' lcp' tp' tn' tcp' wp' wn' wcp' sk' fr' to' q' hx1
 have hs:=same_p k od po lp ln lcp tp tn tcp wp wn wcp sk fr to q k od' po' lp' ln' lcp' tp' tn' tcp' wp' wn' wcp' sk' fr' to' q' L T M L' T' M' (W2.setCell ⟨W.heap.size+1,0,none⟩ (.int .u8 k)) (hP.later hb3) (hP'.later hb3) h1 h2
 generalize decide ((⟨k,od,po,L,T,M,sk,fr,to,q⟩:Pg)=⟨k,od',po',L',T',M',sk',fr',to',q'⟩)=bb at *
 have HS:=hid hs
 have HB:=hid hb3
 clear hs hb3 hx1 hx0 b0 b1 hW2 hb hP hP' h1 h2
 go_enter Tryz.func107,Tryz.ntmps107
 go_upto_region 1 with (fail)
 rw [HW.out]
 go_wp2_with fail
 refine HS.out.mono ?_
 rintro e w3 ⟨rfl,hb3⟩
 have HB3:=hid (HB.out.trans (hb3.mono HB.out.size))
 clear hb3 c0 c1 c2 c3 c4 c5 c6 c7 c8 c9 d0 d1 d2 d3 d4 d5 d6 d7 d8 d9 a0 a1 a2 a3 a4 a5 a6 a7 a8 a9 e0 e1 e2 e3 e4 e5 e6 e7 e8 e9
 go_wp2_with fail
 go_ret
 exact⟨rfl,HB3.out⟩
theorem goodplace_any (s w:Int) (k od po:Int) (lp:Option Addr) (ln lcp:Nat) (tp:Option Addr) (tn tcp:Nat) (wp:Option Addr) (wn wcp:Nat) (sk fr to q:Int) (L:List Ln) (T:List Tk) (M:List Ln) (W:World) (hw:Words W) (hP:PgM W lp ln lcp L tp tn tcp T wp wn wcp M) (hok:Pgok ⟨k,od,po,L,T,M,sk,fr,to,q⟩) (h1:1≤s) (h4:s≤4) (hw1:1≤w) (hw4:w≤4) (hn:ln≤400∧tn≤400∧wn≤400) :
 Calls Tryz.prog 108 #[.int .i64 s,.int .i64 w,.agg #[.int .u8 k,.int .u32 od,.int .u8 po,.slice lp ln lcp,.slice tp tn tcp,.slice wp wn wcp,.int .u8 sk,.int .u8 fr,.int .u8 to,.int .i64 q]] W fun e w'=>e=.returned (.bool (decide (od≠0) && decide (po≤1) && decide (1≤L.length) && z0q s L && z0s s w od T && z0q s M && z2i T M L && (decide (po=0) || decide (M.length=0))))∧Below W.heap.size W w':=by
 obtain⟨W2,hW2,hbx,hb2⟩:∃ W2,W.alloc (.cells #[.int .u8 k,.int .u32 od,.int .u8 po,.slice lp ln lcp,.slice tp tn tcp,.slice wp wn wcp,.int .u8 sk,.int .u8 fr,.int .u8 to,.int .i64 q] 26)=W2∧W2.heap[W.heap.size]?=some (.cells #[.int .u8 k,.int .u32 od,.int .u8 po,.slice lp ln lcp,.slice tp tn tcp,.slice wp wn wcp,.int .u8 sk,.int .u8 fr,.int .u8 to,.int .i64 q] 26 (0,0))∧Below W.heap.size W W2:=⟨_,rfl,z0c W _,(Below.refl _ _).alloc (Nat.le_refl _) _⟩
 have HW2:=hid hW2
 have HB2:=hid hb2
 have HX2:=hid hbx
 have HP2:=hid (hP.later hb2)
 have HV2:=hid (hw.later hb2)
 have HBI:Hid (Below W2.heap.size W2 W2):=hid (Below.refl _ _)
 have HLL:=hid hP.l.len
 have HLT:=hid hP.t.len
 have HLM:=hid hP.o.len
 have HOK:=hid hok
 obtain⟨hn1,hn2,hn3⟩:=hn
 have hsk:0≤sk∧sk≤255:=hok.sku
 have hfr:0≤fr∧fr≤255:=hok.frm
 have hto:0≤to∧to≤255:=hok.to
 have hpo:0≤po∧po≤255:=hok.policy
 have x6:IntKind.i64.wrap sk=sk:=IntWalk.i64_in _ (by omega)
 have x7:IntKind.i64.wrap fr=fr:=IntWalk.i64_in _ (by omega)
 have x8:IntKind.i64.wrap to=to:=IntWalk.i64_in _ (by omega)
 obtain⟨res,hg⟩:∃ res,res=(decide (od≠0) && decide (po≤1) && decide (1≤L.length) && z0q s L && z0s s w od T && z0q s M && z2i T M L && (decide (po=0) || decide (M.length=0))):=⟨_,rfl⟩
 have HG:=hid hg
 rw [← hg]
 clear hg hW2 hb2 hbx hP hok hw hsk hfr hto hpo
 obtain⟨a0,a1,a2,a3,a4,a5,a6,a7,a8,a9⟩:=z0d k od po lp ln lcp tp tn tcp wp wn wcp sk fr to q HX2.out
 go_enter Tryz.func108,Tryz.ntmps108
 by_cases t1:od≠0
 case neg =>
  have f1:(od==0)=true:=by simpa using t1
  have f1n:(od != 0)=false:=by simpa using t1
  have HF:Hid (res=false):=hid (by rw [HG.out];rw [decide_eq_false (show ¬ od≠0 by exact t1)];simp)
  go_wp2_with fail
  go_ret
  rw [HW2.out]
  exact⟨by rw [HF.out];rfl,HB2.out.trans (HBI.out.mono HB2.out.size)⟩
 have f1:(od==0)=false:=by simpa using t1
 have f1n:(od != 0)=true:=by simpa using t1
 by_cases t2:po≤1
 case neg =>
  have f2:(po != 0)=true:=by simp;omega
  have f3:(po != 1)=true:=by simp;omega
  have HF:Hid (res=false):=hid (by rw [HG.out];rw [decide_eq_false (show ¬ po≤1 by exact t2)];simp)
  go_wp2_with fail
  go_ret
  rw [HW2.out]
  exact⟨by rw [HF.out];rfl,HB2.out.trans (HBI.out.mono HB2.out.size)⟩
 by_cases p0:po=0
 case pos =>
  have f2:(po != 0)=false:=by simp [p0]
  have f3:(po != 1)=true:=by simp [p0]
  have HP0:=hid p0
  clear p0
  by_cases t3:1≤ln
  case neg =>
   have f4:((ln:Int)==0)=true:=by simp;omega
   have HF:Hid (res=false):=hid (by rw [HG.out];rw [decide_eq_false (show ¬ 1≤L.length by rw [HLL.out];exact t3)];simp)
   go_wp2_with fail
   go_ret
   rw [HW2.out]
   exact⟨by rw [HF.out];rfl,HB2.out.trans (HBI.out.mono HB2.out.size)⟩
  have f4:((ln:Int)==0)=false:=by simp;omega
  go_wp2_with fail
  rw [HW2.out]
  refine (z2k s lp ln lcp L W2 (HV2.out.later HBI.out) (HP2.out.later HBI.out).l HOK.out.lines h1 h4 (by omega)).mono ?_
  rintro e w0 ⟨rfl,hb⟩
  have HB3:=hid (HBI.out.trans (hb.mono HBI.out.size))
  clear hb a0 a1 a2 a3 a4 a5 a6 a7 a8 a9
  obtain⟨a0,a1,a2,a3,a4,a5,a6,a7,a8,a9⟩:=z0d k od po lp ln lcp tp tn tcp wp wn wcp sk fr to q (z0b HX2.out HB3.out)
  cases t4:z0q s L
  case false =>
   have HF:Hid (res=false):=hid (by rw [HG.out];rw [t4];simp)
   go_wp2_with fail
   go_ret
   exact⟨by rw [HF.out];rfl,HB2.out.trans (HB3.out.mono HB2.out.size)⟩
  go_wp2_with fail
  refine (z3f s w k od po lp ln lcp tp tn tcp wp wn wcp sk fr to q T w0 (HV2.out.later HB3.out) (HP2.out.later HB3.out).t HOK.out.takes h1 h4 hw1 hw4 (by omega)).mono ?_
  rintro e w1 ⟨rfl,hb⟩
  have HB4:=hid (HB3.out.trans (hb.mono HB3.out.size))
  clear hb a0 a1 a2 a3 a4 a5 a6 a7 a8 a9
  obtain⟨a0,a1,a2,a3,a4,a5,a6,a7,a8,a9⟩:=z0d k od po lp ln lcp tp tn tcp wp wn wcp sk fr to q (z0b HX2.out HB4.out)
  cases t5:z0s s w od T
  case false =>
   have HF:Hid (res=false):=hid (by rw [HG.out];rw [t5];simp)
   go_wp2_with fail
   go_ret
   exact⟨by rw [HF.out];rfl,HB2.out.trans (HB4.out.mono HB2.out.size)⟩
  go_wp2_with fail
  refine (z2k s wp wn wcp M w1 (HV2.out.later HB4.out) (HP2.out.later HB4.out).o HOK.out.owes h1 h4 (by omega)).mono ?_
  rintro e w2 ⟨rfl,hb⟩
  have HB5:=hid (HB4.out.trans (hb.mono HB4.out.size))
  clear hb a0 a1 a2 a3 a4 a5 a6 a7 a8 a9
  obtain⟨a0,a1,a2,a3,a4,a5,a6,a7,a8,a9⟩:=z0d k od po lp ln lcp tp tn tcp wp wn wcp sk fr to q (z0b HX2.out HB5.out)
  cases t6:z0q s M
  case false =>
   have HF:Hid (res=false):=hid (by rw [HG.out];rw [t6];simp)
   go_wp2_with fail
   go_ret
   exact⟨by rw [HF.out];rfl,HB2.out.trans (HB5.out.mono HB2.out.size)⟩
  go_wp2_with fail
  refine (served_any s w k od po lp ln lcp tp tn tcp wp wn wcp sk fr to q L T M w2 (HP2.out.later HB5.out) HOK.out.lines HOK.out.takes HOK.out.owes h1 h4 t4 t6 t5 ⟨by omega,by omega,by omega⟩).mono ?_
  rintro e w3 ⟨rfl,hb⟩
  have HB6:=hid (HB5.out.trans (hb.mono HB5.out.size))
  clear hb a0 a1 a2 a3 a4 a5 a6 a7 a8 a9
  obtain⟨a0,a1,a2,a3,a4,a5,a6,a7,a8,a9⟩:=z0d k od po lp ln lcp tp tn tcp wp wn wcp sk fr to q (z0b HX2.out HB6.out)
  cases t7:z2i T M L
  case false =>
   have HF:Hid (res=false):=hid (by rw [HG.out];rw [t7];simp)
   go_wp2_with fail
   go_ret
   exact⟨by rw [HF.out];rfl,HB2.out.trans (HB6.out.mono HB2.out.size)⟩
  have HF:Hid (res=true):=hid (by rw [HG.out,decide_eq_true t1,decide_eq_true t2,decide_eq_true (show 1≤L.length by rw [HLL.out];exact t3),t4,t5,t6,t7,decide_eq_true HP0.out];rfl)
  go_wp2_with fail
  go_ret
  exact⟨by rw [HF.out];rfl,HB2.out.trans (HB6.out.mono HB2.out.size)⟩
 have p1:po=1:=by have:=HOK.out.policy;dsimp only at this;omega
 have f2:(po != 0)=true:=by simp [p1]
 have f3:(po != 1)=false:=by simp [p1]
 clear p1
 by_cases t3:1≤ln
 case neg =>
  have f4:((ln:Int)==0)=true:=by simp;omega
  have HF:Hid (res=false):=hid (by rw [HG.out];rw [decide_eq_false (show ¬ 1≤L.length by rw [HLL.out];exact t3)];simp)
  go_wp2_with fail
  go_ret
  rw [HW2.out]
  exact⟨by rw [HF.out];rfl,HB2.out.trans (HBI.out.mono HB2.out.size)⟩
 have f4:((ln:Int)==0)=false:=by simp;omega
 go_wp2_with fail
 rw [HW2.out]
 refine (z2k s lp ln lcp L W2 (HV2.out.later HBI.out) (HP2.out.later HBI.out).l HOK.out.lines h1 h4 (by omega)).mono ?_
 rintro e w0 ⟨rfl,hb⟩
 have HB3:=hid (HBI.out.trans (hb.mono HBI.out.size))
 clear hb a0 a1 a2 a3 a4 a5 a6 a7 a8 a9
 obtain⟨a0,a1,a2,a3,a4,a5,a6,a7,a8,a9⟩:=z0d k od po lp ln lcp tp tn tcp wp wn wcp sk fr to q (z0b HX2.out HB3.out)
 cases t4:z0q s L
 case false =>
  have HF:Hid (res=false):=hid (by rw [HG.out];rw [t4];simp)
  go_wp2_with fail
  go_ret
  exact⟨by rw [HF.out];rfl,HB2.out.trans (HB3.out.mono HB2.out.size)⟩
 go_wp2_with fail
 refine (z3f s w k od po lp ln lcp tp tn tcp wp wn wcp sk fr to q T w0 (HV2.out.later HB3.out) (HP2.out.later HB3.out).t HOK.out.takes h1 h4 hw1 hw4 (by omega)).mono ?_
 rintro e w1 ⟨rfl,hb⟩
 have HB4:=hid (HB3.out.trans (hb.mono HB3.out.size))
 clear hb a0 a1 a2 a3 a4 a5 a6 a7 a8 a9
 obtain⟨a0,a1,a2,a3,a4,a5,a6,a7,a8,a9⟩:=z0d k od po lp ln lcp tp tn tcp wp wn wcp sk fr to q (z0b HX2.out HB4.out)
 cases t5:z0s s w od T
 case false =>
  have HF:Hid (res=false):=hid (by rw [HG.out];rw [t5];simp)
  go_wp2_with fail
  go_ret
  exact⟨by rw [HF.out];rfl,HB2.out.trans (HB4.out.mono HB2.out.size)⟩
 go_wp2_with fail
 refine (z2k s wp wn wcp M w1 (HV2.out.later HB4.out) (HP2.out.later HB4.out).o HOK.out.owes h1 h4 (by omega)).mono ?_
 rintro e w2 ⟨rfl,hb⟩
 have HB5:=hid (HB4.out.trans (hb.mono HB4.out.size))
 clear hb a0 a1 a2 a3 a4 a5 a6 a7 a8 a9
 obtain⟨a0,a1,a2,a3,a4,a5,a6,a7,a8,a9⟩:=z0d k od po lp ln lcp tp tn tcp wp wn wcp sk fr to q (z0b HX2.out HB5.out)
 cases t6:z0q s M
 case false =>
  have HF:Hid (res=false):=hid (by rw [HG.out];rw [t6];simp)
  go_wp2_with fail
  go_ret
  exact⟨by rw [HF.out];rfl,HB2.out.trans (HB5.out.mono HB2.out.size)⟩
 go_wp2_with fail
 refine (served_any s w k od po lp ln lcp tp tn tcp wp wn wcp sk fr to q L T M w2 (HP2.out.later HB5.out) HOK.out.lines HOK.out.takes HOK.out.owes h1 h4 t4 t6 t5 ⟨by omega,by omega,by omega⟩).mono ?_
 rintro e w3 ⟨rfl,hb⟩
 have HB6:=hid (HB5.out.trans (hb.mono HB5.out.size))
 clear hb a0 a1 a2 a3 a4 a5 a6 a7 a8 a9
 obtain⟨a0,a1,a2,a3,a4,a5,a6,a7,a8,a9⟩:=z0d k od po lp ln lcp tp tn tcp wp wn wcp sk fr to q (z0b HX2.out HB6.out)
 cases t7:z2i T M L
 case false =>
  have HF:Hid (res=false):=hid (by rw [HG.out];rw [t7];simp)
  go_wp2_with fail
  go_ret
  exact⟨by rw [HF.out];rfl,HB2.out.trans (HB6.out.mono HB2.out.size)⟩
 by_cases z0:wn=0
 case pos =>
  have f5:((wn:Int)==0)=true:=by simp [z0]
  have HZ0:=hid z0
  clear z0
  have HF:Hid (res=true):=hid (by rw [HG.out,decide_eq_true t1,decide_eq_true t2,decide_eq_true (show 1≤L.length by rw [HLL.out];exact t3),t4,t5,t6,t7,decide_eq_true (show M.length=0 by rw [HLM.out];exact HZ0.out)];simp)
  go_wp2_with fail
  go_ret
  exact⟨by rw [HF.out];rfl,HB2.out.trans (HB6.out.mono HB2.out.size)⟩
 have f5:((wn:Int)==0)=false:=by simp;omega
 have HF:Hid (res=false):=hid (by rw [HG.out,decide_eq_true t1,decide_eq_true t2,decide_eq_true (show 1≤L.length by rw [HLL.out];exact t3),t4,t5,t6,t7,decide_eq_false (show ¬ M.length=0 by rw [HLM.out];exact z0),decide_eq_false p0];rfl)
 go_wp2_with fail
 go_ret
 exact⟨by rw [HF.out];rfl,HB2.out.trans (HB6.out.mono HB2.out.size)⟩
theorem goodcancel_any (s w:Int) (k od po:Int) (lp:Option Addr) (ln lcp:Nat) (tp:Option Addr) (tn tcp:Nat) (wp:Option Addr) (wn wcp:Nat) (sk fr to q:Int) (L:List Ln) (T:List Tk) (M:List Ln) (W:World) (hw:Words W) (hP:PgM W lp ln lcp L tp tn tcp T wp wn wcp M) (hok:Pgok ⟨k,od,po,L,T,M,sk,fr,to,q⟩) (h1:1≤s) (h4:s≤4) (hw1:1≤w) (hw4:w≤4) (hn:ln≤400∧tn≤400∧wn≤400) :
 Calls Tryz.prog 109 #[.int .i64 s,.int .i64 w,.agg #[.int .u8 k,.int .u32 od,.int .u8 po,.slice lp ln lcp,.slice tp tn tcp,.slice wp wn wcp,.int .u8 sk,.int .u8 fr,.int .u8 to,.int .i64 q]] W fun e w'=>e=.returned (.bool (decide (od≠0) && z0s s w od T && z0q s M && decide (1≤T.length+M.length)))∧Below W.heap.size W w':=by
 obtain⟨W2,hW2,hbx,hb2⟩:∃ W2,W.alloc (.cells #[.int .u8 k,.int .u32 od,.int .u8 po,.slice lp ln lcp,.slice tp tn tcp,.slice wp wn wcp,.int .u8 sk,.int .u8 fr,.int .u8 to,.int .i64 q] 26)=W2∧W2.heap[W.heap.size]?=some (.cells #[.int .u8 k,.int .u32 od,.int .u8 po,.slice lp ln lcp,.slice tp tn tcp,.slice wp wn wcp,.int .u8 sk,.int .u8 fr,.int .u8 to,.int .i64 q] 26 (0,0))∧Below W.heap.size W W2:=⟨_,rfl,z0c W _,(Below.refl _ _).alloc (Nat.le_refl _) _⟩
 have HW2:=hid hW2
 have HB2:=hid hb2
 have HX2:=hid hbx
 have HP2:=hid (hP.later hb2)
 have HV2:=hid (hw.later hb2)
 have HBI:Hid (Below W2.heap.size W2 W2):=hid (Below.refl _ _)
 have HLL:=hid hP.l.len
 have HLT:=hid hP.t.len
 have HLM:=hid hP.o.len
 have HOK:=hid hok
 obtain⟨hn1,hn2,hn3⟩:=hn
 have hsk:0≤sk∧sk≤255:=hok.sku
 have hfr:0≤fr∧fr≤255:=hok.frm
 have hto:0≤to∧to≤255:=hok.to
 have hpo:0≤po∧po≤255:=hok.policy
 have x6:IntKind.i64.wrap sk=sk:=IntWalk.i64_in _ (by omega)
 have x7:IntKind.i64.wrap fr=fr:=IntWalk.i64_in _ (by omega)
 have x8:IntKind.i64.wrap to=to:=IntWalk.i64_in _ (by omega)
 obtain⟨res,hg⟩:∃ res,res=(decide (od≠0) && z0s s w od T && z0q s M && decide (1≤T.length+M.length)):=⟨_,rfl⟩
 have HG:=hid hg
 rw [← hg]
 clear hg hW2 hb2 hbx hP hok hw hsk hfr hto hpo
 obtain⟨a0,a1,a2,a3,a4,a5,a6,a7,a8,a9⟩:=z0d k od po lp ln lcp tp tn tcp wp wn wcp sk fr to q HX2.out
 go_enter Tryz.func109,Tryz.ntmps109
 by_cases z1:1≤tn
 case pos =>
  have gtn:decide (0<(tn:Int))=true:=decide_eq_true (by omega)
  have gtnn:decide (0<tn)=true:=decide_eq_true (by omega)
  by_cases t1:od≠0
  case neg =>
   have f1:(od==0)=true:=by simpa using t1
   have f1n:(od != 0)=false:=by simpa using t1
   have HF:Hid (res=false):=hid (by rw [HG.out];rw [decide_eq_false (show ¬ od≠0 by exact t1)];simp)
   go_wp2_with fail
   go_ret
   rw [HW2.out]
   exact⟨by rw [HF.out];rfl,HB2.out.trans (HBI.out.mono HB2.out.size)⟩
  have f1:(od==0)=false:=by simpa using t1
  have f1n:(od != 0)=true:=by simpa using t1
  go_wp2_with fail
  rw [HW2.out]
  refine (z3f s w k od po lp ln lcp tp tn tcp wp wn wcp sk fr to q T W2 (HV2.out.later HBI.out) (HP2.out.later HBI.out).t HOK.out.takes h1 h4 hw1 hw4 (by omega)).mono ?_
  rintro e w0 ⟨rfl,hb⟩
  have HB3:=hid (HBI.out.trans (hb.mono HBI.out.size))
  clear hb a0 a1 a2 a3 a4 a5 a6 a7 a8 a9
  obtain⟨a0,a1,a2,a3,a4,a5,a6,a7,a8,a9⟩:=z0d k od po lp ln lcp tp tn tcp wp wn wcp sk fr to q (z0b HX2.out HB3.out)
  cases t2:z0s s w od T
  case false =>
   have HF:Hid (res=false):=hid (by rw [HG.out];rw [t2];simp)
   go_wp2_with fail
   go_ret
   exact⟨by rw [HF.out];rfl,HB2.out.trans (HB3.out.mono HB2.out.size)⟩
  go_wp2_with fail
  refine (z2k s wp wn wcp M w0 (HV2.out.later HB3.out) (HP2.out.later HB3.out).o HOK.out.owes h1 h4 (by omega)).mono ?_
  rintro e w1 ⟨rfl,hb⟩
  have HB4:=hid (HB3.out.trans (hb.mono HB3.out.size))
  clear hb a0 a1 a2 a3 a4 a5 a6 a7 a8 a9
  obtain⟨a0,a1,a2,a3,a4,a5,a6,a7,a8,a9⟩:=z0d k od po lp ln lcp tp tn tcp wp wn wcp sk fr to q (z0b HX2.out HB4.out)
  cases t3:z0q s M
  case false =>
   have HF:Hid (res=false):=hid (by rw [HG.out];rw [t3];simp)
   go_wp2_with fail
   go_ret
   exact⟨by rw [HF.out];rfl,HB2.out.trans (HB4.out.mono HB2.out.size)⟩
  have HF:Hid (res=true):=hid (by rw [HG.out,decide_eq_true t1,t2,t3,decide_eq_true (show 1≤T.length+M.length by rw [HLT.out,HLM.out];omega)];rfl)
  go_wp2_with fail
  go_ret
  exact⟨by rw [HF.out];rfl,HB2.out.trans (HB4.out.mono HB2.out.size)⟩
 have gtn:decide (0<(tn:Int))=false:=decide_eq_false (by omega)
 have gtnn:decide (0<tn)=false:=decide_eq_false (by omega)
 by_cases z2:1≤wn
 case pos =>
  have gwn:decide (0<(wn:Int))=true:=decide_eq_true (by omega)
  have gwnn:decide (0<wn)=true:=decide_eq_true (by omega)
  by_cases t1:od≠0
  case neg =>
   have f1:(od==0)=true:=by simpa using t1
   have f1n:(od != 0)=false:=by simpa using t1
   have HF:Hid (res=false):=hid (by rw [HG.out];rw [decide_eq_false (show ¬ od≠0 by exact t1)];simp)
   go_wp2_with fail
   go_ret
   rw [HW2.out]
   exact⟨by rw [HF.out];rfl,HB2.out.trans (HBI.out.mono HB2.out.size)⟩
  have f1:(od==0)=false:=by simpa using t1
  have f1n:(od != 0)=true:=by simpa using t1
  go_wp2_with fail
  rw [HW2.out]
  refine (z3f s w k od po lp ln lcp tp tn tcp wp wn wcp sk fr to q T W2 (HV2.out.later HBI.out) (HP2.out.later HBI.out).t HOK.out.takes h1 h4 hw1 hw4 (by omega)).mono ?_
  rintro e w0 ⟨rfl,hb⟩
  have HB3:=hid (HBI.out.trans (hb.mono HBI.out.size))
  clear hb a0 a1 a2 a3 a4 a5 a6 a7 a8 a9
  obtain⟨a0,a1,a2,a3,a4,a5,a6,a7,a8,a9⟩:=z0d k od po lp ln lcp tp tn tcp wp wn wcp sk fr to q (z0b HX2.out HB3.out)
  cases t2:z0s s w od T
  case false =>
   have HF:Hid (res=false):=hid (by rw [HG.out];rw [t2];simp)
   go_wp2_with fail
   go_ret
   exact⟨by rw [HF.out];rfl,HB2.out.trans (HB3.out.mono HB2.out.size)⟩
  go_wp2_with fail
  refine (z2k s wp wn wcp M w0 (HV2.out.later HB3.out) (HP2.out.later HB3.out).o HOK.out.owes h1 h4 (by omega)).mono ?_
  rintro e w1 ⟨rfl,hb⟩
  have HB4:=hid (HB3.out.trans (hb.mono HB3.out.size))
  clear hb a0 a1 a2 a3 a4 a5 a6 a7 a8 a9
  obtain⟨a0,a1,a2,a3,a4,a5,a6,a7,a8,a9⟩:=z0d k od po lp ln lcp tp tn tcp wp wn wcp sk fr to q (z0b HX2.out HB4.out)
  cases t3:z0q s M
  case false =>
   have HF:Hid (res=false):=hid (by rw [HG.out];rw [t3];simp)
   go_wp2_with fail
   go_ret
   exact⟨by rw [HF.out];rfl,HB2.out.trans (HB4.out.mono HB2.out.size)⟩
  have HF:Hid (res=true):=hid (by rw [HG.out,decide_eq_true t1,t2,t3,decide_eq_true (show 1≤T.length+M.length by rw [HLT.out,HLM.out];omega)];rfl)
  go_wp2_with fail
  go_ret
  exact⟨by rw [HF.out];rfl,HB2.out.trans (HB4.out.mono HB2.out.size)⟩
 have gwn:decide (0<(wn:Int))=false:=decide_eq_false (by omega)
 have gwnn:decide (0<wn)=false:=decide_eq_false (by omega)
 by_cases t1:od≠0
 case neg =>
  have f1:(od==0)=true:=by simpa using t1
  have f1n:(od != 0)=false:=by simpa using t1
  have HF:Hid (res=false):=hid (by rw [HG.out];rw [decide_eq_false (show ¬ od≠0 by exact t1)];simp)
  go_wp2_with fail
  go_ret
  rw [HW2.out]
  exact⟨by rw [HF.out];rfl,HB2.out.trans (HBI.out.mono HB2.out.size)⟩
 have f1:(od==0)=false:=by simpa using t1
 have f1n:(od != 0)=true:=by simpa using t1
 have HF:Hid (res=false):=hid (by rw [HG.out,decide_eq_false (show ¬ 1≤T.length+M.length by rw [HLT.out,HLM.out];omega)];simp)
 go_wp2_with fail
 go_ret
 rw [HW2.out]
 exact⟨by rw [HF.out];rfl,HB2.out.trans (HBI.out.mono HB2.out.size)⟩
theorem goodmove_any (s w:Int) (k od po:Int) (lp:Option Addr) (ln lcp:Nat) (tp:Option Addr) (tn tcp:Nat) (wp:Option Addr) (wn wcp:Nat) (sk fr to q:Int) (L:List Ln) (T:List Tk) (M:List Ln) (W:World) (hw:Words W) (hP:PgM W lp ln lcp L tp tn tcp T wp wn wcp M) (hok:Pgok ⟨k,od,po,L,T,M,sk,fr,to,q⟩) (h1:1≤s) (h4:s≤4) (hw1:1≤w) (hw4:w≤4) (hn:ln≤400∧tn≤400∧wn≤400) :
 Calls Tryz.prog 110 #[.int .i64 s,.int .i64 w,.agg #[.int .u8 k,.int .u32 od,.int .u8 po,.slice lp ln lcp,.slice tp tn tcp,.slice wp wn wcp,.int .u8 sk,.int .u8 fr,.int .u8 to,.int .i64 q]] W fun e w'=>e=.returned (.bool (decide (od≠0) && z0s s w od T && decide (1≤T.length)))∧Below W.heap.size W w':=by
 obtain⟨W2,hW2,hbx,hb2⟩:∃ W2,W.alloc (.cells #[.int .u8 k,.int .u32 od,.int .u8 po,.slice lp ln lcp,.slice tp tn tcp,.slice wp wn wcp,.int .u8 sk,.int .u8 fr,.int .u8 to,.int .i64 q] 26)=W2∧W2.heap[W.heap.size]?=some (.cells #[.int .u8 k,.int .u32 od,.int .u8 po,.slice lp ln lcp,.slice tp tn tcp,.slice wp wn wcp,.int .u8 sk,.int .u8 fr,.int .u8 to,.int .i64 q] 26 (0,0))∧Below W.heap.size W W2:=⟨_,rfl,z0c W _,(Below.refl _ _).alloc (Nat.le_refl _) _⟩
 have HW2:=hid hW2
 have HB2:=hid hb2
 have HX2:=hid hbx
 have HP2:=hid (hP.later hb2)
 have HV2:=hid (hw.later hb2)
 have HBI:Hid (Below W2.heap.size W2 W2):=hid (Below.refl _ _)
 have HLL:=hid hP.l.len
 have HLT:=hid hP.t.len
 have HLM:=hid hP.o.len
 have HOK:=hid hok
 obtain⟨hn1,hn2,hn3⟩:=hn
 have hsk:0≤sk∧sk≤255:=hok.sku
 have hfr:0≤fr∧fr≤255:=hok.frm
 have hto:0≤to∧to≤255:=hok.to
 have hpo:0≤po∧po≤255:=hok.policy
 have x6:IntKind.i64.wrap sk=sk:=IntWalk.i64_in _ (by omega)
 have x7:IntKind.i64.wrap fr=fr:=IntWalk.i64_in _ (by omega)
 have x8:IntKind.i64.wrap to=to:=IntWalk.i64_in _ (by omega)
 obtain⟨res,hg⟩:∃ res,res=(decide (od≠0) && z0s s w od T && decide (1≤T.length)):=⟨_,rfl⟩
 have HG:=hid hg
 rw [← hg]
 clear hg hW2 hb2 hbx hP hok hw hsk hfr hto hpo
 obtain⟨a0,a1,a2,a3,a4,a5,a6,a7,a8,a9⟩:=z0d k od po lp ln lcp tp tn tcp wp wn wcp sk fr to q HX2.out
 go_enter Tryz.func110,Tryz.ntmps110
 by_cases t1:od≠0
 case neg =>
  have f1:(od==0)=true:=by simpa using t1
  have f1n:(od != 0)=false:=by simpa using t1
  have HF:Hid (res=false):=hid (by rw [HG.out];rw [decide_eq_false (show ¬ od≠0 by exact t1)];simp)
  go_wp2_with fail
  go_ret
  rw [HW2.out]
  exact⟨by rw [HF.out];rfl,HB2.out.trans (HBI.out.mono HB2.out.size)⟩
 have f1:(od==0)=false:=by simpa using t1
 have f1n:(od != 0)=true:=by simpa using t1
 by_cases t3:1≤tn
 case neg =>
  have gtn:decide (0<(tn:Int))=false:=decide_eq_false (by omega)
  have gtnn:decide (0<tn)=false:=decide_eq_false (by omega)
  have HF:Hid (res=false):=hid (by rw [HG.out];rw [decide_eq_false (show ¬ 1≤T.length by rw [HLT.out];exact t3)];simp)
  go_wp2_with fail
  go_ret
  rw [HW2.out]
  exact⟨by rw [HF.out];rfl,HB2.out.trans (HBI.out.mono HB2.out.size)⟩
 have gtn:decide (0<(tn:Int))=true:=decide_eq_true (by omega)
 have gtnn:decide (0<tn)=true:=decide_eq_true (by omega)
 go_wp2_with fail
 rw [HW2.out]
 refine (z3f s w k od po lp ln lcp tp tn tcp wp wn wcp sk fr to q T W2 (HV2.out.later HBI.out) (HP2.out.later HBI.out).t HOK.out.takes h1 h4 hw1 hw4 (by omega)).mono ?_
 rintro e w0 ⟨rfl,hb⟩
 have HB3:=hid (HBI.out.trans (hb.mono HBI.out.size))
 clear hb a0 a1 a2 a3 a4 a5 a6 a7 a8 a9
 obtain⟨a0,a1,a2,a3,a4,a5,a6,a7,a8,a9⟩:=z0d k od po lp ln lcp tp tn tcp wp wn wcp sk fr to q (z0b HX2.out HB3.out)
 cases t2:z0s s w od T
 case false =>
  have HF:Hid (res=false):=hid (by rw [HG.out];rw [t2];simp)
  go_wp2_with fail
  go_ret
  exact⟨by rw [HF.out];rfl,HB2.out.trans (HB3.out.mono HB2.out.size)⟩
 have HF:Hid (res=true):=hid (by rw [HG.out,decide_eq_true t1,t2,decide_eq_true (show 1≤T.length by rw [HLT.out];exact t3)];rfl)
 go_wp2_with fail
 go_ret
 exact⟨by rw [HF.out];rfl,HB2.out.trans (HB3.out.mono HB2.out.size)⟩
theorem goodtransfer_any (s w:Int) (k od po:Int) (lp:Option Addr) (ln lcp:Nat) (tp:Option Addr) (tn tcp:Nat) (wp:Option Addr) (wn wcp:Nat) (sk fr to q:Int) (L:List Ln) (T:List Tk) (M:List Ln) (W:World) (hw:Words W) (hP:PgM W lp ln lcp L tp tn tcp T wp wn wcp M) (hok:Pgok ⟨k,od,po,L,T,M,sk,fr,to,q⟩) (h1:1≤s) (h4:s≤4) (hw1:1≤w) (hw4:w≤4) (hn:ln≤400∧tn≤400∧wn≤400) :
 Calls Tryz.prog 112 #[.int .i64 s,.int .i64 w,.agg #[.int .u8 k,.int .u32 od,.int .u8 po,.slice lp ln lcp,.slice tp tn tcp,.slice wp wn wcp,.int .u8 sk,.int .u8 fr,.int .u8 to,.int .i64 q]] W fun e w'=>e=.returned (.bool (decide (sk<s) && decide (fr<w) && decide (to<w) && decide (fr≠to) && decide (1≤q)))∧Below W.heap.size W w':=by
 obtain⟨W2,hW2,hbx,hb2⟩:∃ W2,W.alloc (.cells #[.int .u8 k,.int .u32 od,.int .u8 po,.slice lp ln lcp,.slice tp tn tcp,.slice wp wn wcp,.int .u8 sk,.int .u8 fr,.int .u8 to,.int .i64 q] 26)=W2∧W2.heap[W.heap.size]?=some (.cells #[.int .u8 k,.int .u32 od,.int .u8 po,.slice lp ln lcp,.slice tp tn tcp,.slice wp wn wcp,.int .u8 sk,.int .u8 fr,.int .u8 to,.int .i64 q] 26 (0,0))∧Below W.heap.size W W2:=⟨_,rfl,z0c W _,(Below.refl _ _).alloc (Nat.le_refl _) _⟩
 have HW2:=hid hW2
 have HB2:=hid hb2
 have HX2:=hid hbx
 have HP2:=hid (hP.later hb2)
 have HV2:=hid (hw.later hb2)
 have HBI:Hid (Below W2.heap.size W2 W2):=hid (Below.refl _ _)
 have HLL:=hid hP.l.len
 have HLT:=hid hP.t.len
 have HLM:=hid hP.o.len
 have HOK:=hid hok
 obtain⟨hn1,hn2,hn3⟩:=hn
 have hsk:0≤sk∧sk≤255:=hok.sku
 have hfr:0≤fr∧fr≤255:=hok.frm
 have hto:0≤to∧to≤255:=hok.to
 have hpo:0≤po∧po≤255:=hok.policy
 have x6:IntKind.i64.wrap sk=sk:=IntWalk.i64_in _ (by omega)
 have x7:IntKind.i64.wrap fr=fr:=IntWalk.i64_in _ (by omega)
 have x8:IntKind.i64.wrap to=to:=IntWalk.i64_in _ (by omega)
 obtain⟨res,hg⟩:∃ res,res=(decide (sk<s) && decide (fr<w) && decide (to<w) && decide (fr≠to) && decide (1≤q)):=⟨_,rfl⟩
 have HG:=hid hg
 rw [← hg]
 clear hg hW2 hb2 hbx hP hok hw hsk hfr hto hpo
 obtain⟨a0,a1,a2,a3,a4,a5,a6,a7,a8,a9⟩:=z0d k od po lp ln lcp tp tn tcp wp wn wcp sk fr to q HX2.out
 go_enter Tryz.func112,Tryz.ntmps112
 by_cases t1:sk<s
 case neg =>
  have dt1:decide (sk<s)=false:=decide_eq_false (by omega)
  have HF:Hid (res=false):=hid (by rw [HG.out];rw [decide_eq_false (show ¬ sk<s by exact t1)];simp)
  go_wp2_with fail
  go_ret
  rw [HW2.out]
  exact⟨by rw [HF.out];rfl,HB2.out.trans (HBI.out.mono HB2.out.size)⟩
 have dt1:decide (sk<s)=true:=decide_eq_true (by omega)
 by_cases t2:fr<w
 case neg =>
  have dt2:decide (fr<w)=false:=decide_eq_false (by omega)
  have HF:Hid (res=false):=hid (by rw [HG.out];rw [decide_eq_false (show ¬ fr<w by exact t2)];simp)
  go_wp2_with fail
  go_ret
  rw [HW2.out]
  exact⟨by rw [HF.out];rfl,HB2.out.trans (HBI.out.mono HB2.out.size)⟩
 have dt2:decide (fr<w)=true:=decide_eq_true (by omega)
 by_cases t3:to<w
 case neg =>
  have dt3:decide (to<w)=false:=decide_eq_false (by omega)
  have HF:Hid (res=false):=hid (by rw [HG.out];rw [decide_eq_false (show ¬ to<w by exact t3)];simp)
  go_wp2_with fail
  go_ret
  rw [HW2.out]
  exact⟨by rw [HF.out];rfl,HB2.out.trans (HBI.out.mono HB2.out.size)⟩
 have dt3:decide (to<w)=true:=decide_eq_true (by omega)
 by_cases t4:fr≠to
 case neg =>
  have dt4:(fr != to)=false:=by simpa using t4
  have HF:Hid (res=false):=hid (by rw [HG.out];rw [decide_eq_false (show ¬ fr≠to by exact t4)];simp)
  go_wp2_with fail
  go_ret
  rw [HW2.out]
  exact⟨by rw [HF.out];rfl,HB2.out.trans (HBI.out.mono HB2.out.size)⟩
 have dt4:(fr != to)=true:=by simpa using t4
 by_cases t5:1≤q
 case neg =>
  have dt5:decide (1≤q)=false:=decide_eq_false (by omega)
  have HF:Hid (res=false):=hid (by rw [HG.out];rw [decide_eq_false (show ¬ 1≤q by exact t5)];simp)
  go_wp2_with fail
  go_ret
  rw [HW2.out]
  exact⟨by rw [HF.out];rfl,HB2.out.trans (HBI.out.mono HB2.out.size)⟩
 have dt5:decide (1≤q)=true:=decide_eq_true (by omega)
 have HF:Hid (res=true):=hid (by rw [HG.out,decide_eq_true t1,decide_eq_true t2,decide_eq_true t3,decide_eq_true t4,decide_eq_true t5];rfl)
 go_wp2_with fail
 go_ret
 rw [HW2.out]
 exact⟨by rw [HF.out];rfl,HB2.out.trans (HBI.out.mono HB2.out.size)⟩
end Go.Proofs.YtclbkfpbdidaiaaGreatDoor
