import Derived.Test.YtclbkfpbdidaiaaGreatDoorPA99
import Derived.Test.YtclbkfpbdidaiaaGreatDoorPA26
import Derived.Deep.Cut
namespace Go.Proofs.YtclbkfpbdidaiaaGreatDoor
open Go.Lib (hid)
set_option maxHeartbeats 8000000
open Go.RowKit Go.ChangeShapes Go.WideShapes
set_option linter.unusedVariables false
set_option linter.unusedSimpArgs false
set_option maxRecDepth 10000
theorem box_cells {w:World} {X:Nat} {o a r q:Int} (h:w.heap[X]?=some (.cells #[.int .u32 o,.int .u8 a,.int .u8 r,.int .i64 q] 73 (0,0))):w.cell? ⟨X,0,none⟩=some (.int .u32 o)∧w.cell? ⟨X,1,none⟩=some (.int .u8 a)∧w.cell? ⟨X,2,none⟩=some (.int .u8 r)∧w.cell? ⟨X,3,none⟩=some (.int .i64 q):=⟨z0a h rfl,z0a h rfl,z0a h rfl,z0a h rfl⟩
theorem houses_any (t:Int) (tp:Option Addr) (tn tcp:Nat) (T:List Tk) (W:World) (hT:TKL W tp tn tcp T) (hn:tn≤1000) :
 Calls Tryz.prog 81 #[.int .u8 t,.slice tp tn tcp] W fun e w'=>∃ v H,e=.returned v∧FillS W w' v H (z1c t T) tn:=by
 have HT:=hid hT
 have HST:=hid fun j (hj:j<tn)=>houses_take t T j (by rw [hT.len];exact hj)
 have HET:Hid (z1c t (T.take tn)=z1c t T):=hid (by rw [← hT.len,List.take_length])
 have hcap:=hT.cap
 clear hT
 go_enter Tryz.func81,Tryz.ntmps81
 go_wp2_with fail
 go_loopw [5,11] (fun v i wr=>∃ j:Nat,j≤tn∧i=.int .i64 j∧Hid (Hst W wr v t T j)) (fun _ i _=>tn-(Go.RowKit.intOf i).toNat)
 case atStart=>exact⟨0,Nat.zero_le _,rfl,hid (.inl ⟨rfl,rfl,Below.refl _ _⟩)⟩
 case round =>
  obtain⟨j,hj,rfl,HI⟩:=hrel
  by_cases hlt:j<tn
  case neg =>
   obtain rfl:j=tn:=by omega
   obtain⟨H0,hf⟩:=HI.out.fill
   rw [HET.out] at hf
   have HF:=hid hf
   clear hf
   go_wp2_with fail
   go_ret
   exact⟨_,H0,rfl,HF.out⟩
  have hlt':(j:Int)<tn:=by omega
  obtain⟨b,off,rfl,_,k0,k1,k2,k3⟩:=z0z (HT.out.later HI.out.below) hlt
  have HTC:Hid (∀ i,i<tn→∀ w',Below W.heap.size W w'→w'.cell? ⟨b,off+i*4,none⟩=some (.int .u32 (T.getD i tk0).1)∧w'.cell? ⟨b,off+i*4+1,none⟩=some (.int .u8 (T.getD i tk0).2.1)∧w'.cell? ⟨b,off+i*4+2,none⟩=some (.int .u8 (T.getD i tk0).2.2.1)∧w'.cell? ⟨b,off+i*4+3,none⟩=some (.int .i64 (T.getD i tk0).2.2.2)):=hid fun i hi w' h=>by
   obtain⟨b',off',he,_,d0,d1,d2,d3⟩:=z0z (HT.out.later h) hi
   cases he
   exact⟨d0,d1,d2,d3⟩
  have hst:=HST.out j hlt
  generalize hx:T.getD j tk0=x at *
  obtain⟨o,a,r,q⟩:=x
  dsimp only at k0 k1 k2 k3
  have HX:=hid hx
  have HS:=hid hst
  clear hst hx
  -- the box of the take
  obtain⟨W1,hW1,hs1,hbx,hb1⟩:∃ W1,wr.alloc (.cells #[.int .u32 o,.int .u8 a,.int .u8 r,.int .i64 q] 73)=W1∧W1.heap.size=wr.heap.size+1∧W1.heap[wr.heap.size]?=some (.cells #[.int .u32 o,.int .u8 a,.int .u8 r,.int .i64 q] 73 (0,0))∧Below wr.heap.size wr W1:=⟨_,rfl,by simp,z0c wr _,(Below.refl _ _).alloc (Nat.le_refl _) _⟩
  have HW1:=hid hW1
  have HS1:=hid hs1
  have HBX:=hid hbx
  have HB1:=hid hb1
  clear hW1 hs1 hbx hb1
  have hszr:=HI.out.below.size
  go_wp2_with fail
  rw [HW1.out]
  obtain⟨x0,x1,x2,x3⟩:=box_cells HBX.out
  rcases HI.out with ⟨hj0,hv0,hbw⟩ | ⟨H0,h0,S0,s0,hw,he,ht0,hr0,hj1⟩
  case inl =>
   subst hv0
   have hd0:((j:Int)==0)=true:=by simp [hj0]
   have HF:=hid ((((FillS.nil W).later hbw).later HB1.out).mono (Nat.zero_le j))
   have HHN:Hid (z1c t (T.take (j+1))=[] ++ [(t,r,[lnT (o,a,r,q)])]):=hid (by
    rw [HS.out,hj0]
    rfl)
   have HJ0:=hid hj0
   have HLT:Hid (∀ b,(Value.slice none 0 0).ownBlock=some b→b<wr.heap.size):=hid fun b hb=>by cases hb
   obtain⟨m,hm⟩:∃ m,([]:List Hs).length=m:=⟨_,rfl⟩
   have HM:=hid hm
   have HMJ:Hid (m≤j):=hid (by rw [← hm];exact Nat.zero_le _)
   clear hj0 hbw hm
   have HFA:=hid fun (z:Nat)=>HF.out.later (show Below W1.heap.size W1 ((W1.drewN z).alloc (.cells #[.int .u8 t,.int .u8 r,.slice none 0 0] 52)) from (z0i (Below.refl _ _) z).alloc (Nat.le_refl _) _)
   have HBA:=hid fun (z:Nat)=>z0b HBX.out (show Below W1.heap.size W1 ((W1.drewN z).alloc (.cells #[.int .u8 t,.int .u8 r,.slice none 0 0] 52)) from (z0i (Below.refl _ _) z).alloc (Nat.le_refl _) _)
   go_quiet (fail)
   go_upto_region 7 with (at_builtin;refine z0h (k:=3) (by decide) Tryz.underlying48 info_step rfl (by omega) rfl _ _ rfl (.slice none 0 0) m (z0v sc []) rfl (by rw [← HM.out];exact z2a (HFA.out _).own) (some ⟨W1.heap.size,0,none⟩) 1 1 (z0v sc [(t,r,none,0,0)]) rfl rfl (fun h=>by cases h) (step_news (c:=#[.int .u8 t,.int .u8 r,.slice none 0 0]) (z0c (W1.drewN _) _) rfl) (z1r sc_one _) (by have:=HMJ.out;omega) ?_;intro p3 c3 w3 h1 h2 h3)
   have hF3:=(HFA.out _).app (H':=[(t,r,none,0,0)]) (S':=[(t,r,[])]) rfl ⟨⟨rfl,rfl,SlG.empty _⟩,trivial⟩ (fun h hh h0=>by obtain rfl:=List.mem_singleton.1 hh;exact absurd h0 (Nat.lt_irrefl 0)) (by rw [HM.out];exact h1) h2 (by rw [HM.out];exact h3)
   rw [HM.out] at hF3
   have hBX3:=(h2.block wr.heap.size (z1s (HBA.out _)) fun hb=>by have:=HLT.out _ hb;omega).trans (HBA.out _)
   obtain⟨g,hg,hgl⟩:∃ g,p3=some ⟨g,0,none⟩∧g≠wr.heap.size:=by
    rcases h1.2 with ⟨he,h0⟩ | ⟨g,cap,cur,he,_,hgb,_⟩
    · omega
    · cases he
      refine⟨g,rfl,fun hc=>?_⟩
      rw [hc,hBX3] at hgb
      cases hgb
   subst hg
   have HBX3:=hid hBX3
   have HG:=hid hgl
   have HW3:=hid (Hw.new hF3)
   have HIX:Hid (∀ b,(itm (t,r,none,0,0)).ownBlock=some b→b≠wr.heap.size):=hid fun b hb=>by cases hb
   clear h1 h2 h3 hF3 hBX3 hgl HF HFA HBA
   obtain⟨lq,hlq⟩:∃ lq,([]:List Ln).length=lq:=⟨_,rfl⟩
   have HLQ:=hid hlq
   have HLJ:Hid (lq≤j):=hid (by rw [← hlq];exact Nat.zero_le _)
   clear hlq
   have HSN:Hid (hstep t (z1c t (T.take j)) (o,a,r,q)=[] ++ [(t,r,[] ++ [(a,q)])]):=hid (by rw [HJ0.out];rfl)
   have hwm:wrap64 (m:Int)=m:=by have:=HMJ.out;unfold wrap64;omega
   have hm0:(0:Int)≤m:=by omega
   go_upto_region 8 with (fail)
   clear hwm hm0
   refine wp_region_held_drew (S:=fun w'=>Hid (w'.heap[wr.heap.size]?=some (.cells #[.int .u32 o,.int .u8 a,.int .u8 r,.int .i64 q] 73 (0,0)))) (by kernel_rfl) HBX3 (fun hHeld=>?_)
   refine wpAnyH_take (i:=0) (oi:=⟨some 41,_,_,_,_,_⟩) (v:=(.pointer (some ⟨g,m*3,none⟩))) rfl (by kernel_rfl) (by kernel_rfl) (by kernel_rfl) (fun _ _ _ h=>h) (Or.inl ⟨by rfl,fun w' hw'=>?_⟩) (by assumption) ?_
   · clear hHeld
     go_simp
   simp only [Act.put,sIB,sCZ,sCS]
   refine wpAnyH_take (i:=1) (oi:=⟨some 42,_,_,_,_,_⟩) (v:=(.pointer (some ⟨g,m*3,none⟩))) rfl (by kernel_rfl) (by kernel_rfl) (by kernel_rfl) (fun _ _ _ h=>h) (Or.inl ⟨by rfl,fun w' hw'=>?_⟩) (by assumption) ?_
   · clear hHeld
     go_simp
   simp only [Act.put,sIB,sCZ,sCS]
   refine wpAnyH_take (i:=2) (oi:=⟨some 43,_,_,_,_,_⟩) (v:=(.pointer (some ⟨g,m*3,none⟩))) rfl (by kernel_rfl) (by kernel_rfl) (by kernel_rfl) (fun _ _ _ h=>h) (Or.inl ⟨by rfl,fun w' hw'=>?_⟩) (by assumption) ?_
   · clear hHeld
     go_simp
   simp only [Act.put,sIB,sCZ,sCS]
   refine wpAnyH_take (i:=3) (oi:=⟨some 44,_,_,_,_,_⟩) (v:=(.pointer (some ⟨g,m*3+2,none⟩))) rfl (by kernel_rfl) (by kernel_rfl) (by kernel_rfl) (fun _ _ _ h=>h) (Or.inl ⟨by rfl,fun w' hw'=>?_⟩) (by assumption) ?_
   · clear hHeld
     go_simp
   simp only [Act.put,sIB,sCZ,sCS]
   refine wpAnyH_take (i:=5) (oi:=⟨some 46,_,_,_,_,_⟩) (v:=(.pointer (some ⟨wr.heap.size,1,none⟩))) rfl (by kernel_rfl) (by kernel_rfl) (by kernel_rfl) (fun _ _ _ h=>h) (Or.inl ⟨by rfl,fun w' hw'=>?_⟩) (by assumption) ?_
   · clear hHeld
     go_simp
   simp only [Act.put,sIB,sCZ,sCS]
   refine wpAnyH_take (i:=6) (oi:=⟨some 47,_,_,_,_,_⟩) (v:=(.int .u8 a)) rfl (by kernel_rfl) (by kernel_rfl) (by kernel_rfl) (fun _ _ _ h=>h) (Or.inl ⟨by rfl,fun w' hw'=>?_⟩) (by assumption) ?_
   · obtain⟨g0,g1,g2,g3⟩:=box_cells hw'.out
     clear hHeld
     go_simp
   simp only [Act.put,sIB,sCZ,sCS]
   refine wpAnyH_take (i:=7) (oi:=⟨some 48,_,_,_,_,_⟩) (v:=(.pointer (some ⟨wr.heap.size,3,none⟩))) rfl (by kernel_rfl) (by kernel_rfl) (by kernel_rfl) (fun _ _ _ h=>h) (Or.inl ⟨by rfl,fun w' hw'=>?_⟩) (by assumption) ?_
   · clear hHeld
     go_simp
   simp only [Act.put,sIB,sCZ,sCS]
   refine wpAnyH_take (i:=8) (oi:=⟨some 49,_,_,_,_,_⟩) (v:=(.int .i64 q)) rfl (by kernel_rfl) (by kernel_rfl) (by kernel_rfl) (fun _ _ _ h=>h) (Or.inl ⟨by rfl,fun w' hw'=>?_⟩) (by assumption) ?_
   · obtain⟨g0,g1,g2,g3⟩:=box_cells hw'.out
     clear hHeld
     go_simp
   simp only [Act.put,sIB,sCZ,sCS]
   refine wpAnyH_take (i:=9) (oi:=⟨some 50,_,_,_,_,_⟩) (v:=(.agg #[.int .u8 a,.int .i64 q])) rfl (by kernel_rfl) (by kernel_rfl) (by kernel_rfl) (fun _ _ _ h=>h) (Or.inl ⟨by rfl,fun w' hw'=>?_⟩) (by assumption) ?_
   · clear hHeld
     go_simp
   simp only [Act.put,sIB,sCZ,sCS]
   have HD:=hid (HW3.out.later (show Below w3.heap.size w3 w3.drew from (Below.refl _ _).drew))
   have HXD:Hid (w3.drew.heap[wr.heap.size]?=some (.cells #[.int .u32 o,.int .u8 a,.int .u8 r,.int .i64 q] 73 (0,0))):=HBX3
   generalize w3.drew=Wd at *
   refine wpAnyH_ready (rs:=[4,10]) (by kernel_rfl) (by simp) (AllReadyH.cons rfl (fun K hK=>?_) (AllReadyH.cons rfl (fun K hK=>?_) AllReadyH.nil))
   · have hv:=(z1q HD.out.fill.own).1
     rw [HM.out] at hv
     unfold itm at hv
     dsimp only at hv
     go_simp
     refine hK.out _ _ HXD (fun hHeld2=>?_)
     clear hK K hHeld
     have hHeld:=hHeld2
     clear hHeld2
     try simp only [Act.put,sIB,sCZ,sCS]
     clear hv
     refine wpAnyH_ready (rs:=[10]) (by kernel_rfl) (by simp) (AllReadyH.cons rfl (fun K hK=>?_) AllReadyH.nil)
     go_simp
     have HA2:=hid (HD.out.later (show Below Wd.heap.size Wd (Wd.alloc (.cells #[.int .u8 a,.int .i64 q] 76)) from (Below.refl _ _).alloc (Nat.le_refl _) _))
     have HX2:=hid (z0b HXD.out (show Below Wd.heap.size Wd (Wd.alloc (.cells #[.int .u8 a,.int .i64 q] 76)) from (Below.refl _ _).alloc (Nat.le_refl _) _))
     refine hK.out _ _ HX2 (fun hHeld2=>?_)
     clear hK K hHeld
     have hHeld:=hHeld2
     clear hHeld2
     try simp only [Act.put,sIB,sCZ,sCS]
     refine wpAnyH_ready (rs:=[11]) (by kernel_rfl) (by simp) (AllReadyH.cons rfl (fun K hK=>?_) AllReadyH.nil)
     refine z0u (k:=2) (by decide) Tryz.underlying23 info_line rfl (by omega) rfl (.tmp 45) (.tmp 51) rfl (.slice none 0 0) lq (z0v lc ([]:List Ln)) (by simp [Act.eval]) (by rw [← HLQ.out];exact z2a HA2.out.items) (some ⟨Wd.heap.size,0,none⟩) 1 1 (z0v lc [((a,q):Ln)]) (by simp [Act.eval]) rfl (fun h=>by cases h) (line_news Wd (a,q)) (z1r lc_one _) (by have:=HLJ.out;omega) ?_
     intro p4 c4 w4 h1 h2 h3
     have HA3:=hid (HA2.out.app h1 h2 h3)
     have HX3:=hid ((h2.block wr.heap.size (z1s HX2.out) fun hb=>HIX.out _ hb rfl).trans HX2.out)
     clear h1 h2 h3
     refine hK.out _ _ HX3 (fun hHeld2=>?_)
     clear hK K hHeld
     have hHeld:=hHeld2
     clear hHeld2
     try simp only [Act.put,sIB,sCZ,sCS]
     refine wpAnyH_take (i:=12) (oi:=⟨some 53,_,_,_,_,_⟩) (v:=(.pointer (some ⟨g,m*3,none⟩))) rfl (by kernel_rfl) (by kernel_rfl) (by kernel_rfl) (fun _ _ _ h=>h) (Or.inl ⟨by rfl,fun w' hw'=>?_⟩) (by assumption) ?_
     · clear hHeld
       go_simp
     simp only [Act.put,sIB,sCZ,sCS]
     refine wpAnyH_take (i:=13) (oi:=⟨some 54,_,_,_,_,_⟩) (v:=(.pointer (some ⟨g,m*3+2,none⟩))) rfl (by kernel_rfl) (by kernel_rfl) (by kernel_rfl) (fun _ _ _ h=>h) (Or.inl ⟨by rfl,fun w' hw'=>?_⟩) (by assumption) ?_
     · clear hHeld
       go_simp
     simp only [Act.put,sIB,sCZ,sCS]
     refine wpAnyH_ready (rs:=[14]) (by kernel_rfl) (by simp) (AllReadyH.cons rfl (fun K hK=>?_) AllReadyH.nil)
     have hc2:=(z1q HA3.out.own).1
     have hfz:=(z1q HA3.out.own).2
     rw [HM.out] at hc2 hfz
     have hA4:=HA3.out.put
     rw [HM.out] at hA4
     have HA4:=hid hA4
     have HX4:Hid ((w4.setCell ⟨g,m*3+2,none⟩ (.slice p4 (lq+1) c4)).heap[wr.heap.size]?=_):=hid ((Below.heap_setCell _ _ _ _ (fun hc=>HG.out hc.symm)).trans HX3.out)
     clear hA4
     go_simp
     refine hK.out _ _ HX4 (fun hHeld2=>?_)
     clear hc2 hfz
     clear hK K hHeld
     have hHeld:=hHeld2
     clear hHeld2
     try simp only [Act.put,sIB,sCZ,sCS]
     refine wpAnyH_done (by kernel_rfl) ?_ _
     clear hHeld
     go_wp2_with fail
     go_roundw
     case rel=>exact⟨j+1,by omega,by go_num,hid (.inr ⟨_,_,_,_,HA4.out.mono (Nat.le_refl (j+1)),by rw [HS.out];exact HSN.out.symm,rfl,by rw [Nat.add_sub_cancel,HX.out],by omega⟩)⟩
     case measure=>simp [Go.RowKit.intOf];omega
   · go_simp
     have HA2:=hid (HD.out.later (show Below Wd.heap.size Wd (Wd.alloc (.cells #[.int .u8 a,.int .i64 q] 76)) from (Below.refl _ _).alloc (Nat.le_refl _) _))
     have HX2:=hid (z0b HXD.out (show Below Wd.heap.size Wd (Wd.alloc (.cells #[.int .u8 a,.int .i64 q] 76)) from (Below.refl _ _).alloc (Nat.le_refl _) _))
     refine hK.out _ _ HX2 (fun hHeld2=>?_)
     clear hK K hHeld
     have hHeld:=hHeld2
     clear hHeld2
     try simp only [Act.put,sIB,sCZ,sCS]
     refine wpAnyH_ready (rs:=[4]) (by kernel_rfl) (by simp) (AllReadyH.cons rfl (fun K hK=>?_) AllReadyH.nil)
     have hv:=(z1q HA2.out.fill.own).1
     rw [HM.out] at hv
     unfold itm at hv
     dsimp only at hv
     go_simp
     refine hK.out _ _ HX2 (fun hHeld2=>?_)
     clear hK K hHeld
     have hHeld:=hHeld2
     clear hHeld2
     try simp only [Act.put,sIB,sCZ,sCS]
     clear hv
     refine wpAnyH_ready (rs:=[11]) (by kernel_rfl) (by simp) (AllReadyH.cons rfl (fun K hK=>?_) AllReadyH.nil)
     refine z0u (k:=2) (by decide) Tryz.underlying23 info_line rfl (by omega) rfl (.tmp 45) (.tmp 51) rfl (.slice none 0 0) lq (z0v lc ([]:List Ln)) (by simp [Act.eval]) (by rw [← HLQ.out];exact z2a HA2.out.items) (some ⟨Wd.heap.size,0,none⟩) 1 1 (z0v lc [((a,q):Ln)]) (by simp [Act.eval]) rfl (fun h=>by cases h) (line_news Wd (a,q)) (z1r lc_one _) (by have:=HLJ.out;omega) ?_
     intro p4 c4 w4 h1 h2 h3
     have HA3:=hid (HA2.out.app h1 h2 h3)
     have HX3:=hid ((h2.block wr.heap.size (z1s HX2.out) fun hb=>HIX.out _ hb rfl).trans HX2.out)
     clear h1 h2 h3
     refine hK.out _ _ HX3 (fun hHeld2=>?_)
     clear hK K hHeld
     have hHeld:=hHeld2
     clear hHeld2
     try simp only [Act.put,sIB,sCZ,sCS]
     refine wpAnyH_take (i:=12) (oi:=⟨some 53,_,_,_,_,_⟩) (v:=(.pointer (some ⟨g,m*3,none⟩))) rfl (by kernel_rfl) (by kernel_rfl) (by kernel_rfl) (fun _ _ _ h=>h) (Or.inl ⟨by rfl,fun w' hw'=>?_⟩) (by assumption) ?_
     · clear hHeld
       go_simp
     simp only [Act.put,sIB,sCZ,sCS]
     refine wpAnyH_take (i:=13) (oi:=⟨some 54,_,_,_,_,_⟩) (v:=(.pointer (some ⟨g,m*3+2,none⟩))) rfl (by kernel_rfl) (by kernel_rfl) (by kernel_rfl) (fun _ _ _ h=>h) (Or.inl ⟨by rfl,fun w' hw'=>?_⟩) (by assumption) ?_
     · clear hHeld
       go_simp
     simp only [Act.put,sIB,sCZ,sCS]
     refine wpAnyH_ready (rs:=[14]) (by kernel_rfl) (by simp) (AllReadyH.cons rfl (fun K hK=>?_) AllReadyH.nil)
     have hc2:=(z1q HA3.out.own).1
     have hfz:=(z1q HA3.out.own).2
     rw [HM.out] at hc2 hfz
     have hA4:=HA3.out.put
     rw [HM.out] at hA4
     have HA4:=hid hA4
     have HX4:Hid ((w4.setCell ⟨g,m*3+2,none⟩ (.slice p4 (lq+1) c4)).heap[wr.heap.size]?=_):=hid ((Below.heap_setCell _ _ _ _ (fun hc=>HG.out hc.symm)).trans HX3.out)
     clear hA4
     go_simp
     refine hK.out _ _ HX4 (fun hHeld2=>?_)
     clear hc2 hfz
     clear hK K hHeld
     have hHeld:=hHeld2
     clear hHeld2
     try simp only [Act.put,sIB,sCZ,sCS]
     refine wpAnyH_done (by kernel_rfl) ?_ _
     clear hHeld
     go_wp2_with fail
     go_roundw
     case rel=>exact⟨j+1,by omega,by go_num,hid (.inr ⟨_,_,_,_,HA4.out.mono (Nat.le_refl (j+1)),by rw [HS.out];exact HSN.out.symm,rfl,by rw [Nat.add_sub_cancel,HX.out],by omega⟩)⟩
     case measure=>simp [Go.RowKit.intOf];omega
  case inr =>
   have hj0:¬ j=0:=by omega
   have hd0:((j:Int)==0)=false:=by simp;omega
   obtain⟨k,hk⟩:∃ k,j=k+1:=⟨j-1,by omega⟩
   have hji:(j:Int)-1=k:=by omega
   have hkn:(k:Int)<tn:=by omega
   obtain⟨y0,y1,y2,y3⟩:=HTC.out k (by omega) W1 (hw.fill.below.trans (HB1.out.mono hszr))
   obtain⟨S',L',q',R⟩:=run_all t T j hj1 (by rw [HT.out.len];exact hj)
   have hRL:s0.2.2.length≤j:=by
    have:=he.trans R.eq
    have h2:=(List.append_inj' this rfl).2
    simp only [List.cons.injEq,and_true] at h2
    rw [h2]
    have h3:=R.len
    have h4:=R.le
    dsimp only
    omega
   have e1:j-1=k:=by omega
   rw [e1] at hr0
   clear R
   generalize T.getD k tk0=y at *
   obtain⟨yo,ya,yr,yq⟩:=y
   dsimp only at y0 y1 y2 y3 hr0
   have HJ1:=hid hj1
   have HHE:=hid he
   have HLT:Hid (∀ b,u5.ownBlock=some b→b<wr.heap.size):=hid fun b hb=>(hw.fill.own.lt b hb).2
   obtain⟨s1,s2,Lq⟩:=s0
   dsimp only at ht0 hr0 hRL
   replace ht0:=ht0.symm
   replace hr0:=hr0.symm
   subst ht0 hr0
   have hmj:H0.length+1≤j:=by have:=hw.fill.most;rwa [List.length_append,List.length_singleton] at this
   have HWR:=hid hw
   clear he hk hj1 e1 hj0 hw
   by_cases hrr:yr=r
   case neg =>
    have hd1:(r != yr)=true:=by simpa using fun h=>hrr h.symm
    obtain⟨m,hm⟩:∃ m,(H0 ++ [h0]).length=m:=⟨_,rfl⟩
    have HM:=hid hm
    have HMJ:Hid (m≤j):=hid (by rw [← hm,List.length_append,List.length_singleton];exact hmj)
    have HF:=hid (HWR.out.fill.later HB1.out)
    have HRR:=hid hrr
    clear hmj hm HWR hrr hRL
    have HFA:=hid fun (z:Nat)=>HF.out.later (show Below W1.heap.size W1 ((W1.drewN z).alloc (.cells #[.int .u8 t,.int .u8 r,.slice none 0 0] 52)) from (z0i (Below.refl _ _) z).alloc (Nat.le_refl _) _)
    have HBA:=hid fun (z:Nat)=>z0b HBX.out (show Below W1.heap.size W1 ((W1.drewN z).alloc (.cells #[.int .u8 t,.int .u8 r,.slice none 0 0] 52)) from (z0i (Below.refl _ _) z).alloc (Nat.le_refl _) _)
    go_quiet (fail)
    go_upto_region 7 with (at_builtin;refine z0h (k:=3) (by decide) Tryz.underlying48 info_step rfl (by omega) rfl _ _ rfl u5 m (z0v sc (H0 ++ [h0])) rfl (by rw [← HM.out];exact z2a (HFA.out _).own) (some ⟨W1.heap.size,0,none⟩) 1 1 (z0v sc [(t,r,none,0,0)]) rfl rfl (fun h=>by cases h) (step_news (c:=#[.int .u8 t,.int .u8 r,.slice none 0 0]) (z0c (W1.drewN _) _) rfl) (z1r sc_one _) (by have:=HMJ.out;omega) ?_;intro p3 c3 w3 h1 h2 h3)
    have hF3:=(HFA.out _).app (H':=[(t,r,none,0,0)]) (S':=[(t,r,[])]) rfl ⟨⟨rfl,rfl,SlG.empty _⟩,trivial⟩ (fun h hh h0=>by obtain rfl:=List.mem_singleton.1 hh;exact absurd h0 (Nat.lt_irrefl 0)) (by rw [HM.out];exact h1) h2 (by rw [HM.out];exact h3)
    rw [HM.out] at hF3
    have hBX3:=(h2.block wr.heap.size (z1s (HBA.out _)) fun hb=>by have:=HLT.out _ hb;omega).trans (HBA.out _)
    obtain⟨g,hg,hgl⟩:∃ g,p3=some ⟨g,0,none⟩∧g≠wr.heap.size:=by
     rcases h1.2 with ⟨he,h0⟩ | ⟨g,cap,cur,he,_,hgb,_⟩
     · omega
     · cases he
       refine⟨g,rfl,fun hc=>?_⟩
       rw [hc,hBX3] at hgb
       cases hgb
    subst hg
    have HBX3:=hid hBX3
    have HG:=hid hgl
    have HW3:=hid (Hw.new hF3)
    have HIX:Hid (∀ b,(itm (t,r,none,0,0)).ownBlock=some b→b≠wr.heap.size):=hid fun b hb=>by cases hb
    clear h1 h2 h3 hF3 hBX3 hgl HF HFA HBA
    obtain⟨lq,hlq⟩:∃ lq,([]:List Ln).length=lq:=⟨_,rfl⟩
    have HLQ:=hid hlq
    have HLJ:Hid (lq≤j):=hid (by rw [← hlq];exact Nat.zero_le _)
    clear hlq
    have HSN:Hid (hstep t (z1c t (T.take j)) (o,a,r,q)=(S0 ++ [(t,yr,Lq)]) ++ [(t,r,[] ++ [(a,q)])]):=hid (by rw [← HHE.out];exact hstep_new t S0 _ _ HRR.out)
    have hwm:wrap64 (m:Int)=m:=by have:=HMJ.out;unfold wrap64;omega
    have hm0:(0:Int)≤m:=by omega
    go_upto_region 8 with (fail)
    clear hwm hm0
    refine wp_region_held_drew (S:=fun w'=>Hid (w'.heap[wr.heap.size]?=some (.cells #[.int .u32 o,.int .u8 a,.int .u8 r,.int .i64 q] 73 (0,0)))) (by kernel_rfl) HBX3 (fun hHeld=>?_)
    refine wpAnyH_take (i:=0) (oi:=⟨some 41,_,_,_,_,_⟩) (v:=(.pointer (some ⟨g,m*3,none⟩))) rfl (by kernel_rfl) (by kernel_rfl) (by kernel_rfl) (fun _ _ _ h=>h) (Or.inl ⟨by rfl,fun w' hw'=>?_⟩) (by assumption) ?_
    · clear hHeld
      go_simp
    simp only [Act.put,sIB,sCZ,sCS]
    refine wpAnyH_take (i:=1) (oi:=⟨some 42,_,_,_,_,_⟩) (v:=(.pointer (some ⟨g,m*3,none⟩))) rfl (by kernel_rfl) (by kernel_rfl) (by kernel_rfl) (fun _ _ _ h=>h) (Or.inl ⟨by rfl,fun w' hw'=>?_⟩) (by assumption) ?_
    · clear hHeld
      go_simp
    simp only [Act.put,sIB,sCZ,sCS]
    refine wpAnyH_take (i:=2) (oi:=⟨some 43,_,_,_,_,_⟩) (v:=(.pointer (some ⟨g,m*3,none⟩))) rfl (by kernel_rfl) (by kernel_rfl) (by kernel_rfl) (fun _ _ _ h=>h) (Or.inl ⟨by rfl,fun w' hw'=>?_⟩) (by assumption) ?_
    · clear hHeld
      go_simp
    simp only [Act.put,sIB,sCZ,sCS]
    refine wpAnyH_take (i:=3) (oi:=⟨some 44,_,_,_,_,_⟩) (v:=(.pointer (some ⟨g,m*3+2,none⟩))) rfl (by kernel_rfl) (by kernel_rfl) (by kernel_rfl) (fun _ _ _ h=>h) (Or.inl ⟨by rfl,fun w' hw'=>?_⟩) (by assumption) ?_
    · clear hHeld
      go_simp
    simp only [Act.put,sIB,sCZ,sCS]
    refine wpAnyH_take (i:=5) (oi:=⟨some 46,_,_,_,_,_⟩) (v:=(.pointer (some ⟨wr.heap.size,1,none⟩))) rfl (by kernel_rfl) (by kernel_rfl) (by kernel_rfl) (fun _ _ _ h=>h) (Or.inl ⟨by rfl,fun w' hw'=>?_⟩) (by assumption) ?_
    · clear hHeld
      go_simp
    simp only [Act.put,sIB,sCZ,sCS]
    refine wpAnyH_take (i:=6) (oi:=⟨some 47,_,_,_,_,_⟩) (v:=(.int .u8 a)) rfl (by kernel_rfl) (by kernel_rfl) (by kernel_rfl) (fun _ _ _ h=>h) (Or.inl ⟨by rfl,fun w' hw'=>?_⟩) (by assumption) ?_
    · obtain⟨g0,g1,g2,g3⟩:=box_cells hw'.out
      clear hHeld
      go_simp
    simp only [Act.put,sIB,sCZ,sCS]
    refine wpAnyH_take (i:=7) (oi:=⟨some 48,_,_,_,_,_⟩) (v:=(.pointer (some ⟨wr.heap.size,3,none⟩))) rfl (by kernel_rfl) (by kernel_rfl) (by kernel_rfl) (fun _ _ _ h=>h) (Or.inl ⟨by rfl,fun w' hw'=>?_⟩) (by assumption) ?_
    · clear hHeld
      go_simp
    simp only [Act.put,sIB,sCZ,sCS]
    refine wpAnyH_take (i:=8) (oi:=⟨some 49,_,_,_,_,_⟩) (v:=(.int .i64 q)) rfl (by kernel_rfl) (by kernel_rfl) (by kernel_rfl) (fun _ _ _ h=>h) (Or.inl ⟨by rfl,fun w' hw'=>?_⟩) (by assumption) ?_
    · obtain⟨g0,g1,g2,g3⟩:=box_cells hw'.out
      clear hHeld
      go_simp
    simp only [Act.put,sIB,sCZ,sCS]
    refine wpAnyH_take (i:=9) (oi:=⟨some 50,_,_,_,_,_⟩) (v:=(.agg #[.int .u8 a,.int .i64 q])) rfl (by kernel_rfl) (by kernel_rfl) (by kernel_rfl) (fun _ _ _ h=>h) (Or.inl ⟨by rfl,fun w' hw'=>?_⟩) (by assumption) ?_
    · clear hHeld
      go_simp
    simp only [Act.put,sIB,sCZ,sCS]
    have HD:=hid (HW3.out.later (show Below w3.heap.size w3 w3.drew from (Below.refl _ _).drew))
    have HXD:Hid (w3.drew.heap[wr.heap.size]?=some (.cells #[.int .u32 o,.int .u8 a,.int .u8 r,.int .i64 q] 73 (0,0))):=HBX3
    generalize w3.drew=Wd at *
    refine wpAnyH_ready (rs:=[4,10]) (by kernel_rfl) (by simp) (AllReadyH.cons rfl (fun K hK=>?_) (AllReadyH.cons rfl (fun K hK=>?_) AllReadyH.nil))
    · have hv:=(z1q HD.out.fill.own).1
      rw [HM.out] at hv
      unfold itm at hv
      dsimp only at hv
      go_simp
      refine hK.out _ _ HXD (fun hHeld2=>?_)
      clear hK K hHeld
      have hHeld:=hHeld2
      clear hHeld2
      try simp only [Act.put,sIB,sCZ,sCS]
      clear hv
      refine wpAnyH_ready (rs:=[10]) (by kernel_rfl) (by simp) (AllReadyH.cons rfl (fun K hK=>?_) AllReadyH.nil)
      go_simp
      have HA2:=hid (HD.out.later (show Below Wd.heap.size Wd (Wd.alloc (.cells #[.int .u8 a,.int .i64 q] 76)) from (Below.refl _ _).alloc (Nat.le_refl _) _))
      have HX2:=hid (z0b HXD.out (show Below Wd.heap.size Wd (Wd.alloc (.cells #[.int .u8 a,.int .i64 q] 76)) from (Below.refl _ _).alloc (Nat.le_refl _) _))
      refine hK.out _ _ HX2 (fun hHeld2=>?_)
      clear hK K hHeld
      have hHeld:=hHeld2
      clear hHeld2
      try simp only [Act.put,sIB,sCZ,sCS]
      refine wpAnyH_ready (rs:=[11]) (by kernel_rfl) (by simp) (AllReadyH.cons rfl (fun K hK=>?_) AllReadyH.nil)
      refine z0u (k:=2) (by decide) Tryz.underlying23 info_line rfl (by omega) rfl (.tmp 45) (.tmp 51) rfl (.slice none 0 0) lq (z0v lc ([]:List Ln)) (by simp [Act.eval]) (by rw [← HLQ.out];exact z2a HA2.out.items) (some ⟨Wd.heap.size,0,none⟩) 1 1 (z0v lc [((a,q):Ln)]) (by simp [Act.eval]) rfl (fun h=>by cases h) (line_news Wd (a,q)) (z1r lc_one _) (by have:=HLJ.out;omega) ?_
      intro p4 c4 w4 h1 h2 h3
      have HA3:=hid (HA2.out.app h1 h2 h3)
      have HX3:=hid ((h2.block wr.heap.size (z1s HX2.out) fun hb=>HIX.out _ hb rfl).trans HX2.out)
      clear h1 h2 h3
      refine hK.out _ _ HX3 (fun hHeld2=>?_)
      clear hK K hHeld
      have hHeld:=hHeld2
      clear hHeld2
      try simp only [Act.put,sIB,sCZ,sCS]
      refine wpAnyH_take (i:=12) (oi:=⟨some 53,_,_,_,_,_⟩) (v:=(.pointer (some ⟨g,m*3,none⟩))) rfl (by kernel_rfl) (by kernel_rfl) (by kernel_rfl) (fun _ _ _ h=>h) (Or.inl ⟨by rfl,fun w' hw'=>?_⟩) (by assumption) ?_
      · clear hHeld
        go_simp
      simp only [Act.put,sIB,sCZ,sCS]
      refine wpAnyH_take (i:=13) (oi:=⟨some 54,_,_,_,_,_⟩) (v:=(.pointer (some ⟨g,m*3+2,none⟩))) rfl (by kernel_rfl) (by kernel_rfl) (by kernel_rfl) (fun _ _ _ h=>h) (Or.inl ⟨by rfl,fun w' hw'=>?_⟩) (by assumption) ?_
      · clear hHeld
        go_simp
      simp only [Act.put,sIB,sCZ,sCS]
      refine wpAnyH_ready (rs:=[14]) (by kernel_rfl) (by simp) (AllReadyH.cons rfl (fun K hK=>?_) AllReadyH.nil)
      have hc2:=(z1q HA3.out.own).1
      have hfz:=(z1q HA3.out.own).2
      rw [HM.out] at hc2 hfz
      have hA4:=HA3.out.put
      rw [HM.out] at hA4
      have HA4:=hid hA4
      have HX4:Hid ((w4.setCell ⟨g,m*3+2,none⟩ (.slice p4 (lq+1) c4)).heap[wr.heap.size]?=_):=hid ((Below.heap_setCell _ _ _ _ (fun hc=>HG.out hc.symm)).trans HX3.out)
      clear hA4
      go_simp
      refine hK.out _ _ HX4 (fun hHeld2=>?_)
      clear hc2 hfz
      clear hK K hHeld
      have hHeld:=hHeld2
      clear hHeld2
      try simp only [Act.put,sIB,sCZ,sCS]
      refine wpAnyH_done (by kernel_rfl) ?_ _
      clear hHeld
      go_wp2_with fail
      go_roundw
      case rel=>exact⟨j+1,by omega,by go_num,hid (.inr ⟨_,_,_,_,HA4.out.mono (Nat.le_refl (j+1)),by rw [HS.out];exact HSN.out.symm,rfl,by rw [Nat.add_sub_cancel,HX.out],by omega⟩)⟩
      case measure=>simp [Go.RowKit.intOf];omega
    · go_simp
      have HA2:=hid (HD.out.later (show Below Wd.heap.size Wd (Wd.alloc (.cells #[.int .u8 a,.int .i64 q] 76)) from (Below.refl _ _).alloc (Nat.le_refl _) _))
      have HX2:=hid (z0b HXD.out (show Below Wd.heap.size Wd (Wd.alloc (.cells #[.int .u8 a,.int .i64 q] 76)) from (Below.refl _ _).alloc (Nat.le_refl _) _))
      refine hK.out _ _ HX2 (fun hHeld2=>?_)
      clear hK K hHeld
      have hHeld:=hHeld2
      clear hHeld2
      try simp only [Act.put,sIB,sCZ,sCS]
      refine wpAnyH_ready (rs:=[4]) (by kernel_rfl) (by simp) (AllReadyH.cons rfl (fun K hK=>?_) AllReadyH.nil)
      have hv:=(z1q HA2.out.fill.own).1
      rw [HM.out] at hv
      unfold itm at hv
      dsimp only at hv
      go_simp
      refine hK.out _ _ HX2 (fun hHeld2=>?_)
      clear hK K hHeld
      have hHeld:=hHeld2
      clear hHeld2
      try simp only [Act.put,sIB,sCZ,sCS]
      clear hv
      refine wpAnyH_ready (rs:=[11]) (by kernel_rfl) (by simp) (AllReadyH.cons rfl (fun K hK=>?_) AllReadyH.nil)
      refine z0u (k:=2) (by decide) Tryz.underlying23 info_line rfl (by omega) rfl (.tmp 45) (.tmp 51) rfl (.slice none 0 0) lq (z0v lc ([]:List Ln)) (by simp [Act.eval]) (by rw [← HLQ.out];exact z2a HA2.out.items) (some ⟨Wd.heap.size,0,none⟩) 1 1 (z0v lc [((a,q):Ln)]) (by simp [Act.eval]) rfl (fun h=>by cases h) (line_news Wd (a,q)) (z1r lc_one _) (by have:=HLJ.out;omega) ?_
      intro p4 c4 w4 h1 h2 h3
      have HA3:=hid (HA2.out.app h1 h2 h3)
      have HX3:=hid ((h2.block wr.heap.size (z1s HX2.out) fun hb=>HIX.out _ hb rfl).trans HX2.out)
      clear h1 h2 h3
      refine hK.out _ _ HX3 (fun hHeld2=>?_)
      clear hK K hHeld
      have hHeld:=hHeld2
      clear hHeld2
      try simp only [Act.put,sIB,sCZ,sCS]
      refine wpAnyH_take (i:=12) (oi:=⟨some 53,_,_,_,_,_⟩) (v:=(.pointer (some ⟨g,m*3,none⟩))) rfl (by kernel_rfl) (by kernel_rfl) (by kernel_rfl) (fun _ _ _ h=>h) (Or.inl ⟨by rfl,fun w' hw'=>?_⟩) (by assumption) ?_
      · clear hHeld
        go_simp
      simp only [Act.put,sIB,sCZ,sCS]
      refine wpAnyH_take (i:=13) (oi:=⟨some 54,_,_,_,_,_⟩) (v:=(.pointer (some ⟨g,m*3+2,none⟩))) rfl (by kernel_rfl) (by kernel_rfl) (by kernel_rfl) (fun _ _ _ h=>h) (Or.inl ⟨by rfl,fun w' hw'=>?_⟩) (by assumption) ?_
      · clear hHeld
        go_simp
      simp only [Act.put,sIB,sCZ,sCS]
      refine wpAnyH_ready (rs:=[14]) (by kernel_rfl) (by simp) (AllReadyH.cons rfl (fun K hK=>?_) AllReadyH.nil)
      have hc2:=(z1q HA3.out.own).1
      have hfz:=(z1q HA3.out.own).2
      rw [HM.out] at hc2 hfz
      have hA4:=HA3.out.put
      rw [HM.out] at hA4
      have HA4:=hid hA4
      have HX4:Hid ((w4.setCell ⟨g,m*3+2,none⟩ (.slice p4 (lq+1) c4)).heap[wr.heap.size]?=_):=hid ((Below.heap_setCell _ _ _ _ (fun hc=>HG.out hc.symm)).trans HX3.out)
      clear hA4
      go_simp
      refine hK.out _ _ HX4 (fun hHeld2=>?_)
      clear hc2 hfz
      clear hK K hHeld
      have hHeld:=hHeld2
      clear hHeld2
      try simp only [Act.put,sIB,sCZ,sCS]
      refine wpAnyH_done (by kernel_rfl) ?_ _
      clear hHeld
      go_wp2_with fail
      go_roundw
      case rel=>exact⟨j+1,by omega,by go_num,hid (.inr ⟨_,_,_,_,HA4.out.mono (Nat.le_refl (j+1)),by rw [HS.out];exact HSN.out.symm,rfl,by rw [Nat.add_sub_cancel,HX.out],by omega⟩)⟩
      case measure=>simp [Go.RowKit.intOf];omega
   case pos =>
    have hd1:(r != yr)=false:=by simp [hrr]
    have HRR:=hid hrr
    obtain⟨m,hm⟩:∃ m,H0.length=m:=⟨_,rfl⟩
    have HM:=hid hm
    rw [hm] at hmj
    have HMJ:Hid (m≤j):=hid (by omega)
    obtain⟨g,c3,hv⟩:∃ g c3,u5=.slice (some ⟨g,0,none⟩) (m+1) c3:=by
     rcases HWR.out.fill.own.2 with ⟨_,h0⟩ | ⟨g,cap,cur,hv,_⟩
     · simp at h0
     · rw [List.length_append,List.length_singleton,hm] at hv
       exact⟨g,cap,hv⟩
    subst hv
    have HG:Hid (g≠wr.heap.size):=hid (Nat.ne_of_lt (HLT.out g rfl))
    have HIX:Hid (∀ b,(itm h0).ownBlock=some b→b≠wr.heap.size):=hid fun b hb=>Nat.ne_of_lt (HWR.out.items.lt b hb).2
    obtain⟨i1,i2,ip,il,ic⟩:=h0
    obtain⟨lq,hlq⟩:∃ lq,Lq.length=lq:=⟨_,rfl⟩
    have HLQ:=hid hlq
    have HLJ:Hid (lq≤j):=hid (by rw [← hlq];exact hRL)
    have HSN:Hid (hstep t (z1c t (T.take j)) (o,a,r,q)=S0 ++ [(t,yr,Lq ++ [(a,q)])]):=hid (by rw [← HHE.out];exact hstep_same t S0 _ _ hrr)
    clear hlq hRL hm hmj hrr
    go_quiet (fail)
    have HW3:=hid ((HWR.out.later HB1.out).later (z0i (Below.refl _ _) nq))
    have HBX3:Hid ((W1.drewN nq).heap[wr.heap.size]?=some (.cells #[.int .u32 o,.int .u8 a,.int .u8 r,.int .i64 q] 73 (0,0))):=HBX
    clear x0 x1 x2 x3 y0 y1 y2 y3
    generalize W1.drewN nq=w3 at *
    have hwm:wrap64 (m:Int)=m:=by have:=HMJ.out;unfold wrap64;omega
    have hm0:(0:Int)≤m:=by omega
    go_upto_region 8 with (fail)
    clear hwm hm0
    refine wp_region_held_drew (S:=fun w'=>Hid (w'.heap[wr.heap.size]?=some (.cells #[.int .u32 o,.int .u8 a,.int .u8 r,.int .i64 q] 73 (0,0)))) (by kernel_rfl) HBX3 (fun hHeld=>?_)
    refine wpAnyH_take (i:=0) (oi:=⟨some 41,_,_,_,_,_⟩) (v:=(.pointer (some ⟨g,m*3,none⟩))) rfl (by kernel_rfl) (by kernel_rfl) (by kernel_rfl) (fun _ _ _ h=>h) (Or.inl ⟨by rfl,fun w' hw'=>?_⟩) (by assumption) ?_
    · clear hHeld
      go_simp
    simp only [Act.put,sIB,sCZ,sCS]
    refine wpAnyH_take (i:=1) (oi:=⟨some 42,_,_,_,_,_⟩) (v:=(.pointer (some ⟨g,m*3,none⟩))) rfl (by kernel_rfl) (by kernel_rfl) (by kernel_rfl) (fun _ _ _ h=>h) (Or.inl ⟨by rfl,fun w' hw'=>?_⟩) (by assumption) ?_
    · clear hHeld
      go_simp
    simp only [Act.put,sIB,sCZ,sCS]
    refine wpAnyH_take (i:=2) (oi:=⟨some 43,_,_,_,_,_⟩) (v:=(.pointer (some ⟨g,m*3,none⟩))) rfl (by kernel_rfl) (by kernel_rfl) (by kernel_rfl) (fun _ _ _ h=>h) (Or.inl ⟨by rfl,fun w' hw'=>?_⟩) (by assumption) ?_
    · clear hHeld
      go_simp
    simp only [Act.put,sIB,sCZ,sCS]
    refine wpAnyH_take (i:=3) (oi:=⟨some 44,_,_,_,_,_⟩) (v:=(.pointer (some ⟨g,m*3+2,none⟩))) rfl (by kernel_rfl) (by kernel_rfl) (by kernel_rfl) (fun _ _ _ h=>h) (Or.inl ⟨by rfl,fun w' hw'=>?_⟩) (by assumption) ?_
    · clear hHeld
      go_simp
    simp only [Act.put,sIB,sCZ,sCS]
    refine wpAnyH_take (i:=5) (oi:=⟨some 46,_,_,_,_,_⟩) (v:=(.pointer (some ⟨wr.heap.size,1,none⟩))) rfl (by kernel_rfl) (by kernel_rfl) (by kernel_rfl) (fun _ _ _ h=>h) (Or.inl ⟨by rfl,fun w' hw'=>?_⟩) (by assumption) ?_
    · clear hHeld
      go_simp
    simp only [Act.put,sIB,sCZ,sCS]
    refine wpAnyH_take (i:=6) (oi:=⟨some 47,_,_,_,_,_⟩) (v:=(.int .u8 a)) rfl (by kernel_rfl) (by kernel_rfl) (by kernel_rfl) (fun _ _ _ h=>h) (Or.inl ⟨by rfl,fun w' hw'=>?_⟩) (by assumption) ?_
    · obtain⟨g0,g1,g2,g3⟩:=box_cells hw'.out
      clear hHeld
      go_simp
    simp only [Act.put,sIB,sCZ,sCS]
    refine wpAnyH_take (i:=7) (oi:=⟨some 48,_,_,_,_,_⟩) (v:=(.pointer (some ⟨wr.heap.size,3,none⟩))) rfl (by kernel_rfl) (by kernel_rfl) (by kernel_rfl) (fun _ _ _ h=>h) (Or.inl ⟨by rfl,fun w' hw'=>?_⟩) (by assumption) ?_
    · clear hHeld
      go_simp
    simp only [Act.put,sIB,sCZ,sCS]
    refine wpAnyH_take (i:=8) (oi:=⟨some 49,_,_,_,_,_⟩) (v:=(.int .i64 q)) rfl (by kernel_rfl) (by kernel_rfl) (by kernel_rfl) (fun _ _ _ h=>h) (Or.inl ⟨by rfl,fun w' hw'=>?_⟩) (by assumption) ?_
    · obtain⟨g0,g1,g2,g3⟩:=box_cells hw'.out
      clear hHeld
      go_simp
    simp only [Act.put,sIB,sCZ,sCS]
    refine wpAnyH_take (i:=9) (oi:=⟨some 50,_,_,_,_,_⟩) (v:=(.agg #[.int .u8 a,.int .i64 q])) rfl (by kernel_rfl) (by kernel_rfl) (by kernel_rfl) (fun _ _ _ h=>h) (Or.inl ⟨by rfl,fun w' hw'=>?_⟩) (by assumption) ?_
    · clear hHeld
      go_simp
    simp only [Act.put,sIB,sCZ,sCS]
    have HD:=hid (HW3.out.later (show Below w3.heap.size w3 w3.drew from (Below.refl _ _).drew))
    have HXD:Hid (w3.drew.heap[wr.heap.size]?=some (.cells #[.int .u32 o,.int .u8 a,.int .u8 r,.int .i64 q] 73 (0,0))):=HBX3
    generalize w3.drew=Wd at *
    refine wpAnyH_ready (rs:=[4,10]) (by kernel_rfl) (by simp) (AllReadyH.cons rfl (fun K hK=>?_) (AllReadyH.cons rfl (fun K hK=>?_) AllReadyH.nil))
    · have hv:=(z1q HD.out.fill.own).1
      rw [HM.out] at hv
      unfold itm at hv
      dsimp only at hv
      go_simp
      refine hK.out _ _ HXD (fun hHeld2=>?_)
      clear hK K hHeld
      have hHeld:=hHeld2
      clear hHeld2
      try simp only [Act.put,sIB,sCZ,sCS]
      clear hv
      refine wpAnyH_ready (rs:=[10]) (by kernel_rfl) (by simp) (AllReadyH.cons rfl (fun K hK=>?_) AllReadyH.nil)
      go_simp
      have HA2:=hid (HD.out.later (show Below Wd.heap.size Wd (Wd.alloc (.cells #[.int .u8 a,.int .i64 q] 76)) from (Below.refl _ _).alloc (Nat.le_refl _) _))
      have HX2:=hid (z0b HXD.out (show Below Wd.heap.size Wd (Wd.alloc (.cells #[.int .u8 a,.int .i64 q] 76)) from (Below.refl _ _).alloc (Nat.le_refl _) _))
      refine hK.out _ _ HX2 (fun hHeld2=>?_)
      clear hK K hHeld
      have hHeld:=hHeld2
      clear hHeld2
      try simp only [Act.put,sIB,sCZ,sCS]
      refine wpAnyH_ready (rs:=[11]) (by kernel_rfl) (by simp) (AllReadyH.cons rfl (fun K hK=>?_) AllReadyH.nil)
      refine z0u (k:=2) (by decide) Tryz.underlying23 info_line rfl (by omega) rfl (.tmp 45) (.tmp 51) rfl (.slice ip il ic) lq (z0v lc Lq) (by simp [Act.eval]) (by rw [← HLQ.out];exact z2a HA2.out.items) (some ⟨Wd.heap.size,0,none⟩) 1 1 (z0v lc [((a,q):Ln)]) (by simp [Act.eval]) rfl (fun h=>by cases h) (line_news Wd (a,q)) (z1r lc_one _) (by have:=HLJ.out;omega) ?_
      intro p4 c4 w4 h1 h2 h3
      have HA3:=hid (HA2.out.app h1 h2 h3)
      have HX3:=hid ((h2.block wr.heap.size (z1s HX2.out) fun hb=>HIX.out _ hb rfl).trans HX2.out)
      clear h1 h2 h3
      refine hK.out _ _ HX3 (fun hHeld2=>?_)
      clear hK K hHeld
      have hHeld:=hHeld2
      clear hHeld2
      try simp only [Act.put,sIB,sCZ,sCS]
      refine wpAnyH_take (i:=12) (oi:=⟨some 53,_,_,_,_,_⟩) (v:=(.pointer (some ⟨g,m*3,none⟩))) rfl (by kernel_rfl) (by kernel_rfl) (by kernel_rfl) (fun _ _ _ h=>h) (Or.inl ⟨by rfl,fun w' hw'=>?_⟩) (by assumption) ?_
      · clear hHeld
        go_simp
      simp only [Act.put,sIB,sCZ,sCS]
      refine wpAnyH_take (i:=13) (oi:=⟨some 54,_,_,_,_,_⟩) (v:=(.pointer (some ⟨g,m*3+2,none⟩))) rfl (by kernel_rfl) (by kernel_rfl) (by kernel_rfl) (fun _ _ _ h=>h) (Or.inl ⟨by rfl,fun w' hw'=>?_⟩) (by assumption) ?_
      · clear hHeld
        go_simp
      simp only [Act.put,sIB,sCZ,sCS]
      refine wpAnyH_ready (rs:=[14]) (by kernel_rfl) (by simp) (AllReadyH.cons rfl (fun K hK=>?_) AllReadyH.nil)
      have hc2:=(z1q HA3.out.own).1
      have hfz:=(z1q HA3.out.own).2
      rw [HM.out] at hc2 hfz
      have hA4:=HA3.out.put
      rw [HM.out] at hA4
      have HA4:=hid hA4
      have HX4:Hid ((w4.setCell ⟨g,m*3+2,none⟩ (.slice p4 (lq+1) c4)).heap[wr.heap.size]?=_):=hid ((Below.heap_setCell _ _ _ _ (fun hc=>HG.out hc.symm)).trans HX3.out)
      clear hA4
      go_simp
      refine hK.out _ _ HX4 (fun hHeld2=>?_)
      clear hc2 hfz
      clear hK K hHeld
      have hHeld:=hHeld2
      clear hHeld2
      try simp only [Act.put,sIB,sCZ,sCS]
      refine wpAnyH_done (by kernel_rfl) ?_ _
      clear hHeld
      go_wp2_with fail
      go_roundw
      case rel=>exact⟨j+1,by omega,by go_num,hid (.inr ⟨_,_,_,_,HA4.out.mono (Nat.le_succ j),by rw [HS.out];exact HSN.out.symm,rfl,by rw [Nat.add_sub_cancel,HX.out];exact HRR.out,by omega⟩)⟩
      case measure=>simp [Go.RowKit.intOf];omega
    · go_simp
      have HA2:=hid (HD.out.later (show Below Wd.heap.size Wd (Wd.alloc (.cells #[.int .u8 a,.int .i64 q] 76)) from (Below.refl _ _).alloc (Nat.le_refl _) _))
      have HX2:=hid (z0b HXD.out (show Below Wd.heap.size Wd (Wd.alloc (.cells #[.int .u8 a,.int .i64 q] 76)) from (Below.refl _ _).alloc (Nat.le_refl _) _))
      refine hK.out _ _ HX2 (fun hHeld2=>?_)
      clear hK K hHeld
      have hHeld:=hHeld2
      clear hHeld2
      try simp only [Act.put,sIB,sCZ,sCS]
      refine wpAnyH_ready (rs:=[4]) (by kernel_rfl) (by simp) (AllReadyH.cons rfl (fun K hK=>?_) AllReadyH.nil)
      have hv:=(z1q HA2.out.fill.own).1
      rw [HM.out] at hv
      unfold itm at hv
      dsimp only at hv
      go_simp
      refine hK.out _ _ HX2 (fun hHeld2=>?_)
      clear hK K hHeld
      have hHeld:=hHeld2
      clear hHeld2
      try simp only [Act.put,sIB,sCZ,sCS]
      clear hv
      refine wpAnyH_ready (rs:=[11]) (by kernel_rfl) (by simp) (AllReadyH.cons rfl (fun K hK=>?_) AllReadyH.nil)
      refine z0u (k:=2) (by decide) Tryz.underlying23 info_line rfl (by omega) rfl (.tmp 45) (.tmp 51) rfl (.slice ip il ic) lq (z0v lc Lq) (by simp [Act.eval]) (by rw [← HLQ.out];exact z2a HA2.out.items) (some ⟨Wd.heap.size,0,none⟩) 1 1 (z0v lc [((a,q):Ln)]) (by simp [Act.eval]) rfl (fun h=>by cases h) (line_news Wd (a,q)) (z1r lc_one _) (by have:=HLJ.out;omega) ?_
      intro p4 c4 w4 h1 h2 h3
      have HA3:=hid (HA2.out.app h1 h2 h3)
      have HX3:=hid ((h2.block wr.heap.size (z1s HX2.out) fun hb=>HIX.out _ hb rfl).trans HX2.out)
      clear h1 h2 h3
      refine hK.out _ _ HX3 (fun hHeld2=>?_)
      clear hK K hHeld
      have hHeld:=hHeld2
      clear hHeld2
      try simp only [Act.put,sIB,sCZ,sCS]
      refine wpAnyH_take (i:=12) (oi:=⟨some 53,_,_,_,_,_⟩) (v:=(.pointer (some ⟨g,m*3,none⟩))) rfl (by kernel_rfl) (by kernel_rfl) (by kernel_rfl) (fun _ _ _ h=>h) (Or.inl ⟨by rfl,fun w' hw'=>?_⟩) (by assumption) ?_
      · clear hHeld
        go_simp
      simp only [Act.put,sIB,sCZ,sCS]
      refine wpAnyH_take (i:=13) (oi:=⟨some 54,_,_,_,_,_⟩) (v:=(.pointer (some ⟨g,m*3+2,none⟩))) rfl (by kernel_rfl) (by kernel_rfl) (by kernel_rfl) (fun _ _ _ h=>h) (Or.inl ⟨by rfl,fun w' hw'=>?_⟩) (by assumption) ?_
      · clear hHeld
        go_simp
      simp only [Act.put,sIB,sCZ,sCS]
      refine wpAnyH_ready (rs:=[14]) (by kernel_rfl) (by simp) (AllReadyH.cons rfl (fun K hK=>?_) AllReadyH.nil)
      have hc2:=(z1q HA3.out.own).1
      have hfz:=(z1q HA3.out.own).2
      rw [HM.out] at hc2 hfz
      have hA4:=HA3.out.put
      rw [HM.out] at hA4
      have HA4:=hid hA4
      have HX4:Hid ((w4.setCell ⟨g,m*3+2,none⟩ (.slice p4 (lq+1) c4)).heap[wr.heap.size]?=_):=hid ((Below.heap_setCell _ _ _ _ (fun hc=>HG.out hc.symm)).trans HX3.out)
      clear hA4
      go_simp
      refine hK.out _ _ HX4 (fun hHeld2=>?_)
      clear hc2 hfz
      clear hK K hHeld
      have hHeld:=hHeld2
      clear hHeld2
      try simp only [Act.put,sIB,sCZ,sCS]
      refine wpAnyH_done (by kernel_rfl) ?_ _
      clear hHeld
      go_wp2_with fail
      go_roundw
      case rel=>exact⟨j+1,by omega,by go_num,hid (.inr ⟨_,_,_,_,HA4.out.mono (Nat.le_succ j),by rw [HS.out];exact HSN.out.symm,rfl,by rw [Nat.add_sub_cancel,HX.out];exact HRR.out,by omega⟩)⟩
      case measure=>simp [Go.RowKit.intOf];omega
end Go.Proofs.YtclbkfpbdidaiaaGreatDoor
