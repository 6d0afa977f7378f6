import Derived.Test.YtclbkfpbdidaiaaGreatDoorPC39
import Derived.Shelf.SlMaps.Clone
namespace Go.Proofs.YtclbkfpbdidaiaaGreatDoor
open Go.Lib (hid)
set_option maxHeartbeats 4000000
open Go.RowKit Go.ChangeShapes Go.WideShapes Go.Maps
set_option linter.unusedVariables false
set_option linter.unusedSimpArgs false
set_option maxRecDepth 10000
theorem q0b (W:World) (B:Nat) (mb:Option Nat) (h:W.heap[B]?=some (.cells #[.map mb] 93 (0,0))) :
 Calls Tryz.prog 63 #[.pointer (some ⟨B,0,none⟩)] W fun e w'=>e=.returned (.map mb)∧w'=W:=by
 have c0:=z0a (j:=0) h (v:=.map mb) rfl
 clear h
 go_enter Tryz.func63,Tryz.ntmps63
 go_wp2_with fail
 go_ret
 exact⟨rfl,rfl⟩
theorem Turn.drewl {S:Nat→Prop} {W W':World} (h:Turn S W.drew W'):Turn S W W':=⟨h.os,h.tape,h.output,h.size,h.block⟩
def PutX (W:World) (B:Nat) (mb:Option Nat) (H:List Tv) (Q:Nat→Prop) (t:Tv) (w':World):Prop :=
 ∃ mb',JgX w' B mb' (z1x Tv.id H t) (fun k=>Q k∨t.blk=some k∨(W.heap.size≤k∧k<w'.heap.size))∧Turn (fun k=>k=B∨mb=some k) W w'
theorem PutX.ahead {W V w':World} {B:Nat} {mb:Option Nat} {H:List Tv} {Q:Nat→Prop} {t:Tv} (hb:Below W.heap.size W V) (h:PutX V B mb H Q t w'):PutX W B mb H Q t w':=by
 obtain⟨mb',h1,h2⟩:=h
 refine⟨mb',h1.mono (fun k=>Or.imp id (Or.imp id fun e=>⟨Nat.le_trans hb.size e.1,e.2⟩)) (fun k hk=>?_),(Turn.of_below hb).trans h2 fun _ _ h=>h⟩
 rcases hk with hk | hk | hk
 · exact h1.lt k (.inl hk)
 · exact h1.lt k (.inr (.inl hk))
 · exact hk.2
theorem z7i (t:Tv) (hiQ:0≤t.c.id∧t.c.id≤4294967295) (W:World) (B:Nat) (mb:Option Nat) (H:List Tv) (Q:Nat→Prop) (h:JgY W B mb H Q t.c.id) (hn:H.length≤10000) (hO:OwnO W t) (ha:∀ g,t.blk=some g→∀ u∈H,u.c.id≠t.c.id→u.blk≠some g) :
 Calls Tryz.prog 59 #[.pointer (some ⟨B,0,none⟩),.agg #[.int .u32 t.c.id,.int .u32 t.c.sg,.int .u8 t.c.st,.bool t.c.cp,.bool t.c.dd,.slice t.p t.n t.m,.int .i64 t.c.fs,.int .i64 t.c.sz]] W fun e w'=>e=.returned (.tuple #[])∧PutX W B mb H Q t w':=by
 have hmm:=@run_makeMap Tryz.prog
 have hb0:Below W.heap.size W (W.alloc (.cells #[.int .u32 t.c.id,.int .u32 t.c.sg,.int .u8 t.c.st,.bool t.c.cp,.bool t.c.dd,.slice t.p t.n t.m,.int .i64 t.c.fs,.int .i64 t.c.sz] 46)):=(Below.refl _ _).alloc (Nat.le_refl _) _
 have HJ:=hid h
 have HO:=hid hO
 have HA:=hid ha
 have HI:=hid hiQ
 have HJ1:=hid (h.later hb0)
 have HB0:=hid hb0
 have HX0:=hid (z0c W (.cells #[.int .u32 t.c.id,.int .u32 t.c.sg,.int .u8 t.c.st,.bool t.c.cp,.bool t.c.dd,.slice t.p t.n t.m,.int .i64 t.c.fs,.int .i64 t.c.sz] 46))
 obtain⟨X,hX⟩:∃ X,W.heap.size=X:=⟨_,rfl⟩
 have HHX:=hid hX
 rw [hX] at HX0
 clear hb0 h hO ha hiQ
 cases mb with
 | some b =>
  obtain⟨D,hown,hT⟩:=HJ1.out.some_ b rfl
  have HOW:=hid hown
  have HTm:=hid hT
  have hq:=fun w=>run_eql_map_nil_sl (P:=Tryz.prog) w 91 _ _ (some b) Tryz.underlying91
  clear hown hT
  go_enter Tryz.func59,Tryz.ntmps59
  go_upto_region 1 with (fail)
  clear hX
  generalize W.alloc (.cells #[.int .u32 t.c.id,.int .u32 t.c.sg,.int .u8 t.c.st,.bool t.c.cp,.bool t.c.dd,.slice t.p t.n t.m,.int .i64 t.c.fs,.int .i64 t.c.sz] 46)=W1 at *
  have c0:=z0a (j:=0) HJ1.out.b (v:=.map (some b)) rfl
  obtain⟨x0,x1,x2,x3,x4,x5,x6,x7⟩:=z0i HX0.out
  go_wp2_with fail
  go_still_tail 7,(by kernel_rfl)
  repeat still_step
  change wpList _ _ _ _ _ W1.drew
  refine wpList_mapUpdate_own _ rfl _ _ _ 91 rfl 22 46 q0t Tryz.underlying91 z5k b H.length _ rfl HOW.out.drew (by unfold maxLen;omega) _ _ _ rfl rfl (z6c (z9k HI.out)) _ [] (q2d (hx t)) ?_
  intro w3 hown3 hgrow3
  go_wp2_with fail
  go_end0
  have htn:Turn (fun k=>k=B∨some b=some k) W1 w3:=(Turn.of_grown (S:=fun k=>k=B∨some b=some k) hgrow3 fun k e=>.inr e).drewl
  exact⟨rfl,PutX.ahead HB0.out ⟨some b,HJ1.out.stored (HO.out.keep (Turn.of_below (S:=fun _=>False) HB0.out) fun _ _ h=>h) HA.out htn ((hgrow3.block B (z0g HJ1.out.b) (fun e=>HJ1.out.mB e.symm)).trans HJ1.out.b) (.inl rfl) hown3 (HTm.out.put HJ1.out.up t),htn⟩⟩
 | none =>
  obtain rfl:H=[]:=HJ1.out.none_ rfl
  have hq:=fun w=>run_eql_map_nil_sl (P:=Tryz.prog) w 91 _ _ none Tryz.underlying91
  have HXB:Hid (X≠B):=hid (by have:=z0g HJ.out.b;omega)
  go_enter Tryz.func59,Tryz.ntmps59
  go_upto_region 1 with (fail)
  clear hX
  generalize W.alloc (.cells #[.int .u32 t.c.id,.int .u32 t.c.sg,.int .u8 t.c.st,.bool t.c.cp,.bool t.c.dd,.slice t.p t.n t.m,.int .i64 t.c.fs,.int .i64 t.c.sz] 46)=W1 at *
  have c0:=z0a (j:=0) HJ1.out.b (v:=.map none) rfl
  have f0:=z0o 0 HJ1.out.b
  obtain⟨W3,hW3⟩:∃ W3,(W1.alloc (.map #[] 0)).setCell ⟨B,0,none⟩ (.map (some W1.heap.size))=W3:=⟨_,rfl⟩
  have hbl:=z0g HJ1.out.b
  have hne:W1.heap.size≠B:=by omega
  have hba:Below W1.heap.size W1 (W1.alloc (.map #[] 0)):=(Below.refl _ _).alloc (Nat.le_refl _) _
  have f1:=z0o 0 (z0b HJ1.out.b hba)
  have c1:=z0a (j:=0) (z0b HJ1.out.b hba) (v:=.map none) rfl
  have hB3:W3.heap[B]?=some (.cells #[.map (some W1.heap.size)] 93 (0,0)):=by
   rw [← hW3]
   exact z0u 0 _ (z0b HJ1.out.b hba)
  have HOW:Hid (MapU W3 W1.heap.size 0 (.map []:DataW Hx)):=hid (by
   rw [← hW3]
   have:=World.ownsMap_made (H:=Hx) W1 Tryz.prog 22 z5k
   exact this.setCell (a:=⟨B,0,none⟩) hne _)
  have hch:Chg (fun k=>k=B) W1 W3:=by
   rw [← hW3]
   exact (Chg.of_below (S:=fun k=>k=B) hba).trans (T:=fun k=>k=B) ((Chg.refl (fun k=>k=B) _).setCell ⟨B,0,none⟩ _ fun _=>rfl) (fun _ _ h=>h)
  have HT3:Hid (Turn (fun k=>k=B∨(none:Option Nat)=some k) W1 W3):=hid ⟨hch.os,hch.tape,hch.output,hch.size,fun k hk hn=>hch.block k hk fun e=>hn (.inl e)⟩
  have HX3:=hid ((hch.block X (z0g HX0.out) HXB.out).trans HX0.out)
  have HB3:=hid hB3
  have HNE:=hid hne
  clear hB3 hch hba hbl hne
  go_wp2_with fail
  try rw [hW3]
  try simp only [hW3]
  clear hW3 c0 f0 c1 f1
  have c0:=z0a (j:=0) HB3.out (v:=.map (some W1.heap.size)) rfl
  obtain⟨x0,x1,x2,x3,x4,x5,x6,x7⟩:=z0i HX3.out
  go_still_tail 7,(by kernel_rfl)
  repeat still_step
  change wpList _ _ _ _ _ W3.drew
  refine wpList_mapUpdate_own _ rfl _ _ _ 91 rfl 22 46 q0t Tryz.underlying91 z5k W1.heap.size 0 _ rfl HOW.out.drew (by unfold maxLen;omega) _ _ _ rfl rfl (z6c (z9k HI.out)) _ [] (q2d (hx t)) ?_
  intro w3 hown3 hgrow3
  go_wp2_with fail
  go_end0
  have htn:Turn (fun k=>k=B∨(none:Option Nat)=some k) W1 w3:=by
   refine HT3.out.trans (S':=fun k=>k=W1.heap.size) (Turn.of_grown (S:=fun k=>k=W1.heap.size) hgrow3 fun k e=>by cases e;rfl).drewl fun k hk e=>?_
   omega
  exact⟨rfl,PutX.ahead HB0.out ⟨some W1.heap.size,HJ1.out.stored (HO.out.keep (Turn.of_below (S:=fun _=>False) HB0.out) fun _ _ h=>h) HA.out htn ((hgrow3.block B (z0g HB3.out) (fun e=>HNE.out (by cases e;rfl))).trans HB3.out) (.inr (Nat.le_refl _)) hown3 (Gj.empty.put HJ1.out.up t),htn⟩⟩
def q0o (W:World) (t:Tv) (b:Bool) (e:Ending) (w':World):Prop:=∃ p m,e=.returned (.tuple #[.agg #[.int .u32 t.c.id,.int .u32 t.c.sg,.int .u8 t.c.st,.bool t.c.cp,.bool t.c.dd,.slice p t.n m,.int .i64 t.c.fs,.int .i64 t.c.sz],.bool b])∧w'.ownsRow W.heap.size 105 4 (.slice p t.n m) t.n (z0n oc t.c.dn)∧Below W.heap.size W w'
theorem get_gen (P:Value) (mb:Option Nat) (i:Int) (t:Tv) (b:Bool) (W:World) (hlk:∀ w',Below W.heap.size W w'→Calls Tryz.prog 63 #[P] w' fun e w''=>e=.returned (.map mb)∧w''=w')
 (hrun:∀ w',Below W.heap.size W w'→(Instr.lookup 91 (.map mb) (.int .u32 i) true).run Tryz.prog w'=.ok (.tuple #[.agg #[.int .u32 t.c.id,.int .u32 t.c.sg,.int .u8 t.c.st,.bool t.c.cp,.bool t.c.dd,.slice t.p t.n t.m,.int .i64 t.c.fs,.int .i64 t.c.sz],.bool b]) w') (hM:TvM W t) (hn:t.n≤10000) :
 Calls Tryz.prog 64 #[P,.int .u32 i] W (q0o W t b):=by
 have hb0:Below W.heap.size W (W.alloc (.cells #[.int .u32 0,.int .u32 0,.int .u8 0,.bool false,.bool false,.slice none 0 0,.int .i64 0,.int .i64 0] 46)):=(Below.refl _ _).alloc (Nat.le_refl _) _
 have HB0:=hid hb0
 have HR:=hid (z0c W (.cells #[.int .u32 0,.int .u32 0,.int .u8 0,.bool false,.bool false,.slice none 0 0,.int .i64 0,.int .i64 0] 46))
 have HM:=hid fun w' (hb:Below W.heap.size W w')=>hM.later hb
 have HN:=hid hn
 have HLK:=hid hlk
 have HRUN:=hid hrun
 obtain⟨R,hX⟩:∃ R,W.heap.size=R:=⟨_,rfl⟩
 have HRW:Hid (W.heap.size≤R):=hid (by omega)
 rw [hX] at HR
 clear hb0 hlk hrun hM hn
 go_enter Tryz.func64,Tryz.ntmps64
 go_upto_region 1 with (fail)
 clear hX
 generalize W.alloc (.cells #[.int .u32 0,.int .u32 0,.int .u8 0,.bool false,.bool false,.slice none 0 0,.int .i64 0,.int .i64 0] 46)=W1 at *
 have hl:=HRUN.out W1 HB0.out
 go_wp2_with fail
 refine (HLK.out _ HB0.out).mono ?_
 rintro e w2 ⟨rfl,hw2⟩
 subst hw2
 go_upto_region 2 with (fail)
 clear hl
 have hb1:Below w2.heap.size w2 (w2.alloc (.cells #[.int .u32 t.c.id,.int .u32 t.c.sg,.int .u8 t.c.st,.bool t.c.cp,.bool t.c.dd,.slice t.p t.n t.m,.int .i64 t.c.fs,.int .i64 t.c.sz] 46)):=(Below.refl _ _).alloc (Nat.le_refl _) _
 have HT:=hid (z0c w2 (.cells #[.int .u32 t.c.id,.int .u32 t.c.sg,.int .u8 t.c.st,.bool t.c.cp,.bool t.c.dd,.slice t.p t.n t.m,.int .i64 t.c.fs,.int .i64 t.c.sz] 46))
 have HR1:=hid (z0b HR.out hb1)
 have HB1:=hid (HB0.out.trans (hb1.mono HB0.out.size))
 obtain⟨T,hT⟩:∃ T,w2.heap.size=T:=⟨_,rfl⟩
 rw [hT] at HT
 rw [hT]
 clear hb1 hT
 generalize w2.alloc (.cells #[.int .u32 t.c.id,.int .u32 t.c.sg,.int .u8 t.c.st,.bool t.c.cp,.bool t.c.dd,.slice t.p t.n t.m,.int .i64 t.c.fs,.int .i64 t.c.sz] 46)=W3 at *
 obtain⟨x0,x1,x2,x3,x4,x5,x6,x7⟩:=z0i HT.out
 have HOWN:=hid (own_any t W3 (HM.out _ HB1.out) HN.out)
 go_wp2_with fail
 clear x0 x1 x2 x3 x4 x5 x6 x7
 refine HOWN.out.mono ?_
 rintro e w4 ⟨p,m,rfl,hrow,hb4⟩
 have HR4:=hid (z0b HR1.out hb4)
 have HB4:=hid (HB1.out.trans (hb4.mono HB1.out.size))
 have HROW:=hid hrow
 have HRL:=hid (z0g HR1.out)
 have HSZ:=hid HB1.out.size
 clear hrow hb4 HOWN
 obtain⟨y0,y1,y2,y3,y4,y5,y6,y7⟩:=z5j HR4.out
 obtain⟨z0,z1,z2,z3,z4,z5,z6,z7⟩:=z0i HR4.out
 have HFS:=hid (z3q (a':=.int .u32 t.c.id) (b':=.int .u32 t.c.sg) (c':=.int .u8 t.c.st) (d':=.bool t.c.cp) (e':=.bool t.c.dd) (f':=.slice p t.n m) (g':=.int .i64 t.c.fs) (h':=.int .i64 t.c.sz) HR4.out)
 have HGS:=hid (q1x HB4.out HRW.out (.int .u32 t.c.id) (.int .u32 t.c.sg) (.int .u8 t.c.st) (.bool t.c.cp) (.bool t.c.dd) (.slice p t.n m) (.int .i64 t.c.fs) (.int .i64 t.c.sz))
 have HCR:Hid (Chg (fun k=>k=R) w4 _):=hid (tchg w4 R (.int .u32 t.c.id) (.int .u32 t.c.sg) (.int .u8 t.c.st) (.bool t.c.cp) (.bool t.c.dd) (.slice p t.n m) (.int .i64 t.c.fs) (.int .i64 t.c.sz))
 go_wp2_with fail
 refine bodyPost_ret (v:=.tuple #[.agg #[.int .u32 t.c.id,.int .u32 t.c.sg,.int .u8 t.c.st,.bool t.c.cp,.bool t.c.dd,.slice p t.n m,.int .i64 t.c.fs,.int .i64 t.c.sz],.bool b]) ?_ rfl ⟨p,m,rfl,z8k ?_ (z0x (z8k (fun _ _=>Nat.zero_le _) HROW.out) HCR.out ?_),HGS.out⟩
 · exact z5z rfl _ _ R _ rfl _ rfl rfl HFS.out
 · intro g hg
   have h1:=(HROW.out.lt g hg).1
   have h2:=HSZ.out
   omega
 · intro g hg e
   have h1:=(HROW.out.lt g hg).1
   have h2:=HRL.out
   omega
theorem jget_any (W:World) (B:Nat) (mb:Option Nat) (H:List Tv) (Q:Nat→Prop) (i:Int) (h:JgX W B mb H Q) (hi:0≤i∧i≤4294967295) (hn:∀ t∈H,t.n≤10000) :
 Calls Tryz.prog 64 #[.pointer (some ⟨B,0,none⟩),.int .u32 i] W (q0o W ((getT Tv.id H i).getD tv0) (getT Tv.id H i).isSome):=by
 refine get_gen _ mb i _ _ W (fun w' hb=>q0b w' B mb (z0b h.b hb)) (fun w' hb=>(h.later hb).look hi rfl rfl) ?_ ?_
 · cases hg:getT Tv.id H i with
   | none=>exact q1w W
   | some t=>exact (h.own t (z5g hg).1).m
 · cases hg:getT Tv.id H i with
   | none=>exact Nat.zero_le _
   | some t=>exact hn t (z5g hg).1
theorem newT_step (L:List Tv) (j:Nat) (hj:j<L.length):newT Tc.id ((L.take (j+1)).map (·.c))=z1x Tc.id (newT Tc.id ((L.take j).map (·.c))) (L.getD j tv0).c:=by
 have e:L.getD j tv0=L[j]:=by simp [List.getD,List.getElem?_eq_getElem hj]
 unfold newT
 rw [List.take_add_one,List.getElem?_eq_getElem hj,Option.toList_some,List.map_append,List.foldl_append,e]
 rfl
structure NewI (W wr:World) (B:Nat) (L:List Tv) (j:Nat):Prop where
 is:∃ mb H Q,JgX wr B mb H Q∧H.map (·.c)=newT Tc.id ((L.take j).map (·.c))∧H.length≤j∧∀ k,Q k→W.heap.size≤k
 below:Below W.heap.size W wr
theorem NewI.start (W:World) (L:List Tv):NewI W (W.alloc (.cells #[.map none] 93)) W.heap.size L 0:=by
 have hb:Below W.heap.size W (W.alloc (.cells #[.map none] 93)):=(Below.refl _ _).alloc (Nat.le_refl _) _
 refine⟨⟨none,[],fun k=>k=W.heap.size,⟨z0c W _,fun _=>rfl,(fun b e=>by cases e),List.Pairwise.nil,(fun t ht=>by cases ht),(fun t ht=>by cases ht),rfl,(fun b e=>by cases e),(fun t ht=>by cases ht),fun j hj=>?_⟩,by simp [newT],Nat.le_refl _,fun k hk=>by omega⟩,hb⟩
 subst hj
 exact z0g (z0c W _)
theorem NewI.step {W wr w1 w2:World} {B:Nat} {L:List Tv} {j:Nat} {mb:Option Nat} {H:List Tv} {Q:Nat→Prop} (h1:JgX wr B mb H Q) (h2:H.map (·.c)=newT Tc.id ((L.take j).map (·.c))) (h3:H.length≤j) (h4:∀ k,Q k→W.heap.size≤k) (hb:Below W.heap.size W w1) (hj:j<L.length) {t:Tv} (ht:t.c=(L.getD j tv0).c) (hp:PutX w1 B mb H Q t w2) (hg:∀ g,t.blk=some g→W.heap.size≤g):NewI W w2 B L (j+1):=by
 obtain⟨mb',g1,g2⟩:=hp
 refine⟨⟨mb',_,_,g1,?_,?_,fun k hk=>?_⟩,hb.trans (g2.below hb.size fun k hk=>?_)⟩
 · rw [map_withT (ix:=Tv.id) (jx:=Tc.id) (f:=(·.c)) (fun _=>rfl),h2,ht,newT_step L j hj]
 · exact Nat.le_trans (len_withT H t) (by omega)
 · rcases hk with hk | hk | hk
   · exact h4 k hk
   · exact hg k hk
   · exact Nat.le_trans hb.size hk.1
 · rcases hk with hk | hk
   · subst hk
     exact h4 _ h1.qb
   · exact h4 _ (h1.qm _ hk)
theorem jnew_any (p:Option Addr) (n c:Nat) (L:List Tv) (W:World) (hL:TL W p n c L) (hn:n≤100) (hf:∀ t∈L,t.n≤100) (hiQ:∀ t∈L,0≤t.c.id∧t.c.id≤4294967295) :
 Calls Tryz.prog 27 #[.slice p n c] W fun e w'=>∃ B Q,e=.returned (.pointer (some ⟨B,0,none⟩))∧Jg w' B (newT Tc.id (L.map (·.c))) Q∧(∀ j,Q j→W.heap.size≤j)∧Below W.heap.size W w':=by
 have HL:=hid hL
 have HF:=hid hf
 have HI:=hid hiQ
 have hcap:=hL.row.cap
 have HS:=hid (NewI.start W L)
 clear hL hf hiQ
 go_enter Tryz.func27,Tryz.ntmps27
 go_upto_region 2 with (fail)
 obtain⟨B,hB⟩:∃ B,W.heap.size=B:=⟨_,rfl⟩
 rw [hB] at HS
 rw [hB]
 have HB:=hid hB
 clear hB
 generalize W.alloc (.cells #[.map none] 93)=W1 at *
 go_wp2_with fail
 go_loopw [10] (fun i wr=>∃ j:Nat,j≤n∧i=.int .i64 (j:Int)∧Hid (NewI W wr B L j)) (fun i _=>n-(Go.RowKit.intOf i).toNat)
 case atStart=>exact⟨0,Nat.zero_le _,rfl,HS⟩
 case round =>
  obtain⟨j,hj,rfl,HN⟩:=hrel
  by_cases hlt:j<n
  · have t1:(j:Int)<n:=by omega
    have HM:=hid (HL.out.at hlt)
    have HMI:=hid (HL.out.mem hlt)
    obtain⟨b,off,rfl,_,c0,c1,c2,c3,c4,c5,c6,c7⟩:=txr_cells (HL.out.row.later HN.out.below) hlt
    have HXE:=hid (rfl:L.getD j tv0=L.getD j tv0)
    generalize hxe:L.getD j tv0=x at *
    have HXQ:=hid hxe
    clear HXE hxe
    go_upto_region 5 with (fail)
    clear c0 c1 c2 c3 c4 c5 c6 c7
    have hb1:Below wr.heap.size wr (wr.alloc (.cells #[.int .u32 x.c.id,.int .u32 x.c.sg,.int .u8 x.c.st,.bool x.c.cp,.bool x.c.dd,.slice x.p x.n x.m,.int .i64 x.c.fs,.int .i64 x.c.sz] 46)):=(Below.refl _ _).alloc (Nat.le_refl _) _
    have HBX:=hid (z0c wr (.cells #[.int .u32 x.c.id,.int .u32 x.c.sg,.int .u8 x.c.st,.bool x.c.cp,.bool x.c.dd,.slice x.p x.n x.m,.int .i64 x.c.fs,.int .i64 x.c.sz] 46))
    have HB1:=hid hb1
    obtain⟨Z,hZ⟩:∃ Z,wr.heap.size=Z:=⟨_,rfl⟩
    have HZ:=hid hZ
    rw [hZ] at HBX
    rw [hZ]
    clear hb1 hZ
    generalize wr.alloc (.cells #[.int .u32 x.c.id,.int .u32 x.c.sg,.int .u8 x.c.st,.bool x.c.cp,.bool x.c.dd,.slice x.p x.n x.m,.int .i64 x.c.fs,.int .i64 x.c.sz] 46)=V at *
    obtain⟨x0,x1,x2,x3,x4,x5,x6,x7⟩:=z0i HBX.out
    have HBW:=hid (HN.out.below.trans (HB1.out.mono HN.out.below.size))
    have HOWN:=hid (own_any x V (HM.out.later HBW.out) (by have:=HF.out x HMI.out;omega))
    go_wp2_with fail
    clear x0 x1 x2 x3 x4 x5 x6 x7
    refine HOWN.out.mono ?_
    rintro e w2 ⟨q,m,rfl,hrow,hb2⟩
    obtain⟨mb,H,Q,h1,h2,h3,h4⟩:=HN.out.is
    have hb3:=HB1.out.trans (hb2.mono HB1.out.size)
    have hsz:=HB1.out.size
    have hrw:OwnO w2 (⟨x.c,q,x.n,m⟩:Tv):=z8k (fun _ _=>Nat.zero_le _) hrow
    have HG:Hid (∀ g,(⟨x.c,q,x.n,m⟩:Tv).blk=some g→wr.heap.size≤g):=hid fun g hg=>by
     have:=(hrow.lt g hg).1
     omega
    have HPUT:=hid (z7i (⟨x.c,q,x.n,m⟩:Tv) (HI.out x HMI.out) w2 B mb H Q ((h1.later hb3).y _) (by omega) hrw (fun g hg u hu _ e=>by
     have g1:=HG.out g hg
     have g2:=(h1.own u hu).lt e
     omega))
    have HB3:=hid (HBW.out.trans (hb2.mono HBW.out.size))
    have HALL:=hid (And.intro h1 (And.intro h2 (And.intro h3 h4)))
    clear hrow hb2 h1 h2 h3 h4 hb3 hrw HOWN hsz
    go_wp2_with fail
    refine HPUT.out.mono ?_
    rintro e w3 ⟨rfl,hput⟩
    have HST:=hid (NewI.step HALL.out.1 HALL.out.2.1 HALL.out.2.2.1 HALL.out.2.2.2 HB3.out (by rw [HL.out.row.len];exact hlt) (by rw [HXQ.out]) hput fun g hg=>Nat.le_trans HN.out.below.size (HG.out g hg))
    clear hput HPUT
    go_wp2_with fail
    go_roundw
    case rel=>exact⟨j+1,by omega,by go_num,HST⟩
    case measure =>
     simp [Go.RowKit.intOf]
     omega
  · obtain rfl:j=n:=by omega
    go_wp2_with fail
    go_ret
    obtain⟨mb,H,Q,h1,h2,h3,h4⟩:=HN.out.is
    rw [List.take_of_length_le (by rw [HL.out.row.len];exact Nat.le_refl _)] at h2
    exact⟨B,Q,rfl,⟨mb,H,h1,h2⟩,h4,HN.out.below⟩
def Came (left:Lit→Bool) (t:Tv):Prop:=left (kU t.c.id)=false
theorem came_start {D:DataW Hx} {H:List Tv} (hT:Gj D H) (hu:UpT Tv.id H) {t:Tv} (ht:t∈H):¬ Came (Maps.has D) t:=by
 have h1:=hT.has t.c.id
 rw [show t.c.id=Tv.id t from rfl,z9c hu ht] at h1
 unfold Came
 rw [show t.c.id=Tv.id t from rfl,h1]
 simp
theorem came_one {D:DataW Hx} {H:List Tv} (hT:Gj D H) {x:Int} {f:Hx} {y:DataW Hx × List MemPlace} (hv:z5k (.agg (hcs f))=some y) (hat:∀ zd,D.atKey (kU x) zd=y.1):∃ t∈H,t.c.id=x∧f=hx t:=by
 rw [q2d] at hv
 obtain rfl:=Option.some.inj hv
 have h1:=hT.at_ x (.held (hx tv0))
 rw [hat] at h1
 have h2:=hT.at_ x (.map [])
 rw [hat] at h2
 cases hg:getT Tv.id H x with
 | none =>
  rw [hg] at h2
  cases h2
 | some t =>
  rw [hg] at h1
  obtain⟨h3,h4⟩:=z5g hg
  exact⟨t,h3,h4,by simpa using h1⟩
theorem came_step {left:Lit→Bool} {x:Int} {t:Tv}:Came (fun z=>left z && !z.sameKey (kU x)) t ↔ Came left t∨t.c.id=x:=by
 unfold Came
 have h:Lit.sameKey (kU t.c.id) (kU x)=decide (t.c.id=x):=by
  simp [Lit.sameKey]
 show (left (kU t.c.id) && !(Lit.sameKey (kU t.c.id) (kU x)))=false ↔ _
 rw [h]
 by_cases e:t.c.id=x
 · simp [e]
 · simp [e]
theorem up_eq {H:List Tv} (hu:UpT Tv.id H) {t u:Tv} (ht:t∈H) (hu':u∈H) (h:t.c.id=u.c.id):t=u:=by
 have h1:=z9c hu ht
 have h2:=z9c hu hu'
 rw [show Tv.id t=Tv.id u from h,h2] at h1
 exact (Option.some.inj h1).symm
structure OfI (H:List Tv) (s:Int) (left:Lit→Bool) (n:Int) (q:Bool):Prop where
 le:∀ t∈H,Came left t→t.c.sg=s→q=true∧n≤t.c.id
 is:q=true→∃ t∈H,t.c.sg=s∧t.c.id=n
theorem OfI.step {H:List Tv} {s:Int} {left:Lit→Bool} {n:Int} {q:Bool} (h:OfI H s left n q) (hu:UpT Tv.id H) {t:Tv} (ht:t∈H) (hs:t.c.sg=s) (hq:q=false∨t.c.id<n) :
 OfI H s (fun z=>left z && !z.sameKey (kU t.c.id)) t.c.id true:=by
 refine⟨fun u hu' hc e=>⟨rfl,?_⟩,fun _=>⟨t,ht,hs,rfl⟩⟩
 rcases came_step.1 hc with g | g
 · obtain⟨h1,h2⟩:=h.le u hu' g e
   rcases hq with hq | hq
   · rw [h1] at hq
     cases hq
   · omega
 · omega
theorem OfI.pass {H:List Tv} {s:Int} {left:Lit→Bool} {n:Int} {q:Bool} (h:OfI H s left n q) (hu:UpT Tv.id H) {t:Tv} (ht:t∈H) (hs:t.c.sg≠s∨(q=true∧¬ t.c.id<n)) :
 OfI H s (fun z=>left z && !z.sameKey (kU t.c.id)) n q:=by
 refine⟨fun u hu' hc e=>?_,h.is⟩
 rcases came_step.1 hc with g | g
 · exact h.le u hu' g e
 · obtain rfl:=up_eq hu hu' ht g
   rcases hs with hs | hs
   · exact absurd e hs
   · exact⟨hs.1,by have:=hs.2;omega⟩
theorem OfI.fin {H:List Tv} {s n:Int} {q:Bool} (h:OfI H s (fun _=>false) n q) (hu:UpT Tv.id H):(q=false∧getT Tv.sg H s=none)∨(q=true∧∃ t∈H,t.c.id=n∧getT Tv.sg H s=some t):=by
 cases q with
 | false=>exact .inl ⟨rfl,find_none fun u hu'=>decide_eq_false fun e=>by have:=(h.le u hu' rfl e).1;cases this⟩
 | true =>
  obtain⟨t,ht,hs,he⟩:=h.is rfl
  exact .inr ⟨rfl,t,ht,he,find_least hu ht (decide_eq_true hs) fun u hu' hp=>by
   have:=(h.le u hu' rfl (of_decide_eq_true hp)).2
   show t.c.id≤u.c.id
   omega⟩
def GivesTJ (W:World) (c:Tc) (b:Bool) (e:Ending) (w':World):Prop:=∃ t:Tv,e=.returned (.tuple #[.agg #[.int .u32 t.c.id,.int .u32 t.c.sg,.int .u8 t.c.st,.bool t.c.cp,.bool t.c.dd,.slice t.p t.n t.m,.int .i64 t.c.fs,.int .i64 t.c.sz],.bool b])∧t.c=c∧TvM w' t∧Below W.heap.size W w'
set_option maxRecDepth 100000 in
theorem of_some (P:Value) (b:Nat) (H:List Tv) (D:DataW Hx) (s:Int) (W:World) (hlk:∀ w',Below W.heap.size W w'→Calls Tryz.prog 63 #[P] w' fun e w''=>e=.returned (.map (some b))∧w''=w') (hown:MapU W b H.length D) (hT:Gj D H) (hu:UpT Tv.id H)
 (hget:∀ t∈H,∀ w',Below W.heap.size W w'→Calls Tryz.prog 64 #[P,.int .u32 t.c.id] w' (q0o w' t true)) :
 Calls Tryz.prog 29 #[P,.int .u32 s] W (GivesTJ W ((getT Tv.sg H s).getD tv0).c (getT Tv.sg H s).isSome):=by
 have hb0:Below W.heap.size W (W.alloc (.cells #[.int .u32 0,.int .u32 0,.int .u8 0,.bool false,.bool false,.slice none 0 0,.int .i64 0,.int .i64 0] 46)):=(Below.refl _ _).alloc (Nat.le_refl _) _
 have HB0:=hid hb0
 have HR:=hid (z0c W (.cells #[.int .u32 0,.int .u32 0,.int .u8 0,.bool false,.bool false,.slice none 0 0,.int .i64 0,.int .i64 0] 46))
 have HT:=hid hT
 have HU:=hid hu
 have HGT:=hid hget
 have HLK:=hid (hlk _ hb0)
 have HOWN:=hid (hown.turn (Turn.of_below (S:=fun _=>False) hb0) (fun h=>h))
 obtain⟨R,hX⟩:∃ R,W.heap.size=R:=⟨_,rfl⟩
 have HRW:Hid (W.heap.size≤R):=hid (by omega)
 rw [hX] at HR
 clear hb0 hlk hT hu hget hown
 go_enter Tryz.func29,Tryz.ntmps29
 go_upto_region 1 with (fail)
 clear hX
 generalize W.alloc (.cells #[.int .u32 0,.int .u32 0,.int .u8 0,.bool false,.bool false,.slice none 0 0,.int .i64 0,.int .i64 0] 46)=W1 at *
 go_wp2_with fail
 refine HLK.out.mono ?_
 rintro e w2 ⟨rfl,hw2⟩
 subst hw2
 go_wp2_with (first
  | (at_range;refine wpList_range_own _ rfl _ 91 rfl 22 46 q0t Tryz.underlying91 _ b H.length _ rfl HOWN.out ?_;intro w0 hrg0 hg0 hs0)
  | go_in)
 go_frame
 go_loopw [6,7,8] (fun vn vb _ wr=>∃ (left:Lit→Bool) (cnt:Nat) (n:Int) (q:Bool),vn=.int .u32 n∧vb=.bool q∧wr.ranges Tryz.prog 22 z5k b w2.heap.size H.length D left cnt∧Hid (OfI H s left n q)∧Hid (Below w2.heap.size w2 wr)) (fun _ _ _ wr=>wr.rangeLeft b w2.heap.size)
 case atStart=>exact⟨_,_,0,false,rfl,rfl,hrg0,hid ⟨fun t ht hc=>absurd hc (came_start HT.out HU.out ht),(fun e=>by cases e)⟩,hid ((Below.refl _ _).grown hg0 (Nat.le_refl _) (fun j hj=>by cases hj))⟩
 case round =>
  obtain⟨left,cnt,n,q,rfl,rfl,hrg,HF,HB⟩:=hrel
  go_wp2_with (first
   | (at_next;refine wpList_next_ranges _ rfl _ rfl 22 q0t z5k (Value.int .u32) (fun f:Hx=>.agg (hcs f)) (fun key kl hkey=>by obtain⟨x,rfl,_⟩:=Maps.keyOf_int_inv Tryz.underlying22 hkey;exact⟨x,rfl⟩) (fun v y hv=>by obtain⟨c,rfl,_⟩:=txe_inv hv;exact⟨c,rfl⟩) b w2.heap.size H.length _ _ _ rfl hrg ?_ ?_)
   | go_in)
  · intro hc0 hl0
    obtain rfl:left=fun _=>false:=funext hl0
    have HRW2:=hid (z0b HR.out HB.out)
    have HBW:=hid (HB0.out.trans (HB.out.mono HB0.out.size))
    clear hrg hc0 hl0
    rcases HF.out.fin HU.out with ⟨rfl,hn⟩ | ⟨rfl,t,ht,rfl,hn⟩
    · have HN:=hid hn
      obtain⟨r0,r1,r2,r3,r4,r5,r6,r7⟩:=z0i HRW2.out
      obtain⟨f0,f1,f2,f3,f4,f5,f6,f7⟩:=z5j HRW2.out
      have HFS:=hid (z3q (a':=.int .u32 0) (b':=.int .u32 0) (c':=.int .u8 0) (d':=.bool false) (e':=.bool false) (f':=.slice none 0 0) (g':=.int .i64 0) (h':=.int .i64 0) HRW2.out)
      have HGS:=hid (q1x HBW.out HRW.out (.int .u32 0) (.int .u32 0) (.int .u8 0) (.bool false) (.bool false) (.slice none 0 0) (.int .i64 0) (.int .i64 0))
      clear hn HF
      go_wp2_with fail
      refine bodyPost_ret (v:=.tuple #[.agg #[.int .u32 0,.int .u32 0,.int .u8 0,.bool false,.bool false,.slice none 0 0,.int .i64 0,.int .i64 0],.bool false]) ?_ rfl ⟨tv0,by rw [HN.out];rfl,by rw [HN.out];rfl,q1w _,HGS.out⟩
      exact z5z rfl _ _ R _ rfl _ rfl rfl HFS.out
    · have HN:=hid hn
      have HG:=hid (HGT.out t ht _ HBW.out)
      clear hn ht HF
      go_wp2_with fail
      refine HG.out.mono ?_
      rintro e w4 ⟨p,m,rfl,hrow,hb4⟩
      have HR4:=hid (z0b HRW2.out hb4)
      have HB4:=hid (HBW.out.trans (hb4.mono HBW.out.size))
      have HROW:=hid hrow
      have HRL:=hid (z0g HRW2.out)
      clear hrow hb4 HG
      obtain⟨y0,y1,y2,y3,y4,y5,y6,y7⟩:=z5j HR4.out
      obtain⟨z0,z1,z2,z3,z4,z5,z6,z7⟩:=z0i HR4.out
      have HFS:=hid (z3q (a':=.int .u32 t.c.id) (b':=.int .u32 t.c.sg) (c':=.int .u8 t.c.st) (d':=.bool t.c.cp) (e':=.bool t.c.dd) (f':=.slice p t.n m) (g':=.int .i64 t.c.fs) (h':=.int .i64 t.c.sz) HR4.out)
      have HGS:=hid (q1x HB4.out HRW.out (.int .u32 t.c.id) (.int .u32 t.c.sg) (.int .u8 t.c.st) (.bool t.c.cp) (.bool t.c.dd) (.slice p t.n m) (.int .i64 t.c.fs) (.int .i64 t.c.sz))
      have HCR:Hid (Chg (fun k=>k=R) w4 _):=hid (tchg w4 R (.int .u32 t.c.id) (.int .u32 t.c.sg) (.int .u8 t.c.st) (.bool t.c.cp) (.bool t.c.dd) (.slice p t.n m) (.int .i64 t.c.fs) (.int .i64 t.c.sz))
      go_wp2_with fail
      refine bodyPost_ret (v:=.tuple #[.agg #[.int .u32 t.c.id,.int .u32 t.c.sg,.int .u8 t.c.st,.bool t.c.cp,.bool t.c.dd,.slice p t.n m,.int .i64 t.c.fs,.int .i64 t.c.sz],.bool true]) ?_ rfl ⟨⟨t.c,p,t.n,m⟩,by rw [HN.out];rfl,by rw [HN.out];rfl,?_,HGS.out⟩
      · exact z5z rfl _ _ R _ rfl _ rfl rfl HFS.out
      · refine OwnO.m (t:=⟨t.c,p,t.n,m⟩) (z0x (z8k (fun _ _=>Nat.zero_le _) HROW.out) HCR.out ?_)
        intro g hg e
        have h1:=(HROW.out.lt g hg).1
        have h2:=HRL.out
        omega
  · intro x f kl yd yp w3 cnt2 hkey hlk hv hat hrg2 hlt hg2 hs2 hen
    obtain⟨x',ex,rfl,_⟩:=Maps.keyOf_int_inv Tryz.underlying22 hkey
    cases ex
    obtain⟨t,ht,rfl,rfl⟩:=came_one HT.out hv hat
    have HTI:=hid ht
    have hb3:Below w2.heap.size w2 w3:=HB.out.grown hg2 HB.out.size (fun j hj=>by cases hj;exact Nat.le_refl _)
    have HB3:=hid (hb3.alloc hb3.size (.cells #[.int .u32 t.c.id,.int .u32 t.c.sg,.int .u8 t.c.st,.bool t.c.cp,.bool t.c.dd,.slice t.p t.n t.m,.int .i64 t.c.fs,.int .i64 t.c.sz] 46))
    have HRG:=hid (hrg2.alloc (.cells #[.int .u32 t.c.id,.int .u32 t.c.sg,.int .u8 t.c.st,.bool t.c.cp,.bool t.c.dd,.slice t.p t.n t.m,.int .i64 t.c.fs,.int .i64 t.c.sz] 46))
    have HOLD:=hid hrg
    have HLT:=hid hlt
    dsimp only [hcs,hx] at hen ⊢
    clear hkey hlk hv hat hrg2 hlt hg2 hs2 ht hb3 hrg
    by_cases hs:t.c.sg=s
    · have hq1:(t.c.sg==s)=true:=by simpa using hs
      have HS:=hid hs
      clear hs
      cases q with
      | false =>
       have HF2:=hid (HF.out.step HU.out HTI.out HS.out (.inl rfl))
       clear HF
       go_wp2_with fail
       go_roundw
       case rel=>exact⟨_,cnt2,_,_,rfl,rfl,HRG.out,HF2,HB3⟩
       case measure=>rw [HRG.out.left_eq,HOLD.out.left_eq];exact HLT.out
      | true =>
       by_cases hf:t.c.id<n
       · have HF2:=hid (HF.out.step HU.out HTI.out HS.out (.inr hf))
         clear HF
         go_wp2_with fail
         go_roundw
         case rel=>exact⟨_,cnt2,_,_,rfl,rfl,HRG.out,HF2,HB3⟩
         case measure=>rw [HRG.out.left_eq,HOLD.out.left_eq];exact HLT.out
       · have HF2:=hid (HF.out.pass HU.out HTI.out (.inr ⟨rfl,hf⟩))
         clear HF
         go_wp2_with fail
         go_roundw
         case rel=>exact⟨_,cnt2,_,_,rfl,rfl,HRG.out,HF2,HB3⟩
         case measure=>rw [HRG.out.left_eq,HOLD.out.left_eq];exact HLT.out
    · have hq1:(t.c.sg==s)=false:=by simpa using hs
      have HF2:=hid (HF.out.pass HU.out HTI.out (.inl hs))
      clear hs
      clear HF
      go_wp2_with fail
      go_roundw
      case rel=>exact⟨_,cnt2,_,_,rfl,rfl,HRG.out,HF2,HB3⟩
      case measure=>rw [HRG.out.left_eq,HOLD.out.left_eq];exact HLT.out
theorem of_none (P:Value) (s:Int) (W:World) (hlk:∀ w',Below W.heap.size W w'→Calls Tryz.prog 63 #[P] w' fun e w''=>e=.returned (.map none)∧w''=w') :
 Calls Tryz.prog 29 #[P,.int .u32 s] W fun e w'=>e=.returned (.tuple #[.agg #[.int .u32 0,.int .u32 0,.int .u8 0,.bool false,.bool false,.slice none 0 0,.int .i64 0,.int .i64 0],.bool false])∧Below W.heap.size W w':=by
 have hb0:Below W.heap.size W (W.alloc (.cells #[.int .u32 0,.int .u32 0,.int .u8 0,.bool false,.bool false,.slice none 0 0,.int .i64 0,.int .i64 0] 46)):=(Below.refl _ _).alloc (Nat.le_refl _) _
 have HB0:=hid hb0
 have HR:=hid (z0c W (.cells #[.int .u32 0,.int .u32 0,.int .u8 0,.bool false,.bool false,.slice none 0 0,.int .i64 0,.int .i64 0] 46))
 have HLK:=hid (hlk _ hb0)
 obtain⟨R,hX⟩:∃ R,W.heap.size=R:=⟨_,rfl⟩
 have HRW:Hid (W.heap.size≤R):=hid (by omega)
 rw [hX] at HR
 clear hb0 hlk
 go_enter Tryz.func29,Tryz.ntmps29
 go_upto_region 1 with (fail)
 clear hX
 generalize W.alloc (.cells #[.int .u32 0,.int .u32 0,.int .u8 0,.bool false,.bool false,.slice none 0 0,.int .i64 0,.int .i64 0] 46)=W1 at *
 have hrg:=run_range_nilMap (P:=Tryz.prog) W1 91 22 46 Tryz.underlying91
 have hnx:∀ ty,(Instr.next (.pointer (some ⟨W1.heap.size,0,none⟩)) false ty).run Tryz.prog (W1.alloc (.mapIter none 0 #[] 0))=_:=fun ty=>run_next_nilMap W1 ty 0 0 #[]
 have hb1:Below W1.heap.size W1 (W1.alloc (.mapIter none 0 #[] 0)):=(Below.refl W1.heap.size W1).alloc (Nat.le_refl _) (.mapIter none 0 #[] 0)
 have HR2:=hid (z0b HR.out hb1)
 have HB2:=hid (HB0.out.trans (hb1.mono HB0.out.size))
 clear hb1
 go_wp2_with fail
 refine HLK.out.mono ?_
 rintro e w2 ⟨rfl,hw2⟩
 subst hw2
 go_wp2_with fail
 refine wp_loop_rounds 1 ?_
 rw [rounds_succ]
 obtain⟨r0,r1,r2,r3,r4,r5,r6,r7⟩:=z0i HR2.out
 obtain⟨f0,f1,f2,f3,f4,f5,f6,f7⟩:=z5j HR2.out
 have HFS:=hid (z3q (a':=.int .u32 0) (b':=.int .u32 0) (c':=.int .u8 0) (d':=.bool false) (e':=.bool false) (f':=.slice none 0 0) (g':=.int .i64 0) (h':=.int .i64 0) HR2.out)
 have HGS:=hid (q1x HB2.out HRW.out (.int .u32 0) (.int .u32 0) (.int .u8 0) (.bool false) (.bool false) (.slice none 0 0) (.int .i64 0) (.int .i64 0))
 go_wp2_with fail
 refine bodyPost_ret (v:=.tuple #[.agg #[.int .u32 0,.int .u32 0,.int .u8 0,.bool false,.bool false,.slice none 0 0,.int .i64 0,.int .i64 0],.bool false]) ?_ rfl ⟨rfl,HGS.out⟩
 exact z5z rfl _ _ R _ rfl _ rfl rfl HFS.out
theorem jof_any (W:World) (B:Nat) (mb:Option Nat) (H:List Tv) (Q:Nat→Prop) (s:Int) (h:JgX W B mb H Q) (hiQ:∀ t∈H,0≤t.c.id∧t.c.id≤4294967295) (hn:∀ t∈H,t.n≤10000) :
 Calls Tryz.prog 29 #[.pointer (some ⟨B,0,none⟩),.int .u32 s] W (GivesTJ W ((getT Tv.sg H s).getD tv0).c (getT Tv.sg H s).isSome):=by
 cases mb with
 | none =>
  rw [h.none_ rfl]
  refine (of_none _ s W fun w' hb=>q0b w' B none (z0b h.b hb)).mono ?_
  rintro e w' ⟨rfl,hb⟩
  exact⟨tv0,rfl,rfl,q1w _,hb⟩
 | some b =>
  obtain⟨D,h1,h2⟩:=h.some_ b rfl
  refine of_some _ b H D s W (fun w' hb=>q0b w' B (some b) (z0b h.b hb)) h1 h2 h.up fun t ht w' hb=>?_
  have h3:=jget_any w' B (some b) H Q t.c.id (h.later hb) (hiQ t ht) hn
  rw [show t.c.id=Tv.id t from rfl,z9c h.up ht] at h3
  exact h3
end Go.Proofs.YtclbkfpbdidaiaaGreatDoor
