import Derived.Test.YtclbkfpbdidaiaaGreatDoorPC32
import Derived.Shelf.SlIterI.Nil
namespace Go.Proofs.YtclbkfpbdidaiaaGreatDoor
open Go.Lib (hid)
set_option maxHeartbeats 4000000
open Go.RowKit Go.ChangeShapes Go.WideShapes
set_option linter.unusedVariables false
section
attribute [local go_sem] Oper.semAt_some
def q1z (L:List O) (pre:List Nat):List O:=pre.map fun j=>negO (L.getD j o0)
theorem negAt_all (L:List O) (n:Nat) (h:L.length=n):q1z L (dn n 0)=negF L:=by
 subst h
 unfold q1z dn negF
 rw [List.map_reverse,Nat.sub_zero,← List.range_eq_range']
 congr 1
 apply List.ext_getElem (by simp)
 intro i h1 h2
 simp only [List.getElem_map,List.getElem_range]
 congr 1
 simp only [List.length_map] at h2
 simp [List.getD,List.getElem?_eq_getElem h2]
structure NegI (W:World) (p:Option Addr) (n c:Nat) (L:List O) (pre:List Nat) (X:World):Prop where
 r0:Boxed X W.heap.size 44 (.slice none 0 0)
 r1:Boxed X (W.heap.size+1) 4 (.bool false)
 row:∃ v,Boxed X (W.heap.size+1+1) 44 v∧X.ownsRow W.heap.size 105 4 v pre.length (z0n oc (q1z L pre))
 r3:Boxed X (W.heap.size+3) 44 (.slice p n c)
 below:Below W.heap.size W X
 ok:∀ j∈pre,okB (-(L.getD j o0).2)=true
structure NegX (W:World) (L:List O) (pre:List Nat) (X:World):Prop where
 r0:Boxed X W.heap.size 44 (.slice none 0 0)
 r1:Boxed X (W.heap.size+1) 4 (.bool false)
 below:Below W.heap.size W X
 bad:∃ j∈pre,okB (-(L.getD j o0).2)=false
theorem z9n {X X':World} {row:Option Nat} {B:Nat} {t:TypeId} {v:Value} (h:Boxed X B t v) (hr:∀ r,row=some r→∃ o:Obj,X.heap[r]?=some o∧o.isCells=false):some B≠row:=fun e=>by
 obtain⟨o,ho,hc⟩:=hr B e.symm
 rw [show X.heap[B]?=_ from h] at ho
 cases ho
 cases hc
theorem row_stays {X X':World} {row:Option Nat} {base:Nat} {e:TypeId} {size:Nat} {v:Value} {k:Nat} {xs:List Value} (h:X.ownsRow base e size v k xs) (hg:X.grownBy X' row) (hr:∀ r,row=some r→∃ o:Obj,X.heap[r]?=some o∧o.isCells=false):X'.ownsRow base e size v k xs:=by
 refine h.kept hg ?_
 rcases h.2 with ⟨rfl,_⟩ | ⟨g,cap,cur,rfl,_,hgb,_⟩
 · exact .inl rfl
 · refine .inr fun e'=>?_
   obtain⟨o,ho,hc⟩:=hr g e'.symm
   rw [hgb] at ho
   cases ho
   cases hc
theorem NegI.stays {W X X':World} {p:Option Addr} {n c:Nat} {L:List O} {pre:List Nat} {row:Option Nat} (h:NegI W p n c L pre X) (hg:X.grownBy X' row) (hr:∀ r,row=some r→W.heap.size≤r∧∃ o:Obj,X.heap[r]?=some o∧o.isCells=false):NegI W p n c L pre X':=by
 have hr2:=fun r e=>(hr r e).2
 obtain⟨v,h1,h2⟩:=h.row
 exact⟨h.r0.kept hg (z9n (X':=X') h.r0 hr2),h.r1.kept hg (z9n (X':=X') h.r1 hr2),⟨v,h1.kept hg (z9n (X':=X') h1 hr2),row_stays h2 hg hr2⟩,h.r3.kept hg (z9n (X':=X') h.r3 hr2),h.below.grown hg h.below.size (fun k e=>(hr k e).1),h.ok⟩
theorem NegX.stays {W X X':World} {L:List O} {pre:List Nat} {row:Option Nat} (h:NegX W L pre X) (hg:X.grownBy X' row) (hr:∀ r,row=some r→W.heap.size≤r∧∃ o:Obj,X.heap[r]?=some o∧o.isCells=false):NegX W L pre X':=by
 have hr2:=fun r e=>(hr r e).2
 exact⟨h.r0.kept hg (z9n (X':=X') h.r0 hr2),h.r1.kept hg (z9n (X':=X') h.r1 hr2),h.below.grown hg h.below.size (fun k e=>(hr k e).1),h.bad⟩
set_option maxRecDepth 100000 in
theorem neg_o (p:Option Addr) (n c:Nat) (L:List O) (W:World) (hL:OL W p n c L) (hok:∀ o∈L,Ook o) (hn:n≤100000) :
 Calls Tryz.prog 123 #[.slice p n c] W (q1k W (negV L) (negB L)):=by
 obtain⟨i0,hi,hz0,hz1,hz2⟩:=info_parts q0e
 have HLN:=hid hL.len
 have HOK:Hid (∀ j,In64 (L.getD j o0).2):=hid fun j=>by
  by_cases hj:j<L.length
  · exact (ok_at hok hj).2
  · rw [List.getD,List.getElem?_eq_none (by omega)];exact⟨by decide,by decide⟩
 obtain⟨W3,hW3⟩:∃ W3,((W.alloc (.cells #[.slice none 0 0] 44)).alloc (.cells #[.bool false] 4)).alloc (.cells #[.slice none 0 0] 44)=W3:=⟨_,rfl⟩
 have hs3:W3.heap.size=W.heap.size+3:=by rw [← hW3];simp
 have hb3:Below W.heap.size W W3:=by rw [← hW3];exact (((Below.refl _ _).alloc (Nat.le_refl _) _).alloc (by simp) _).alloc (by simp;omega) _
 have b0:Boxed W3 W.heap.size 44 (.slice none 0 0):=by
  rw [← hW3];exact ((Boxed.new W _ _).alloc _).alloc _
 have b1:Boxed W3 (W.heap.size+1) 4 (.bool false):=by
  rw [← hW3]
  have:=Boxed.new (W.alloc (.cells #[.slice none 0 0] 44)) 4 (.bool false)
  rw [World.size_alloc] at this
  exact this.alloc _
 have b2:Boxed W3 (W.heap.size+1+1) 44 (.slice none 0 0):=by
  rw [← hW3]
  have:=Boxed.new ((W.alloc (.cells #[.slice none 0 0] 44)).alloc (.cells #[.bool false] 4)) 44 (.slice none 0 0)
  simpa using this
 obtain⟨W4,hW4⟩:∃ W4,W3.alloc (.cells #[.slice p n c] 44)=W4:=⟨_,rfl⟩
 have hs4:W4.heap.size=W.heap.size+4:=by rw [← hW4];simp;omega
 have hb4:Below W.heap.size W W4:=by rw [← hW4];exact hb3.alloc (by omega) _
 have b3:Boxed W4 (W.heap.size+3) 44 (.slice p n c):=by
  rw [← hW4,← hs3];exact Boxed.new W3 _ _
 have c0:Boxed W4 W.heap.size 44 (.slice none 0 0):=by rw [← hW4];exact b0.alloc _
 have c1:Boxed W4 (W.heap.size+1) 4 (.bool false):=by rw [← hW4];exact b1.alloc _
 have c2:Boxed W4 (W.heap.size+1+1) 44 (.slice none 0 0):=by rw [← hW4];exact b2.alloc _
 have hst:=back_stops (W.heap.size+3) p n c L W4 b3 (hL.later hb4) hn
 have HPB:Hid (∀ a,p=some a→0<n→a.block<W.heap.size):=hid fun a ha h0=>by
  obtain⟨b,off,hp,hlt,_⟩:=hL.cell h0
  rw [hp] at ha
  cases ha
  exact hlt
 have HB4:=hid hb4
 have HS4:=hid hs4
 have HC0:=hid c0
 have HC1:=hid c1
 have HC2:=hid c2
 have HC3:=hid b3
 have HST:=hid hst
 have HW4:=hid hW4
 have HS3:=hid hs3
 clear hL hok hb3 b0 b1 b2 b3 c0 c1 c2 hst hb4 hs4 hW4 hs3
 have eg:∀ args w,(callFunc 153 args).run Tryz.prog w=.ok (.enter 153 args) w:=enters_of Tryz.func153 (by kernel_rfl) rfl
 refine callsIn_wide (n:=6).1 ?_
 refine callsIn_of_wp_marks Tryz.func123 rfl trivial ?_ rfl
 simp only [Tryz.ntmps123,List.size_toArray,List.length_cons,List.length_nil,Nat.reduceAdd,Nat.reduceSub,Array.replicate_succ,Array.replicate_zero,List.push_toArray,List.append_toArray,List.nil_append,List.cons_append]
 gi_wp2
 refine⟨trivial,(callsIn_wide.2 (backward_any p n c W3)).mono ?_⟩
 rintro e w' ⟨rfl,rfl⟩
 rw [HW4.out,HS3.out]
 gi_wp2
 refine wpIn_rangeFunc_ownH (n:=6) (encs:=fun j:Nat=>#[.int .i64 (j:Nat),encO (L.getD j o0)]) (ps:=#[11,12]) rfl (by decide) (gf:=153) (lb:=#[.pointer (some ⟨W.heap.size+3,0,none⟩)]) rfl trivial eg HST.out kpS_t kpS_b (Below.refl _ _) (fun _=>rfl)
  (fun pre X=>NegI W p n c L pre X)
  (fun cc pre X=>cc=.ret∧NegX W L pre X)
  (fun s X X' row hs hg hr=>hs.stays hg fun r e=>⟨by have:=(hr r e).1;have:=HS4.out;omega,(hr r e).2⟩)
  (fun cc s X X' row hs hg hr=>⟨hs.1,hs.2.stays hg fun r e=>⟨by have:=(hr r e).1;have:=HS4.out;omega,(hr r e).2⟩⟩)
  ⟨HC0.out,HC1.out,⟨_,HC2.out,World.ownsRow_nil _ _ _ _⟩,HC3.out,HB4.out,fun j hj=>by cases hj⟩
  (fun x a' X=>∃ Bx,W4.heap.size≤Bx∧X.heap[Bx]?=some (.cells #[.int .u8 (L.getD x o0).1.1,.int .u8 (L.getD x o0).1.2.1,.int .u8 (L.getD x o0).1.2.2,.int .i64 (L.getD x o0).2] 105 (0,0))∧a'={ tmps:=#[.slice p n c,undef,.pointer (some ⟨W.heap.size,0,none⟩),.pointer (some ⟨W.heap.size+1,0,none⟩),.pointer (some ⟨W.heap.size+1+1,0,none⟩),undef,.pointer (some ⟨Bx,0,none⟩),undef,undef,.slice p n c,.func (.func 153) #[] #[.pointer (some ⟨W.heap.size+3,0,none⟩)],.int .i64 (x:Nat),encO (L.getD x o0),undef,undef,undef,undef,undef,undef,undef,undef,undef,undef,undef,undef,undef,undef,undef,undef],defers:=[] })
  ?ownA ?assign ?body ?done ?stop
 case ownA =>
  rintro x a' s X X' row ⟨Bx,h1,h2,h3⟩ hg hrow
  refine⟨Bx,h1,(hg.block Bx (z0g h2) ?_).trans h2,h3⟩
  intro e
  obtain⟨_,o,ho,hc⟩:=hrow Bx e.symm
  rw [h2] at ho
  cases ho
  cases hc
 case assign =>
  rintro l pre x X K' hI hK
  gi_wp2
  have hg:=World.grownBy_alloc X (.cells #[.int .u8 (L.getD x o0).1.1,.int .u8 (L.getD x o0).1.2.1,.int .u8 (L.getD x o0).1.2.2,.int .i64 (L.getD x o0).2] 105) none
  have hsz:=hI.r3.lt
  exact hK _ _ ((KeepsOthers.alloc _ _).from _) ⟨by simp,fun k o _ ho _=>(Below.heap_alloc _ _ k (z0g ho)).trans ho⟩ (hI.stays hg (fun r e=>by cases e)) ⟨X.heap.size,by have:=HS4.out;omega,z0c X _,rfl⟩
 case body =>
  rintro l pre x a' X hl ⟨r,hr⟩ hI ⟨Bx,hBx,bX,rfl⟩ hlt
  have hx:=HOK.out x
  have hn0:0<n:=by omega
  have x0:=z0a (j:=0) bX rfl
  have x1:=z0a (j:=1) bX rfl
  have x2:=z0a (j:=2) bX rfl
  have x3:=z0a (j:=3) bX rfl
  generalize hxx:L.getD x o0=o at *
  have HX:=hid hxx
  have hi0:-9223372036854775808≤o.2:=hx.1
  have hi1:o.2≤9223372036854775807:=hx.2
  have hcall:=fun w=>neg_any o.2 w hi0 hi1
  have HI:=hid hI
  clear hxx hx hI bX
  by_cases hin:In64 (-o.2)
  · rw [z6t _ hin,q2j _ hin] at hcall
    have HIN:=hid hin
    clear hin
    obtain⟨v,hv,hrow⟩:=HI.out.row
    have hc:=hv.cell
    have hsz:=HI.out.below.size
    gi_wp2
    refine⟨trivial,(CallsIn.inRound l (callsIn_wide.2 (hcall _))).mono ?_⟩
    rintro e w' ⟨rfl,rfl⟩
    clear hcall
    gi_wp2_with (gi_at_builtin;refine wpListIn_append_own _ rfl _ _ 44 rfl W.heap.size 105 i0 (.agg #[.int .u8 0,.int .u8 0,.int .u8 0,.int .i64 0]) 4 16 Tryz.underlying44 hi hz0 hz1 hz2 rfl (by decide) _ _ _ rfl (hrow.alloc _) ⟨X.heap.size,0,none⟩ 1 1 (oc (negO o)) rfl rfl (fun j u hu=>by rw [Go.WideShapes.add_plain,Nat.zero_add];exact op_news X (negO o) j u hu) (q1q (negO o)) (by unfold maxLen;omega) (by omega) (by simp;omega) ?_;intro v' w1 hown' hgrow _;obtain⟨g',cap',rfl⟩:=ownsRow_succ hown';obtain⟨hv1,hv2,hr2,hk2,hb2⟩:=hv.appended (by decide) hrow hsz (by omega) hown' hgrow;have hc1:=hv1.cell;have hf1:=hv1.frozen)
    have hlen:(pre ++ [x]).length=pre.length+1:=by simp
    have hrows:z0n oc (q1z L (pre ++ [x]))=z0n oc (q1z L pre)++oc (negO o):=by
     unfold q1z
     rw [List.map_append,z1d,List.map_singleton,HX.out,z3p]
    have n0:=HI.out.r0.not_row (by decide) hrow
    have n1:=HI.out.r1.not_row (by decide) hrow
    have n3:=HI.out.r3.not_row (by decide) hrow
    refine⟨hk2.from _,⟨hk2.size,fun k ob hk ho hcell=>?_⟩,⟨((HI.out.r0.alloc _).kept hgrow n0).other (by omega) _,((HI.out.r1.alloc _).kept hgrow n1).other (by omega) _,⟨_,hv2,by rw [hrows,hlen];exact hr2⟩,((HI.out.r3.alloc _).kept hgrow n3).other (by omega) _,HI.out.below.trans (hb2.mono (Nat.le_refl _)),fun j hj=>?_⟩⟩
    · have hne:k≠W.heap.size+1+1∧some k≠v.ownBlock:=by
       rcases hk with rfl | ⟨a,ha,rfl⟩
       · exact⟨by omega,n3⟩
       · have h1:=HPB.out a ha hn0
         exact⟨by omega,fun e=>by have:=(hrow.lt _ e.symm).1;omega⟩
      exact (Below.heap_setCell _ _ _ _ hne.1).trans ((hgrow.block k (by have:=z0g ho;simp;omega) hne.2).trans ((Below.heap_alloc _ _ k (z0g ho)).trans ho))
    · rcases List.mem_append.1 hj with hj | hj
      · exact HI.out.ok j hj
      · obtain rfl:j=x:=by simpa using hj
        rw [HX.out]
        exact q2j _ HIN.out
  · rw [val_out _ hin,q1f _ hin] at hcall
    have HIN:=hid (q1f _ hin)
    clear hin
    have hc0:=HI.out.r0.cell
    have hf0:=HI.out.r0.frozen
    have h1s:Boxed (X.setCell ⟨W.heap.size,0,none⟩ (.slice none 0 0)) (W.heap.size+1) 4 (.bool false):=HI.out.r1.other (by omega) _
    have hc1:=h1s.cell
    have hf1:=h1s.frozen
    gi_wp2
    refine⟨trivial,(CallsIn.inRound l (callsIn_wide.2 (hcall _))).mono ?_⟩
    rintro e w' ⟨rfl,rfl⟩
    clear hcall
    gi_wp2
    exact⟨((KeepsOthers.setCell _ _ _).trans (KeepsOthers.setCell _ _ _)).from _,rfl,⟨(HI.out.r0.set _).other (by omega) _,h1s.set _,(HI.out.below.setCell (p:=⟨W.heap.size,0,none⟩) (Nat.le_refl _) _).setCell (p:=⟨W.heap.size+1,0,none⟩) (Nat.le_succ _) _,x,by simp,by rw [HX.out];exact HIN.out⟩⟩
 case done =>
  rintro D ys X hD rfl hI hK
  obtain⟨v,hv,hrow⟩:=hI.row
  have hall:=negAt_all L n HLN.out
  have HNB:Hid (negB L=true):=hid (negB_true L fun j hj=>hI.ok j ((dn_mem _ _ _).2 ⟨Nat.zero_le _,by rw [← HLN.out];exact hj⟩))
  have hlen:(dn n 0).length=(negF L).length:=by rw [dn_len,← gathN_end,gathN_len,HLN.out]
  rw [hall,hlen] at hrow
  obtain⟨pv,cv,rfl,hs,hp⟩:=SlG.of_own (d:=o0) z5l (by decide) hrow
  have hcv:=hv.cell
  have hc0:=hI.r0.cell
  have hf0:=hI.r0.frozen
  have h1s:Boxed (X.setCell ⟨W.heap.size,0,none⟩ (.slice pv (negF L).length cv)) (W.heap.size+1) 4 (.bool false):=hI.r1.other (by omega) _
  have hc1:=h1s.cell
  have hf1:=h1s.frozen
  have n0:=hI.r0.not_row (by decide) hrow
  have n1:=hI.r1.not_row (by decide) hrow
  have HI:=hid hI
  have HROW:=hid hrow
  have HD:=hid hD
  clear hI hall hlen hs hp
  generalize hm:(negF L).length=m at *
  have HM:=hid hm
  clear hm
  gi_wp2
  have hK':=((KeepsOthers.setCell X ⟨W.heap.size,0,none⟩ (.slice pv m cv)).trans (KeepsOthers.setCell _ ⟨W.heap.size+1,0,none⟩ (.bool true))).same D _ hK rfl
  refine⟨by simp,.inl ⟨_,_,rfl,run_takeDeferred hK',?_⟩⟩
  have hk5:=cell_kept ((HI.out.r0.set (.slice pv m cv)).other (B':=W.heap.size+1) (by omega) (.bool true)).cell (grownBy_putObj' _ D (.deferred none)) (fun r e=>by cases e;exact⟨_,hK',rfl⟩)
  have hb5:=cell_kept (h1s.set (.bool true)).cell (grownBy_putObj' _ D (.deferred none)) (fun r e=>by cases e;exact⟨_,hK',rfl⟩)
  have hr5:=ownsRow_putObj ((HROW.out.kept (grownBy_setCell' X W.heap.size (.slice pv m cv)) (.inr n0.symm)).kept (grownBy_setCell' _ (W.heap.size+1) (.bool true)) (.inr n1.symm)) (.deferred none) hK' rfl
  refine⟨.tuple #[.slice pv m cv,.bool true],?_,?_⟩
  · simp [results,Tryz.f123,go_sem,hk5,hb5]
  · rw [HNB.out,negV_true HNB.out]
    refine FillG.givesB (N:=m) ⟨by rw [HM.out];exact hr5,((HI.out.below.setCell (p:=⟨W.heap.size,0,none⟩) (Nat.le_refl _) _).setCell (p:=⟨W.heap.size+1,0,none⟩) (Nat.le_succ _) _).trans (belowK_b (w:=W4) (by have:=HS4.out;omega) _ D _ _ HD.out hK' rfl rfl),by rw [HM.out];exact Nat.le_refl _⟩
 case stop =>
  rintro D cc pre X hD ⟨t,rfl⟩ ⟨rfl,hX⟩ hK
  obtain⟨j,hj,hbad⟩:=hX.bad
  have HNB:Hid (negB L=false):=hid (negB_false L j (by rw [HLN.out];exact ((dn_mem _ _ _).1 hj).2) hbad)
  have hc0:=hX.r0.cell
  have hc1:=hX.r1.cell
  have hb:=hX.below
  have HX:=hid hX
  clear hX
  gi_wp2
  refine⟨by simp,.inl ⟨_,_,rfl,run_takeDeferred hK,?_⟩⟩
  have hk5:=cell_kept hc0 (grownBy_putObj' _ D (.deferred none)) (fun r e=>by cases e;exact⟨_,hK,rfl⟩)
  have hb5:=cell_kept hc1 (grownBy_putObj' _ D (.deferred none)) (fun r e=>by cases e;exact⟨_,hK,rfl⟩)
  refine⟨.tuple #[.slice none 0 0,.bool false],?_,?_⟩
  · simp [results,Tryz.f123,go_sem,hk5,hb5]
  · rw [HNB.out,negV_false HNB.out]
    exact givesOB_none (hb.trans (belowK_b (w:=W4) (by have:=HS4.out;omega) _ D _ _ hD hK rfl rfl))
end
end Go.Proofs.YtclbkfpbdidaiaaGreatDoor
