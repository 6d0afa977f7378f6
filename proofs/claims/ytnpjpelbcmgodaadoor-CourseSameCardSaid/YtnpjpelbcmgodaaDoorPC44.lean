import Derived.Test.YtnpjpelbcmgodaaDoorPC34
import Derived.Test.YtnpjpelbcmgodaaDoorPC43
namespace Go.Proofs.YtnpjpelbcmgodaaDoor
open Go.Lib (hid)
set_option maxHeartbeats 16000000
open Go.RowKit Go.ChangeShapes Go.WideShapes
set_option linter.unusedVariables false
set_option linter.unusedSimpArgs false
set_option maxRecDepth 10000
abbrev cwP:Pg:=⟨3,1,0,[],[(1,0,0,2)],[],0,0,0,0⟩
abbrev cwC:Crs:=⟨4,cwP,false,0,0,0⟩
theorem cw_0:z2z ⟨1,4,0,0,false,(0,0,0),0,0,cwP⟩=(cwC,0):=by
 unfold z2z
 rw [if_pos ⟨rfl,by kernel_rfl⟩]
theorem cw_1:z6m ⟨4,cwP,false,0,2,0⟩ tc0 2 9=recK 2 4 9 0 false (0,0,0) 0 0:=by kernel_rfl
theorem cw_2:z6m ⟨4,cwP,false,0,3,0⟩ tc0 2 9=recK 8 4 0 0 false (0,0,0) 0 0:=by kernel_rfl
theorem cw_3:appX ⟨4,cwP,false,0,3,0⟩ (recK 8 4 0 0 false (0,0,0) 0 0)=(⟨4,cwP,true,0,3,0⟩,0):=by kernel_rfl
theorem cw_4:z6m ⟨4,cwP,true,0,3,0⟩ tc0 2 9=recK 9 4 0 0 false (0,0,0) 0 2:=by kernel_rfl
theorem cw_pok:Pgok cwP:=⟨by decide,by decide,by decide,(fun x hx=>by cases hx),(fun x hx=>by
 obtain rfl:=List.mem_singleton.1 hx
 exact⟨by decide,by decide,by decide,by unfold In64;decide⟩),(fun x hx=>by cases hx),by decide,by decide,by decide,by unfold In64;decide⟩
theorem z8u (b:Bool) (r:Int) (h:0≤r∧r≤3):Crok ⟨4,cwP,b,0,r,0⟩:=⟨by simp only;omega,cw_pok,by unfold In64;simp only;omega,by unfold In64;simp only;omega,by simp only;omega⟩
theorem cw_xok:Rxok ⟨1,4,0,0,false,(0,0,0),0,0,cwP⟩:=⟨by decide,by decide,by decide,by decide,⟨by decide,by decide,by decide⟩,by unfold In64;decide,by decide,cw_pok⟩
theorem z5t (w:World) (c:Cv):CB ((w.alloc (.cells #[.int .u32 0,.int .u8 0,.int .u32 0,.int .u8 0,.slice none 0 0,.slice none 0 0,.slice none 0 0,.int .u8 0,.int .u8 0,.int .u8 0,.int .i64 0,.bool false,.int .i64 0,.int .i64 0,.int .u32 0] 28)).setRow w.heap.size (ccs c)) w.heap.size c∧Below w.heap.size w ((w.alloc (.cells #[.int .u32 0,.int .u8 0,.int .u32 0,.int .u8 0,.slice none 0 0,.slice none 0 0,.slice none 0 0,.int .u8 0,.int .u8 0,.int .u8 0,.int .i64 0,.bool false,.int .i64 0,.int .i64 0,.int .u32 0] 28)).setRow w.heap.size (ccs c)) :=
 ⟨(CB.new w cz).set c,below_setRow ((Below.refl _ _).alloc (Nat.le_refl _) _) (Nat.le_refl _) _⟩
theorem z7u (w:World) (r:Rv):RB ((w.alloc (.cells #[.int .u8 0,.int .u32 0,.int .u32 0,.int .u8 0,.bool false,.int .u8 0,.int .u8 0,.int .u8 0,.int .i64 0,.int .u8 0,.int .u8 0,.int .u32 0,.int .u8 0,.slice none 0 0,.slice none 0 0,.slice none 0 0,.int .u8 0,.int .u8 0,.int .u8 0,.int .i64 0] 32)).setRow w.heap.size (rcs r)) w.heap.size r∧Below w.heap.size w ((w.alloc (.cells #[.int .u8 0,.int .u32 0,.int .u32 0,.int .u8 0,.bool false,.int .u8 0,.int .u8 0,.int .u8 0,.int .i64 0,.int .u8 0,.int .u8 0,.int .u32 0,.int .u8 0,.slice none 0 0,.slice none 0 0,.slice none 0 0,.int .u8 0,.int .u8 0,.int .u8 0,.int .i64 0] 32)).setRow w.heap.size (rcs r)) :=
 ⟨(RB.new w rz).set r,below_setRow ((Below.refl _ _).alloc (Nat.le_refl _) _) (Nat.le_refl _) _⟩
theorem cw_keep {w w':World} {c:Cv} {A:Nat} (h:CvM w c [] [(1,0,0,2)] []) (hlt:∀ a,c.p.tp=some a→a.block<A) (hs:w.heap.size≤w'.heap.size) (hb:∀ k,k<w.heap.size→¬ k=A→w'.heap[k]?=w.heap[k]?):CvM w' c [] [(1,0,0,2)] [] :=
 ⟨h.l.turn hs (fun h0 a ha hl=>by have:=h.l.len;simp at this;omega),h.t.turn hs (fun _ a ha hl=>hb _ hl (by have:=hlt a ha;omega)),h.o.turn hs (fun h0 a ha hl=>by have:=h.o.len;simp at this;omega)⟩
theorem z7h {w:World} {c:Cv} {T:List Tk} {L M:List Ln} (h:CvM w c L T M) (h1:L.length≤400) (h2:T.length≤400) (h3:M.length≤400):c.p.ln≤400∧c.p.tn≤400∧c.p.wn≤400:=by
 have:=h.l.len
 have:=h.t.len
 have:=h.o.len
 omega
theorem cx_lists {c:Cv} {L:List Ln} {T:List Tk} {M:List Ln} {sg st tr tx:Int} {b:Bool} (h:c.x L T M=⟨sg,cwP,b,st,tr,tx⟩):L=[]∧T=[(1,0,0,2)]∧M=[]:=by
 have hp:c.p.pg L T M=cwP:=congrArg Crs.P h
 exact⟨congrArg Pg.lines hp,congrArg Pg.takes hp,congrArg Pg.owes hp⟩
set_option maxRecDepth 100000 in
theorem z4n (W:World) (hw:Words W):Calls Tryd.prog 8 #[] W fun e w'=>e=.returned (.bool true)∧Below W.heap.size W w':=by
 have HW:=hid fun w' (hb:Below W.heap.size W w')=>hw.later hb
 obtain⟨G,hG⟩:∃ G,W.heap.size=G:=⟨_,rfl⟩
 have HG:=hid hG
 obtain⟨W1,hW1,hb1⟩:∃ W1,W.alloc (.cells #[.int .u32 1,.int .u8 0,.int .u8 0,.int .i64 2] 60)=W1∧Below W.heap.size W W1:=⟨_,rfl,(Below.refl _ _).alloc (Nat.le_refl _) _⟩
 have hblk:=z0d W (.cells #[.int .u32 1,.int .u8 0,.int .u8 0,.int .i64 2] 60)
 rw [hW1] at hblk
 have hT:TKL W1 (some ⟨W.heap.size,0,none⟩) 1 1 [(1,0,0,2)]:=by
  refine⟨rfl,Nat.le_refl _,by decide,(fun h=>by cases h),fun _=>⟨_,_,rfl,z0z hblk,fun j hj i v hv=>?_⟩⟩
  obtain rfl:j=0:=by omega
  show W1.cell? ⟨W.heap.size,0+0*4+i,none⟩=some v
  simp only [Nat.zero_mul,Nat.zero_add]
  exact z0a hblk (by simpa [tkc,tk0] using hv)
 rw [hG] at hT
 obtain⟨r0,hr0⟩:∃ r0:Rv,r0=⟨1,4,0,0,false,0,0,0,0,0,3,1,0,none,0,0,some ⟨G,0,none⟩,1,1,none,0,0,0,0,0,0⟩:=⟨_,rfl⟩
 have hx0:r0.x [] [(1,0,0,2)] []=⟨1,4,0,0,false,(0,0,0),0,0,cwP⟩:=by rw [hr0];rfl
 have hS:=cr_start r0 [] [(1,0,0,2)] [] W1 (hw.later hb1) (by rw [hr0];exact⟨SlG.empty _,hT,SlG.empty _⟩) (by rw [hx0];exact cw_xok) (by rw [hr0];exact⟨by simp only;omega,by simp only;omega,by simp only;omega⟩)
 rw [hx0,cw_0] at hS
 have HS:Hid (Calls Tryd.prog 11 #[.agg #[.int .u8 1,.int .u32 4,.int .u32 0,.int .u8 0,.bool false,.int .u8 0,.int .u8 0,.int .u8 0,.int .i64 0,.int .u8 0,.int .u8 3,.int .u32 1,.int .u8 0,.slice none 0 0,.slice (some ⟨G,0,none⟩) 1 1,.slice none 0 0,.int .u8 0,.int .u8 0,.int .u8 0,.int .i64 0]] W1 (z6l W1 cwC 0)):=hid (by rw [hr0] at hS;exact hS)
 have HB1:=hid hb1
 have HW1:=hid hW1
 clear hw hW1 hb1 hblk hT hr0 hS hx0 hG
 go_enter Tryd.func8,Tryd.ntmps8
 go_wp2_with fail
 rw [HW1.out,HG.out]
 refine HS.out.mono ?_
 rintro e w2 ⟨c,L,T,M,rfl,hm2,hx2,h2⟩
 obtain⟨rfl,rfl,rfl⟩:=cx_lists hx2
 have HLT0:Hid (∀ a,c.p.tp=some a→a.block<w2.heap.size):=hid (fun a ha=>by
  have h1:=hm2.t.len
  obtain⟨b,off,hp,hb,_⟩:=hm2.t.cell (by rw [← h1];decide)
  rw [hp] at ha
  cases ha
  exact hb)
 have HM2:=hid hm2
 have HX2:=hid hx2
 have HB2:=hid (HB1.out.trans (h2.mono HB1.out.size))
 clear hm2 hx2 h2 HS
 obtain⟨hc3,hb3⟩:=z5t w2 c
 obtain⟨w3,hw3⟩:∃ w3,(w2.alloc (.cells #[.int .u32 0,.int .u8 0,.int .u32 0,.int .u8 0,.slice none 0 0,.slice none 0 0,.slice none 0 0,.int .u8 0,.int .u8 0,.int .u8 0,.int .i64 0,.bool false,.int .i64 0,.int .i64 0,.int .u32 0] 28)).setRow w2.heap.size (ccs c)=w3:=⟨_,rfl⟩
 obtain⟨A,hA⟩:∃ A,w2.heap.size=A:=⟨_,rfl⟩
 have hz2:CB (w2.alloc (.cells #[.int .u32 0,.int .u8 0,.int .u32 0,.int .u8 0,.slice none 0 0,.slice none 0 0,.slice none 0 0,.int .u8 0,.int .u8 0,.int .u8 0,.int .i64 0,.bool false,.int .i64 0,.int .i64 0,.int .u32 0] 28)) w2.heap.size cz:=CB.new w2 cz
 rw [hw3] at hc3 hb3
 have HZ2:=hid hz2
 have HW3:=hid hw3
 have HAA:=hid hA
 rw [hA] at hc3
 have HC3:=hid hc3
 have HM3:=hid (HM2.out.later hb3)
 have HB3:=hid (HB2.out.trans (hb3.mono HB2.out.size))
 have HAW:Hid (W.heap.size≤A):=hid (by rw [← hA];exact HB2.out.size)
 rw [hA] at HLT0
 clear hc3 hb3 hw3 hA hz2 HM2
 go_upto_region 2 with ((with_reducible refine z0j c HZ2.out ?_ ?_ ?_);rfl;rfl)
 rw [HW3.out,HAA.out]
 clear HZ2 HW3 HAA HB2
 have HLT:Hid (∀ a,c.p.tp=some a→a.block<A):=hid (fun a ha=>HLT0.out a ha)
 have f13:=HC3.out.free 13
 have a13:=HC3.out.at.2.2.2.1
 have HC4:Hid (CB (w3.setCell ⟨A,13,none⟩ (.int .i64 2)) A { c with tr:=2 }):=hid (HC3.out.put 13 _ _ rfl)
 have hch:Chg (fun k=>k=A) w3 (w3.setCell ⟨A,13,none⟩ (.int .i64 2)):=(Chg.refl _ _).setCell _ _ fun _=>rfl
 have HM4:Hid (CvM (w3.setCell ⟨A,13,none⟩ (.int .i64 2)) { c with tr:=2 } [] [(1,0,0,2)] []):=hid (cw_keep (c:={ c with tr:=2 }) HM3.out HLT.out hch.size hch.block)
 have HB4:Hid (Below W.heap.size W (w3.setCell ⟨A,13,none⟩ (.int .i64 2))):=hid (Chg.below HB3.out HB3.out.size hch fun k hk=>by rw [hk];exact HAW.out)
 clear hch
 go_upto_region 3 with (fail)
 clear f13 a13 HC3 HM3 HB3
 generalize w3.setCell ⟨A,13,none⟩ (.int .i64 2)=w4 at *
 have hx4:({ c with tr:=2 }:Cv).x [] [(1,0,0,2)] []=⟨4,cwP,false,0,2,0⟩:=by rw [show ({ c with tr:=2 }:Cv).x [] [(1,0,0,2)] []={ c.x [] [(1,0,0,2)] [] with tr:=2 } from rfl,HX2.out]
 have hn:=z8a { c with tr:=2 } [] [(1,0,0,2)] [] w4 (HW.out _ HB4.out) HM4.out (by rw [hx4];exact z8u _ _ ⟨by omega,by omega⟩) (z7h HM4.out (by simp) (by simp) (by simp)) tv0 2 9 (z8w _) (fun o ho=>by cases ho) (by decide)
 rw [hx4,show tv0.c=tc0 from rfl,cw_1] at hn
 go_wp2_with ((with_reducible refine z0e HC4.out ?_ ?_);rfl)
 refine hn.mono ?_
 rintro e w5 ⟨rfl,h5⟩
 have HC5:=hid (HC4.out.later h5)
 have HM5:=hid (HM4.out.later h5)
 have HB5:=hid (HB4.out.trans (h5.mono HB4.out.size))
 clear h5 hn HB4 HC4 HM4
 obtain⟨hr6,hb6⟩:=z7u w5 (rvK (recK 2 4 9 0 false (0,0,0) 0 0))
 obtain⟨w6,hw6⟩:∃ w6,(w5.alloc (.cells #[.int .u8 0,.int .u32 0,.int .u32 0,.int .u8 0,.bool false,.int .u8 0,.int .u8 0,.int .u8 0,.int .i64 0,.int .u8 0,.int .u8 0,.int .u32 0,.int .u8 0,.slice none 0 0,.slice none 0 0,.slice none 0 0,.int .u8 0,.int .u8 0,.int .u8 0,.int .i64 0] 32)).setRow w5.heap.size (rcs (rvK (recK 2 4 9 0 false (0,0,0) 0 0)))=w6:=⟨_,rfl⟩
 obtain⟨R,hR⟩:∃ R,w5.heap.size=R:=⟨_,rfl⟩
 have hz5:RB (w5.alloc (.cells #[.int .u8 0,.int .u32 0,.int .u32 0,.int .u8 0,.bool false,.int .u8 0,.int .u8 0,.int .u8 0,.int .i64 0,.int .u8 0,.int .u8 0,.int .u32 0,.int .u8 0,.slice none 0 0,.slice none 0 0,.slice none 0 0,.int .u8 0,.int .u8 0,.int .u8 0,.int .i64 0] 32)) w5.heap.size rz:=RB.new w5 rz
 rw [hw6] at hr6 hb6
 rw [hR] at hr6
 have HZ5:=hid hz5
 have HW6:=hid hw6
 have HRR:=hid hR
 have HR6:=hid hr6
 have HC6:=hid (HC5.out.later hb6)
 have HM6:=hid (HM5.out.later hb6)
 have HB6:=hid (HB5.out.trans (hb6.mono HB5.out.size))
 have HNR:Hid (A<R):=hid (by rw [← hR];exact HC5.out.lt)
 clear hr6 hb6 hw6 hR hz5 HB5 HC5 HM5
 go_upto_region 4 with ((with_reducible refine z0k (rvK (recK 2 4 9 0 false (0,0,0) 0 0)) HZ5.out ?_ ?_ ?_);rfl;rfl)
 rw [HW6.out,HRR.out]
 clear HZ5 HW6 HRR
 clear hx4
 have f13:=HC6.out.free 13
 have a13:=HC6.out.at.2.2.2.1
 have HC7:Hid (CB (w6.setCell ⟨A,13,none⟩ (.int .i64 3)) A { c with tr:=3 }):=hid (HC6.out.put 13 _ _ rfl)
 have hch:Chg (fun k=>k=A) w6 (w6.setCell ⟨A,13,none⟩ (.int .i64 3)):=(Chg.refl _ _).setCell _ _ fun _=>rfl
 have HM7:Hid (CvM (w6.setCell ⟨A,13,none⟩ (.int .i64 3)) { c with tr:=3 } [] [(1,0,0,2)] []):=hid (cw_keep (c:={ c with tr:=3 }) HM6.out HLT.out hch.size hch.block)
 have HB7:Hid (Below W.heap.size W (w6.setCell ⟨A,13,none⟩ (.int .i64 3))):=hid (Chg.below HB6.out HB6.out.size hch fun k hk=>by rw [hk];exact HAW.out)
 have HR7:=hid (HR6.out.chg hch (by have:=HNR.out;omega))
 clear hch
 go_upto_region 5 with (fail)
 clear f13 a13 HC6 HM6 HB6 HR6
 generalize w6.setCell ⟨A,13,none⟩ (.int .i64 3)=w7 at *
 have hx7:({ c with tr:=3 }:Cv).x [] [(1,0,0,2)] []=⟨4,cwP,false,0,3,0⟩:=by rw [show ({ c with tr:=3 }:Cv).x [] [(1,0,0,2)] []={ c.x [] [(1,0,0,2)] [] with tr:=3 } from rfl,HX2.out]
 have hn:=z8a { c with tr:=3 } [] [(1,0,0,2)] [] w7 (HW.out _ HB7.out) HM7.out (by rw [hx7];exact z8u _ _ ⟨by omega,by omega⟩) (z7h HM7.out (by simp) (by simp) (by simp)) tv0 2 9 (z8w _) (fun o ho=>by cases ho) (by decide)
 rw [hx7,show tv0.c=tc0 from rfl,cw_2] at hn
 go_wp2_with ((with_reducible refine z0e HC7.out ?_ ?_);rfl)
 refine hn.mono ?_
 rintro e w8 ⟨rfl,h8⟩
 have HC8:=hid (HC7.out.later h8)
 have HM8:=hid (HM7.out.later h8)
 have HR8:=hid (HR7.out.later h8)
 have HB8:=hid (HB7.out.trans (h8.mono HB7.out.size))
 clear h8 hn HB7 HC7 HM7 HR7
 obtain⟨hr9,hb9⟩:=z7u w8 (rvK (recK 8 4 0 0 false (0,0,0) 0 0))
 obtain⟨w9,hw9⟩:∃ w9,(w8.alloc (.cells #[.int .u8 0,.int .u32 0,.int .u32 0,.int .u8 0,.bool false,.int .u8 0,.int .u8 0,.int .u8 0,.int .i64 0,.int .u8 0,.int .u8 0,.int .u32 0,.int .u8 0,.slice none 0 0,.slice none 0 0,.slice none 0 0,.int .u8 0,.int .u8 0,.int .u8 0,.int .i64 0] 32)).setRow w8.heap.size (rcs (rvK (recK 8 4 0 0 false (0,0,0) 0 0)))=w9:=⟨_,rfl⟩
 obtain⟨S,hS⟩:∃ S,w8.heap.size=S:=⟨_,rfl⟩
 have hz8:RB (w8.alloc (.cells #[.int .u8 0,.int .u32 0,.int .u32 0,.int .u8 0,.bool false,.int .u8 0,.int .u8 0,.int .u8 0,.int .i64 0,.int .u8 0,.int .u8 0,.int .u32 0,.int .u8 0,.slice none 0 0,.slice none 0 0,.slice none 0 0,.int .u8 0,.int .u8 0,.int .u8 0,.int .i64 0] 32)) w8.heap.size rz:=RB.new w8 rz
 rw [hw9] at hr9 hb9
 rw [hS] at hr9
 have HZ8:=hid hz8
 have HW9:=hid hw9
 have HSS:=hid hS
 have HS9:=hid hr9
 have HC9:=hid (HC8.out.later hb9)
 have HM9:=hid (HM8.out.later hb9)
 have HR9:=hid (HR8.out.later hb9)
 have HB9:=hid (HB8.out.trans (hb9.mono HB8.out.size))
 have HNS:Hid (A<S):=hid (by rw [← hS];exact HC8.out.lt)
 clear hr9 hb9 hw9 hS hz8 HB8 HC8 HM8 HR8
 go_upto_region 6 with ((with_reducible refine z0k (rvK (recK 8 4 0 0 false (0,0,0) 0 0)) HZ8.out ?_ ?_ ?_);rfl;rfl)
 rw [HW9.out,HSS.out]
 clear HZ8 HW9 HSS
 have ha:=cr_apply { c with tr:=3 } [] [(1,0,0,2)] [] w9 (HW.out _ HB9.out) HM9.out (by rw [hx7];exact z8u _ _ ⟨by omega,by omega⟩) (z7h HM9.out (by simp) (by simp) (by simp)) (rvK (recK 8 4 0 0 false (0,0,0) 0 0)) [] [] [] (rvK_m _ _) (by rw [rvK_x rfl];exact⟨by decide,by decide,by decide,by decide,⟨by decide,by decide,by decide⟩,by unfold In64;decide,by decide,⟨by decide,by decide,by decide,(fun x hx=>by cases hx),(fun x hx=>by cases hx),(fun x hx=>by cases hx),by decide,by decide,by decide,by unfold In64;decide⟩⟩) ⟨by decide,by decide,by decide⟩
 rw [hx7,rvK_x rfl,cw_3] at ha
 go_wp2_with (first | ((with_reducible refine z0e HC9.out ?_ ?_);rfl) | ((with_reducible refine z0u HS9.out ?_ ?_);rfl))
 refine ha.mono ?_
 rintro e w10 ⟨d,L,T,M,rfl,hm10,hx10,h10⟩
 obtain⟨rfl,rfl,rfl⟩:=cx_lists hx10
 have HR10:=hid (HR9.out.later h10)
 have HS10:=hid (HS9.out.later h10)
 have HB10:=hid (HB9.out.trans (h10.mono HB9.out.size))
 clear h10 ha HB9 HC9 HM9 HR9 HS9
 obtain⟨hc11,hb11⟩:=z5t w10 d
 obtain⟨w11,hw11⟩:∃ w11,(w10.alloc (.cells #[.int .u32 0,.int .u8 0,.int .u32 0,.int .u8 0,.slice none 0 0,.slice none 0 0,.slice none 0 0,.int .u8 0,.int .u8 0,.int .u8 0,.int .i64 0,.bool false,.int .i64 0,.int .i64 0,.int .u32 0] 28)).setRow w10.heap.size (ccs d)=w11:=⟨_,rfl⟩
 obtain⟨D,hD⟩:∃ D,w10.heap.size=D:=⟨_,rfl⟩
 have hz10:CB (w10.alloc (.cells #[.int .u32 0,.int .u8 0,.int .u32 0,.int .u8 0,.slice none 0 0,.slice none 0 0,.slice none 0 0,.int .u8 0,.int .u8 0,.int .u8 0,.int .i64 0,.bool false,.int .i64 0,.int .i64 0,.int .u32 0] 28)) w10.heap.size cz:=CB.new w10 cz
 rw [hw11] at hc11 hb11
 rw [hD] at hc11
 have HZ10:=hid hz10
 have HW11:=hid hw11
 have HDD:=hid hD
 have HD11:=hid hc11
 have HR11:=hid (HR10.out.later hb11)
 have HS11:=hid (HS10.out.later hb11)
 have HM11:Hid (CvM w11 d [] [(1,0,0,2)] []):=hid (PgM.later hm10 hb11)
 have HB11:=hid (HB10.out.trans (hb11.mono HB10.out.size))
 clear hc11 hb11 hw11 hD hz10 hm10 HB10 HR10 HS10
 go_upto_region 7 with ((with_reducible refine z0j d HZ10.out ?_ ?_ ?_);rfl;rfl)
 rw [HW11.out,HDD.out]
 clear HZ10 HW11 HDD
 have hn:=z8a d [] [(1,0,0,2)] [] w11 (HW.out _ HB11.out) HM11.out (by rw [hx10];exact z8u _ _ ⟨by omega,by omega⟩) (z7h HM11.out (by simp) (by simp) (by simp)) tv0 2 9 (z8w _) (fun o ho=>by cases ho) (by decide)
 rw [hx10,show tv0.c=tc0 from rfl,cw_4] at hn
 go_wp2_with ((with_reducible refine z0e HD11.out ?_ ?_);rfl)
 refine hn.mono ?_
 rintro e w12 ⟨rfl,h12⟩
 have HD12:=hid (HD11.out.later h12)
 have HM12:=hid (HM11.out.later h12)
 have HR12:=hid (HR11.out.later h12)
 have HS12:=hid (HS11.out.later h12)
 have HB12:=hid (HB11.out.trans (h12.mono HB11.out.size))
 clear h12 hn HB11 HD11 HM11 HR11 HS11
 obtain⟨hr13,hb13⟩:=z7u w12 (rvK (recK 9 4 0 0 false (0,0,0) 0 2))
 obtain⟨w13,hw13⟩:∃ w13,(w12.alloc (.cells #[.int .u8 0,.int .u32 0,.int .u32 0,.int .u8 0,.bool false,.int .u8 0,.int .u8 0,.int .u8 0,.int .i64 0,.int .u8 0,.int .u8 0,.int .u32 0,.int .u8 0,.slice none 0 0,.slice none 0 0,.slice none 0 0,.int .u8 0,.int .u8 0,.int .u8 0,.int .i64 0] 32)).setRow w12.heap.size (rcs (rvK (recK 9 4 0 0 false (0,0,0) 0 2)))=w13:=⟨_,rfl⟩
 obtain⟨Q,hQ⟩:∃ Q,w12.heap.size=Q:=⟨_,rfl⟩
 have hz12:RB (w12.alloc (.cells #[.int .u8 0,.int .u32 0,.int .u32 0,.int .u8 0,.bool false,.int .u8 0,.int .u8 0,.int .u8 0,.int .i64 0,.int .u8 0,.int .u8 0,.int .u32 0,.int .u8 0,.slice none 0 0,.slice none 0 0,.slice none 0 0,.int .u8 0,.int .u8 0,.int .u8 0,.int .i64 0] 32)) w12.heap.size rz:=RB.new w12 rz
 rw [hw13] at hr13 hb13
 rw [hQ] at hr13
 have HZ12:=hid hz12
 have HW13:=hid hw13
 have HQQ:=hid hQ
 have HQ13:=hid hr13
 have HD13:=hid (HD12.out.later hb13)
 have HM13:=hid (HM12.out.later hb13)
 have HR13:=hid (HR12.out.later hb13)
 have HS13:=hid (HS12.out.later hb13)
 have HB13:=hid (HB12.out.trans (hb13.mono HB12.out.size))
 clear hr13 hb13 hw13 hQ hz12 HB12 HD12 HM12 HR12 HS12
 go_upto_region 8 with ((with_reducible refine z0k (rvK (recK 9 4 0 0 false (0,0,0) 0 2)) HZ12.out ?_ ?_ ?_);rfl;rfl)
 rw [HW13.out,HQQ.out]
 clear HZ12 HW13 HQQ
 have hdb:d.bk=true:=by
  have:=congrArg Crs.bk hx10
  exact this
 have a0:=HR13.out.at.1
 have a2:=HR13.out.at.2.2.1
 have b0:=HS13.out.at.1
 have d11:=HD13.out.at.2.1
 rw [hdb] at d11
 have q0:=HQ13.out.at.1
 have q9:=z0a (j:=9) HQ13.out (v:=.int .u8 2) rfl
 have a0':w13.cell? ⟨R,0,none⟩=some (.int .u8 2):=a0
 have a2':w13.cell? ⟨R,2,none⟩=some (.int .u32 9):=a2
 have b0':w13.cell? ⟨S,0,none⟩=some (.int .u8 8):=b0
 have q0':w13.cell? ⟨Q,0,none⟩=some (.int .u8 9):=q0
 clear a0 a2 b0 q0 hdb hx10 hx7
 go_wp2_with fail
 go_ret
 exact⟨rfl,HB13.out⟩
theorem z1w {W:World} {K:Act→Prop} {a:Act} {dst:Option Tmp} {x:Operand} {ty:TypeId} {pos:String} {after:Array Edge} {gd:Option (Nat × Bool)} {B:Nat} {c:Cv} (hC:CB W B c) (hx:a.eval x=.pointer (some ⟨B,0,none⟩))
 (hk:K (a.put dst (.agg (ccs c)))):(Oper.mk dst (.load 28 x) ty pos after gd).quiet Tryd.prog a (fun w'=>∃ p:After W,w'=p.w) K:=by
 refine⟨.agg (ccs c),fun w hw=>?_,hk⟩
 obtain⟨p,rfl⟩:=hw
 unfold Oper.quietAt execOp
 simp only [hx,Instr.loadAt,Instr.sureAddr,Sem.run_bind,Sem.run_pure,Result.andThen_ok,run_loadVar_row p.w B 28 28 (ccs c) (0,0) _ (hC.later p.h) Tryd.underlying28 rfl (by kernel_rfl)]
 exact⟨rfl,rfl⟩
theorem law_csame (c c':Cv) (L:List Ln) (T:List Tk) (M:List Ln) (L':List Ln) (T':List Tk) (M':List Ln) (W:World) (hw:Words W) (hP:CvM W c L T M) (hP':CvM W c' L' T' M'):Calls Tryd.prog 5 #[.agg (ccs c),.agg (ccs c')] W fun e w'=>e=.returned (.bool true)∧Below W.heap.size W w':=by
 obtain⟨W1,hW1,hx,hx',hb1⟩:=z7q W c c'
 obtain⟨B,hB⟩:∃ B,W.heap.size=B:=⟨_,rfl⟩
 rw [hB] at hx hx'
 have HRE:=hid hB
 have HX:=hid hx
 have HX':=hid hx'
 have HW1:=hid hW1
 have HB1:=hid hb1
 have HV:=hid fun w' (hb:Below W.heap.size W w')=>hw.later hb
 have HP:=hid fun w' (hb:Below W.heap.size W w')=>PgM.later hP hb
 have HP':=hid fun w' (hb:Below W.heap.size W w')=>PgM.later hP' hb
 have hf1:=z8q c tv0 W1
 have hf2:=fun w=>z8q c' tv0 w
 clear hW1 hx hx' hb1 hB hw hP hP'
 cases q1:fewC c tv0 with
 | false =>
  rw [q1] at hf1
  clear hf2 q1
  go_enter Tryd.func5,Tryd.ntmps5
  go_upto_region 1 with (fail)
  rw [HW1.out,HRE.out]
  go_wp2_with ((with_reducible refine z0e HX.out ?_ ?_);rfl)
  refine hf1.mono ?_
  rintro e w2 ⟨rfl,h2⟩
  have HB2:=hid (HB1.out.trans (h2.mono HB1.out.size))
  have HX2:=hid (HX'.out.later h2)
  have HXa:=hid (HX.out.later h2)
  clear h2 hf1
  go_wp2_with fail
  refine (z4n w2 (HV.out _ HB2.out)).mono ?_
  rintro e w3 ⟨rfl,h3⟩
  have HB3:=hid (HB2.out.trans (h3.mono HB2.out.size))
  clear h3
  go_wp2_with fail
  go_ret
  exact⟨rfl,HB3.out⟩
 | true =>
  rw [q1] at hf1
  have HS1:=hid (z5r q1)
  cases q2:fewC c' tv0 with
  | false =>
   rw [q2] at hf2
   clear q1 q2
   go_enter Tryd.func5,Tryd.ntmps5
   go_upto_region 1 with (fail)
   rw [HW1.out,HRE.out]
   go_wp2_with ((with_reducible refine z0e HX.out ?_ ?_);rfl)
   refine hf1.mono ?_
   rintro e w2 ⟨rfl,h2⟩
   have HB2:=hid (HB1.out.trans (h2.mono HB1.out.size))
   have HX2:=hid (HX'.out.later h2)
   have HXa:=hid (HX.out.later h2)
   clear h2 hf1
   go_wp2_with ((with_reducible refine z3d HX2.out ?_ ?_ ?_);rfl;rfl)
   refine (hf2 w2).mono ?_
   rintro e w3 ⟨rfl,h3⟩
   have HB3:=hid (HB2.out.trans (h3.mono HB2.out.size))
   have HX3:=hid (HX2.out.later h3)
   have HX4:=hid (HXa.out.later h3)
   clear h3 hf2 HX2 HXa
   go_wp2_with fail
   refine (z4n w3 (HV.out _ HB3.out)).mono ?_
   rintro e w4 ⟨rfl,h4⟩
   have HB4:=hid (HB3.out.trans (h4.mono HB3.out.size))
   clear h4
   go_wp2_with fail
   go_ret
   exact⟨rfl,HB4.out⟩
  | true =>
   rw [q2] at hf2
   have HS2:=hid (z5r q2)
   clear q1 q2
   go_enter Tryd.func5,Tryd.ntmps5
   go_upto_region 1 with (fail)
   rw [HW1.out,HRE.out]
   go_wp2_with ((with_reducible refine z0e HX.out ?_ ?_);rfl)
   refine hf1.mono ?_
   rintro e w2 ⟨rfl,h2⟩
   have HB2:=hid (HB1.out.trans (h2.mono HB1.out.size))
   have HX2:=hid (HX'.out.later h2)
   have HXa:=hid (HX.out.later h2)
   clear h2 hf1
   go_wp2_with ((with_reducible refine z3d HX2.out ?_ ?_ ?_);rfl;rfl)
   refine (hf2 w2).mono ?_
   rintro e w3 ⟨rfl,h3⟩
   have HB3:=hid (HB2.out.trans (h3.mono HB2.out.size))
   have HX3:=hid (HX2.out.later h3)
   have HX4:=hid (HXa.out.later h3)
   clear h3 hf2 HX2 HXa
   go_wp2_with fail
   have hz1:c.p.ln≤400∧c.p.tn≤400∧c.p.wn≤400:=by have:=HS1.out;omega
   have hz2:c'.p.ln≤400∧c'.p.tn≤400∧c'.p.wn≤400:=by have:=HS2.out;omega
   have hbp:=fun (p:After w3)=>HB3.out.trans (p.h.mono HB3.out.size)
   have hc1:=fun (p:After w3)=>cr_same c c' L T M L' T' M' p.w (HP.out _ (hbp p)) (HP'.out _ (hbp p)) hz1 hz2
   have hc2:=fun (p:After w3)=>z7j c c' L T M L' T' M' p.w (HP.out _ (hbp p)) (HP'.out _ (hbp p)) hz1 hz2
   have hc3:=fun (p:After w3)=>cr_same c c L T M L T M p.w (HP.out _ (hbp p)) (HP.out _ (hbp p)) hz1 hz1
   rw [decide_eq_true rfl] at hc3
   have hc4:=fun (p:After w3)=>z4n p.w (HV.out _ (hbp p))
   generalize decide (c.x L T M=c'.x L' T' M')=z at *
   have hzz:(z==z)=true:=by simp
   clear hz1 hz2 hbp
   refine z1j (by kernel_rfl) (by kernel_rfl) ?_
   repeat (first | (go_big_quiet_want;(with_reducible refine z1w HX4.out ?_ ?_);rfl;go_simp;go_big_quiet_on) | (go_big_quiet_want;(with_reducible refine z1w HX3.out ?_ ?_);rfl;go_simp;go_big_quiet_on) | go_big_quiet_step (first | (go_at_call 28;first | (with_reducible exact z1d _ (hc1 _)) | (with_reducible exact z1d _ (hc3 _))) | (go_at_call 13;exact z1d _ (hc2 _)) | (go_at_call 8;exact z1d _ (hc4 _))))
   refine wpQuiet_nil ?_
   intro w4 hw'
   obtain⟨⟨wq,h6⟩,hw''⟩:=hw'
   subst hw''
   clear hc1 hc2 hc3 hc4
   go_wp2_with fail
   go_ret
   exact⟨rfl,HB3.out.trans (h6.mono HB3.out.size)⟩
end Go.Proofs.YtnpjpelbcmgodaaDoor
