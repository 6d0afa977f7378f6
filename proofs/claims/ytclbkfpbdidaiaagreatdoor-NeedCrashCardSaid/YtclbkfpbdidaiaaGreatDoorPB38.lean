import Derived.Test.YtclbkfpbdidaiaaGreatDoorPB37
namespace Go.Proofs.YtclbkfpbdidaiaaGreatDoor
open Go.Lib (hid)
set_option maxHeartbeats 8000000
open Go.RowKit Go.ChangeShapes Go.WideShapes
set_option linter.unusedVariables false
set_option linter.unusedSimpArgs false
set_option maxRecDepth 10000
abbrev nwP:Pg:=⟨5,0,0,[],[],[],0,0,0,3⟩
theorem nw_att:attP nwP=83:=by kernel_rfl
theorem nw_start:z4i nwP 0=322:=by kernel_rfl
theorem nw_pass:z8s (5,0,[(0,3)])=50:=by kernel_rfl
theorem nw_fail:z6a (5,0,[(0,3)])=83:=by kernel_rfl
theorem nw_pok:Pgok nwP:=⟨by decide,by decide,by decide,(fun x hx=>by cases hx),(fun x hx=>by cases hx),(fun x hx=>by cases hx),by decide,by decide,by decide,by unfold In64;decide⟩
theorem z5a (W:World) (hw:Words W):Calls Tryz.prog 12 #[] W fun e w'=>e=.returned (.bool true)∧Below W.heap.size W w':=by
 have HW:=hid fun w' (hb:Below W.heap.size W w')=>hw.later hb
 obtain⟨G,hG⟩:∃ G,W.heap.size=G:=⟨_,rfl⟩
 have HG:=hid hG
 obtain⟨W1,hW1,hb1⟩:∃ W1,W.alloc (.cells #[.int .u8 0,.int .i64 3] 76)=W1∧Below W.heap.size W W1:=⟨_,rfl,(Below.refl _ _).alloc (Nat.le_refl _) _⟩
 have hblk:=z0c W (.cells #[.int .u8 0,.int .i64 3] 76)
 rw [hW1,hG] at hblk
 have hs1:W1.heap.size=G+1:=by rw [← hW1,← hG];simp only [World.alloc,Array.size_push]
 have hL:LL W1 (some ⟨G,0,none⟩) 1 1 [(0,3)]:=by
  refine⟨rfl,Nat.le_refl _,by decide,(fun h=>by cases h),fun _=>⟨_,_,rfl,z0i hblk,fun j hj i v hv=>?_⟩⟩
  obtain rfl:j=0:=by omega
  show W1.cell? ⟨G,0+0*2+i,none⟩=some v
  simp only [Nat.zero_mul,Nat.zero_add]
  exact z0a hblk (by simpa [lc,l0] using hv)
 have HW1:=hid hW1
 have hb2:Below W1.heap.size W1 (W1.alloc (.cells #[.int .u8 5,.int .u8 0,.slice (some ⟨G,0,none⟩) 1 1] 52)):=(Below.refl _ _).alloc (Nat.le_refl _) _
 have hs2:(W1.alloc (.cells #[.int .u8 5,.int .u8 0,.slice (some ⟨G,0,none⟩) 1 1] 52)).heap.size=G+1+1:=by rw [← hs1];simp only [World.alloc,Array.size_push]
 have hk2:=z0c W1 (.cells #[.int .u8 5,.int .u8 0,.slice (some ⟨G,0,none⟩) 1 1] 52)
 have hb3:Below (W1.alloc (.cells #[.int .u8 5,.int .u8 0,.slice (some ⟨G,0,none⟩) 1 1] 52)).heap.size (W1.alloc (.cells #[.int .u8 5,.int .u8 0,.slice (some ⟨G,0,none⟩) 1 1] 52)) ((W1.alloc (.cells #[.int .u8 5,.int .u8 0,.slice (some ⟨G,0,none⟩) 1 1] 52)).alloc (.cells #[.int .u8 5,.int .u32 0,.int .u8 0,.slice none 0 0,.slice none 0 0,.slice none 0 0,.int .u8 0,.int .u8 0,.int .u8 0,.int .i64 3] 26)):=(Below.refl _ _).alloc (Nat.le_refl _) _
 have hk3:=z0c (W1.alloc (.cells #[.int .u8 5,.int .u8 0,.slice (some ⟨G,0,none⟩) 1 1] 52)) (.cells #[.int .u8 5,.int .u32 0,.int .u8 0,.slice none 0 0,.slice none 0 0,.slice none 0 0,.int .u8 0,.int .u8 0,.int .u8 0,.int .i64 3] 26)
 rw [hs1] at hk2
 rw [hs2] at hk3
 have hk2':=z0b hk2 hb3
 have hb13:=hb2.trans (hb3.mono hb2.size)
 obtain⟨W3,hW3⟩:∃ W3,(W1.alloc (.cells #[.int .u8 5,.int .u8 0,.slice (some ⟨G,0,none⟩) 1 1] 52)).alloc (.cells #[.int .u8 5,.int .u32 0,.int .u8 0,.slice none 0 0,.slice none 0 0,.slice none 0 0,.int .u8 0,.int .u8 0,.int .u8 0,.int .i64 3] 26)=W3:=⟨_,rfl⟩
 rw [hW3] at hk3 hk2' hb13
 have HW3:=hid hW3
 have HL:=hid (hL.later hb13)
 have HB:=hid (hb1.trans (hb13.mono hb1.size))
 have HK2:=hid hk2'
 have HK3:=hid hk3
 clear hw hW1 hblk hb2 hs2 hk2 hb3 hk3 hk2' hb13 hW3 hL hb1 hs1 hG
 obtain⟨p0,hp0⟩:∃ p0:Rv,p0=⟨0,0,0,0,false,0,0,0,0,0,5,0,0,none,0,0,none,0,0,none,0,0,0,0,0,3⟩:=⟨_,rfl⟩
 have hpg:p0.pg [] [] []=nwP:=by rw [hp0];rfl
 have hpm:∀ w,RvM w p0 [] [] []:=fun w=>by rw [hp0];exact⟨SlG.empty _,SlG.empty _,SlG.empty _⟩
 have hpl:p0.ln≤400∧p0.tn≤400∧p0.wn≤400:=by rw [hp0];exact⟨by simp only;omega,by simp only;omega,by simp only;omega⟩
 have HAT:Hid (∀ w,Below W.heap.size W w→Calls Tryz.prog 18 #[.agg #[.int .u8 5,.int .u32 0,.int .u8 0,.slice none 0 0,.slice none 0 0,.slice none 0 0,.int .u8 0,.int .u8 0,.int .u8 0,.int .i64 3]] w fun e w'=>e=.returned (.int .i64 83)∧Below w.heap.size w w'):=hid fun w hb=>by
  have:=z8u p0 [] [] [] w (HW.out w hb) (hpm w) (by rw [hpg];exact nw_pok) hpl
  rw [hpg,nw_att,hp0] at this
  exact this
 have HSA:Hid (∀ w,Below W.heap.size W w→Calls Tryz.prog 24 #[.agg #[.int .u8 5,.int .u32 0,.int .u8 0,.slice none 0 0,.slice none 0 0,.slice none 0 0,.int .u8 0,.int .u8 0,.int .u8 0,.int .i64 3],.int .i64 0] w fun e w'=>e=.returned (.int .i64 322)∧Below w.heap.size w w'):=hid fun w hb=>by
  have:=q1q p0 [] [] [] 0 w (HW.out w hb) (hpm w) (by rw [hpg];exact nw_pok) hpl (by unfold In64;decide)
  rw [hpg,nw_start,hp0] at this
  exact this
 have HPA:Hid (∀ w,Below W3.heap.size W3 w→Calls Tryz.prog 14 #[.agg #[.int .u8 5,.int .u8 0,.slice (some ⟨G,0,none⟩) 1 1]] w fun e w'=>e=.returned (.int .i64 50)∧Below w.heap.size w w'):=hid fun w hb=>by
  have:=nd_pass 5 0 (some ⟨G,0,none⟩) 1 1 [(0,3)] w (HL.out.later hb) (fun x hx=>by obtain rfl:=List.mem_singleton.1 hx;exact⟨by decide,by unfold In64;decide⟩) (by omega)
  rw [nw_pass] at this
  exact this
 have HFA:Hid (∀ w,Below W3.heap.size W3 w→Calls Tryz.prog 16 #[.agg #[.int .u8 5,.int .u8 0,.slice (some ⟨G,0,none⟩) 1 1]] w fun e w'=>e=.returned (.int .i64 83)∧Below w.heap.size w w'):=hid fun w hb=>by
  have:=nd_fail 5 0 (some ⟨G,0,none⟩) 1 1 [(0,3)] w (HL.out.later hb) (fun x hx=>by obtain rfl:=List.mem_singleton.1 hx;exact⟨by decide,by unfold In64;decide⟩) (by omega)
  rw [nw_fail] at this
  exact this
 clear hp0 hpg hpm hpl p0
 go_enter Tryz.func12,Tryz.ntmps12
 go_upto_region 3 with (fail)
 rw [HG.out,HW1.out,HW3.out]
 obtain⟨k0,k1,k2⟩:=z4e HK2.out
 go_wp2_with fail
 refine (HPA.out _ (Below.refl _ _)).mono ?_
 rintro e w4 ⟨rfl,h4⟩
 have HB4:=hid h4
 obtain⟨k0',k1',k2'⟩:=z4e (z0b HK2.out h4)
 clear h4 k0 k1 k2
 go_wp2_with fail
 refine (HFA.out _ HB4.out).mono ?_
 rintro e w5 ⟨rfl,h5⟩
 have HB5:=hid (HB4.out.trans (h5.mono HB4.out.size))
 have HK5:=hid (z0b HK3.out HB5.out)
 clear h5 k0' k1' k2'
 obtain⟨c0,c1,c2,c3,c4,c5,c6,c7,c8,c9⟩:=ten_cells HK5.out
 go_wp2_with fail
 refine (HAT.out _ (HB.out.trans (HB5.out.mono HB.out.size))).mono ?_
 rintro e w6 ⟨rfl,h6⟩
 have HB6:=hid (HB5.out.trans (h6.mono HB5.out.size))
 have HK6:=hid (z0b HK3.out HB6.out)
 clear h6 c0 c1 c2 c3 c4 c5 c6 c7 c8 c9
 obtain⟨c0,c1,c2,c3,c4,c5,c6,c7,c8,c9⟩:=ten_cells HK6.out
 go_wp2_with fail
 refine (HSA.out _ (HB.out.trans (HB6.out.mono HB.out.size))).mono ?_
 rintro e w7 ⟨rfl,h7⟩
 have HB7:=hid (HB6.out.trans (h7.mono HB6.out.size))
 clear h7 c0 c1 c2 c3 c4 c5 c6 c7 c8 c9
 go_wp2_with fail
 go_ret
 exact⟨rfl,HB.out.trans (HB7.out.mono HB.out.size)⟩
end Go.Proofs.YtclbkfpbdidaiaaGreatDoor
