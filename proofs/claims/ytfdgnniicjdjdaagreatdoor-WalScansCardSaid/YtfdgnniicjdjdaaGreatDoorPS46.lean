import Derived.Test.YtfdgnniicjdjdaaGreatDoorPS44
import Derived.Test.YtfdgnniicjdjdaaGreatDoorPS37
namespace Go.Proofs.YtfdgnniicjdjdaaGreatDoor
open Go.Lib (hid)
set_option maxHeartbeats 4000000
set_option linter.unusedVariables false
def appE (X:Rx):Int:=if z1f X=true then 0 else 1
def LS.app (s:LS) (X:Rx):LS:=if z1f X=true then { s with wb:=s.wb++frmX X } else s
def LS.appAt (s:LS) (X:Rx):Nat:=if z1f X=true then s.fin else 0
def LS.writeE (s:LS):Int:=if s.wb=[] then 0 else s.d.addE (zi s.wb)
def LS.write (s:LS):LS:=if s.wb=[] then s else if s.d.addE (zi s.wb)=0 then { s with d:=s.d.app (zi s.wb),wb:=[],wr:=s.fin } else s
def LS.sync (s:LS):LS:={ s with d:=s.d.sync,su:=s.wr }
def DS.lo (d:DS):Nat:=d.sT.f*d.z
def DS.hi (d:DS):Nat:=d.sT.f*d.z+d.sT.B.length
def LS.start (d:DS) (e k:Int):LS:=⟨if kn e d.lo d.hi<d.hi then d.add (.cut (kn e d.lo d.hi:Nat)) else d,[],kn e d.lo d.hi,kn e d.lo d.hi,kn k d.lo (kn e d.lo d.hi)⟩
end Go.Proofs.YtfdgnniicjdjdaaGreatDoor
namespace Go.Proofs.YtfdgnniicjdjdaaGreatDoor
open Go.Lib (hid)
set_option maxHeartbeats 4000000
open Go.RowKit Go.ChangeShapes Go.WideShapes
set_option linter.unusedVariables false
set_option maxRecDepth 10000
set_option linter.unusedSimpArgs false
section
variable {w w':World} {col col':Nat→Nat} {B G:Nat} {wv:Value} {s:LS}
theorem Lga.cell {s':LS} {wv':Value} (h:Lga w col B G wv s) (hd:s'.d=s.d) (hw:Chg (fun k=>k=G) w w') (hb:w'.heap[G]?=some (.cells (z6f (some ⟨B,0,none⟩) wv' s'.wr s'.su s'.kp) 117 (0,0))) (hr:RowB w wv' s'.wb.length (zi s'.wb)) (ho:∀ k,wv'.ownBlock=some k→col k=8) (hl:∀ x∈s'.wb,x<256):Lga w' col B G wv' s':=by
 have hG:=h.cG
 refine⟨?_,hb,hG,hr.keep hw fun k hk e=>?_,ho,hl⟩
 · rw [hd]
   refine h.dk.keep hw fun k hk e=>?_
   subst e
   unfold own at hk
   omega
 · subst e
   have:=ho k hk
   omega
theorem wal_write (h:Lg w col B G s) (hbig:s.fin≤1000000000) (htot:s.d.tot+65536≤1000000) (hL:s.d.L.length<1000000) :
 Calls Tryz.prog 17 #[.pointer (some ⟨G,0,none⟩)] w fun e w'=>e=.returned (.int .i64 s.writeE)∧LT w col B G s.write w':=by
 obtain⟨wv,h⟩:=h
 obtain⟨p,n,hv,hbl,hob,_⟩:=h.row.sl
 subst hv
 obtain⟨x0,x1,x2,_,_⟩:=h.cells
 have hlt:=z0g h.blk
 by_cases h0:s.wb=[]
 · have e1:s.writeE=0∧s.write=s:=by unfold LS.writeE LS.write;rw [if_pos h0,if_pos h0];exact⟨rfl,rfl⟩
   rw [e1.1,e1.2]
   have hz:s.wb.length=0:=by rw [h0];rfl
   rw [hz] at x1
   have HX:Hid (LT w col B G s w):=hid (LT.same ⟨_,h⟩ (Below.refl _ _))
   clear h hbl hob e1 hz h0
   go_enter Tryz.func17,Tryz.ntmps17
   go_wp2_with fail
   go_ret
   exact⟨rfl,HX.out⟩
 · have hz:0<s.wb.length:=List.length_pos_iff.2 h0
   have e1:s.writeE=s.d.addE (zi s.wb)∧s.write=if s.d.addE (zi s.wb)=0 then { s with d:=s.d.app (zi s.wb),wb:=[],wr:=s.fin } else s:=by unfold LS.writeE LS.write;rw [if_neg h0,if_neg h0];exact⟨rfl,rfl⟩
   have HE:=hid e1.2
   have happ:s.d.addE (zi s.wb)≠0→s.d.app (zi s.wb)=s.d:=fun h=>if_neg h
   have HAP:=hid happ
   rw [e1.1]
   have hdd:=fun q=>disk_append (w:=w.drewN q) (h.dk.keep ((Chg.refl (fun _=>False) _).drewN q) fun _ _ h=>h) htot hL p s.wb.length n (zi s.wb) (BL.keep hbl ((Chg.refl (fun _=>False) _).drewN q) fun _ _ _ h=>h) (fun h0 a ha=>by
    have:=h.at_ _ (hob a ha)
    unfold own
    omega)
   have HD:=hid hdd
   have H:=hid h
   clear h hbl hob e1 h0 hdd happ
   generalize he:s.d.addE (zi s.wb)=er at *
   generalize hm:s.wb.length=m at *
   have HM:=hid hm
   have HER:=hid he
   clear hm he
   have hm1:((m:Int)==0)=false:=by simp;omega
   have hm2:decide ((m:Int)=0)=false:=by simp;omega
   go_enter Tryz.func17,Tryz.ntmps17
   go_wp2_with fail
   go_still_tail 8,(by kernel_rfl)
   change wpList _ _ _ _ _ w.drew
   have hdd:=HD.out 1
   rw [show w.drewN 1=w.drew from rfl] at hdd
   go_wp2_with fail
   refine hdd.mono ?_
   rintro e w2 ⟨rfl,ht⟩
   have ht':z5t w col 1 B (s.d.app (zi s.wb)) w2:=by
    obtain⟨col',a1,a2,a3⟩:=ht
    exact⟨col',a1,a2,a3.undrew1⟩
   obtain⟨col2,he2,hg2,hc2⟩:=H.out.disk ht'
   have HE2:=hid he2
   have HG2:=hid hg2
   have HC2:=hid hc2
   have hm':=HM.out
   clear ht ht' he2 hc2 hdd
   by_cases he0:er=0
   · have hs2:s.write={ s with d:=s.d.app (zi s.wb),wb:=[],wr:=s.fin }:=by rw [HE.out,if_pos he0]
     subst he0
     have HS2:=hid hs2
     have hend:=q1j (w:=w2) ⟨_,hg2⟩ (Nat.le_trans hbig (by omega):s.fin≤1000000000000000)
     replace hend:Calls Tryz.prog 36 #[.pointer (some ⟨G,0,none⟩)] w2 fun e w'=>e=.returned (.int .i64 (s.fin:Nat))∧Below w2.heap.size w2 w':=hend
     generalize hfi:s.fin=fi at *
     have HFI:=hid hfi
     clear hfi hg2 hs2 hm'
     go_wp2_with fail
     refine hend.mono ?_
     rintro e w3 ⟨rfl,hb3⟩
     have hblk:=z0c HG2.out.blk hb3
     have HB3:=hid hb3
     have g2:=z0t 2 hblk
     have g1:=z0t 1 hblk
     have y2:=z0a (j:=2) hblk (v:=.int .i64 (s.wr:Nat)) rfl
     have y1:=z0a (j:=1) hblk (v:=.slice p m n) rfl
     have HX:Hid (LT w col B G s.write ((w3.setCell ⟨G,2,none⟩ (.int .i64 (fi:Nat))).setCell ⟨G,1,none⟩ (.slice none 0 0))):=hid (by
      rw [HS2.out]
      have hg3:=HG2.out.later HB3.out
      have hc3:Chg (fun k=>k=G) w3 ((w3.setCell ⟨G,2,none⟩ (.int .i64 (fi:Nat))).setCell ⟨G,1,none⟩ (.slice none 0 0)):=((Chg.refl (fun k=>k=G) w3).setCell ⟨G,2,none⟩ _ fun _=>rfl).setCell ⟨G,1,none⟩ _ fun _=>rfl
      have hg4:=Lga.cell (s':={ s with d:=s.d.app (zi s.wb),wb:=[],wr:=fi }) hg3 rfl hc3 (z0u 1 _ (z0u 2 _ hblk)) (RowB.nil _) (fun k h=>by cases h) (fun x h=>by cases h)
      have hs2:=HC2.out.size
      refine⟨col2,HE2.out,⟨_,hg4⟩,((HC2.out.mono (T:=lown col) fun k _ h=>q1q h).trans (T:=fun _=>False) (Chg.of_below HB3.out) fun _ _ h=>h.elim).trans hc3 fun k hk e=>?_⟩
      subst e
      have h7:=HG2.out.cG
      rw [HE2.out _ hk] at h7
      unfold lown
      omega)
     clear hblk hb3 hend
     go_wp2_with fail
     go_ret
     exact⟨rfl,HX.out⟩
   · have hs2:s.write=s:=by rw [HE.out,if_neg he0]
     have HX:Hid (LT w col B G s.write w2):=hid (by
      rw [hs2]
      have h3:=HG2.out
      rw [HAP.out he0] at h3
      exact⟨col2,HE2.out,⟨_,h3⟩,HC2.out.mono fun k _ h=>q1q h⟩)
     have hne:(er==0)=false:=by simpa using he0
     have hne2:decide (er=0)=false:=by simpa using he0
     have hne3:(er != 0)=true:=by simpa using he0
     clear hg2 hs2 he0 hm'
     go_wp2_with fail
     go_ret
     exact⟨rfl,HX.out⟩
theorem wal_sync (h:Lg w col B G s) (htot:s.d.tot≤1000000) (hL:s.d.L.length≤1000000) :
 Calls Tryz.prog 18 #[.pointer (some ⟨G,0,none⟩)] w fun e w'=>e=.returned (.tuple #[])∧LT w col B G s.sync w':=by
 obtain⟨wv,h⟩:=h
 obtain⟨x0,_⟩:=h.cells
 have hlt:=z0g h.blk
 have hdd:=disk_sync h.dk htot hL
 have H:=hid h
 clear h
 go_enter Tryz.func18,Tryz.ntmps18
 go_wp2_with fail
 refine hdd.mono ?_
 rintro e w2 ⟨rfl,ht⟩
 obtain⟨col2,he2,hg2,hc2⟩:=H.out.disk ht
 have hblk:=hg2.blk
 have g3:=z0t 3 hblk
 have y2:=z0a (j:=2) hblk (v:=.int .i64 (s.wr:Nat)) rfl
 have y3:=z0a (j:=3) hblk (v:=.int .i64 (s.su:Nat)) rfl
 have HX:Hid (LT w col B G s.sync (w2.setCell ⟨G,3,none⟩ (.int .i64 (s.wr:Nat)))):=hid (by
  have hc3:Chg (fun k=>k=G) w2 (w2.setCell ⟨G,3,none⟩ (.int .i64 (s.wr:Nat))):=(Chg.refl (fun k=>k=G) w2).setCell ⟨G,3,none⟩ _ fun _=>rfl
  have hg4:=Lga.cell (s':=s.sync) hg2 rfl hc3 (z0u 3 _ hblk) hg2.row hg2.at_ hg2.lt
  refine⟨col2,he2,⟨_,hg4⟩,(hc2.mono (T:=lown col) fun k _ h=>q1q h).trans hc3 fun k hk e=>?_⟩
  subst e
  have h7:=hg2.cG
  rw [he2 _ hk] at h7
  unfold lown
  omega)
 clear hblk ht he2 hc2 hdd hg2
 go_wp2_with fail
 go_end0
 exact⟨rfl,HX.out⟩
end
section
variable {w w':World} {col col':Nat→Nat} {B G:Nat} {wv:Value} {s:LS} {d:DS}
def LB (w:World) (col:Nat→Nat) (B:Nat) (s:LS) (e:Ending) (w':World):Prop:=∃ G,e=.returned (.pointer (some ⟨G,0,none⟩))∧w.heap.size≤G∧∃ col',Ext w col col'∧Lg w' col' B G s∧Chg (own col 1) w w'
theorem cut_lo (d:DS) (x:Int):(d.add (.cut x)).lo=d.lo:=by
 unfold DS.lo
 rw [q2b]
 rfl
theorem LB.made {w2 w3:World} {col2:Nat→Nat} {s:LS} (he:Ext w col col2) (hd:Dk w2 col2 1 B s.d) (hc:Chg (own col 1) w w2) (hw:s.wb=[]) (hb:Below w2.heap.size w2 w3) (h3:w3.heap[w2.heap.size]?=some (.cells (z6f (some ⟨B,0,none⟩) (.slice none 0 0) s.wr s.su s.kp) 117 (0,0))):LB w col B s (.returned (.pointer (some ⟨w2.heap.size,0,none⟩))) w3:=by
 have hE:=Ext.paint w2 col2 7
 refine⟨w2.heap.size,rfl,hc.size,paint col2 w2.heap.size 7,he.trans hE hc.size,⟨.slice none 0 0,(hd.recol hE).later hb,h3,z3d (Nat.le_refl _),?_,(fun k h=>by cases h),fun x h=>by rw [hw] at h;cases h⟩,hc.trans (T:=fun _=>False) (Chg.of_below hb) fun _ _ h=>h.elim⟩
 rw [hw]
 exact RowB.nil _
theorem wal_open (hd:Dk w col 1 B d) (htot:d.tot≤1000000) (hL:d.L.length<1000000) (x y:Int) :
 Calls Tryz.prog 13 #[.pointer (some ⟨B,0,none⟩),.int .i64 x,.int .i64 y] w (LB w col B (LS.start d x y)):=by
 have HF:Hid (∀ (d':DS) col' w',Dk w' col' 1 B d'→Calls Tryz.prog 57 #[.pointer (some ⟨B,0,none⟩)] w' fun e w''=>e=.returned (.int .i64 (d'.lo:Nat))∧Below w'.heap.size w' w''):=hid fun d' col' w' h=>disk_first h
 have HE:Hid (∀ (d':DS) col' w',Dk w' col' 1 B d'→Calls Tryz.prog 39 #[.pointer (some ⟨B,0,none⟩)] w' fun e w''=>e=.returned (.int .i64 (d'.hi:Nat))∧Below w'.heap.size w' w''):=hid fun d' col' w' h=>disk_end h
 have HK:=hid fun x lo hi w'=>wal_kept x lo hi w'
 have hf:=HF.out d col w hd
 have HD:=hid hd
 have HCT:Hid (∀ (z:Int) w',Dk w' col 1 B d→Calls Tryz.prog 58 #[.pointer (some ⟨B,0,none⟩),.int .i64 z] w' fun e w''=>e=.returned (.tuple #[])∧z5t w' col 1 B (d.add (.cut z)) w''):=hid fun z w' h=>disk_cut h htot hL z
 have HS:Hid (LS.start d x y=⟨if kn x d.lo d.hi<d.hi then d.add (.cut (kn x d.lo d.hi:Nat)) else d,[],kn x d.lo d.hi,kn x d.lo d.hi,kn y d.lo (kn x d.lo d.hi)⟩):=hid rfl
 have HLC:Hid (∀ z,(d.add (.cut z)).lo=d.lo):=hid fun z=>cut_lo d z
 clear hd
 generalize hlo:d.lo=lo at *
 generalize hhi:d.hi=hi at *
 have HLO:=hid hlo
 have HHI:=hid hhi
 clear hlo hhi
 go_enter Tryz.func13,Tryz.ntmps13
 go_wp2_with fail
 refine hf.mono ?_
 rintro e w1 ⟨rfl,hb1⟩
 have HB1:=hid hb1
 have he:=HE.out d col w1 (HD.out.later hb1)
 rw [HHI.out] at he
 clear hf hb1
 go_wp2_with fail
 refine he.mono ?_
 rintro e w2 ⟨rfl,hb2⟩
 have HB2:=hid (HB1.out.trans (hb2.mono HB1.out.size))
 have hk:=HK.out x lo hi w2
 clear he hb2
 generalize hat:kn x lo hi=at_ at *
 go_wp2_with fail
 refine hk.mono ?_
 rintro e w3 ⟨rfl,rfl⟩
 have he:=HE.out d col w3 (HD.out.later HB2.out)
 rw [HHI.out] at he
 clear hk
 go_wp2_with fail
 refine he.mono ?_
 rintro e w4 ⟨rfl,hb4⟩
 have HB4:=hid (HB2.out.trans (hb4.mono HB2.out.size))
 clear he hb4
 by_cases hlt:at_<hi
 · have hct:=HCT.out (at_:Nat) w4 (HD.out.later HB4.out)
   have l1:decide ((at_:Int)<(hi:Int))=true:=by simpa using hlt
   have l2:(at_:Int)<(hi:Int):=by omega
   have HLT:=hid hlt
   clear hlt
   go_wp2_with fail
   refine hct.mono ?_
   rintro e w5 ⟨rfl,col5,he5,hd5,hc5⟩
   have HE5:Hid (Ext w col col5):=hid fun k hk=>he5 k (Nat.lt_of_lt_of_le hk HB4.out.size)
   have HC5:Hid (Chg (own col 1) w w5):=hid ((Chg.of_below (S:=own col 1) HB4.out).trans hc5 fun _ _ h=>h)
   have HD5:=hid hd5
   have hf:=HF.out _ col5 w5 hd5
   rw [HLC.out] at hf
   clear hct he5 hc5 hd5
   go_wp2_with fail
   refine hf.mono ?_
   rintro e w6 ⟨rfl,hb6⟩
   have HB6:=hid hb6
   have hk:=HK.out y lo at_ w6
   clear hf hb6
   generalize hky:kn y lo at_=ky at *
   go_wp2_with fail
   refine hk.mono ?_
   rintro e w7 ⟨rfl,rfl⟩
   have HX:Hid (LB w col B (LS.start d x y) (.returned (.pointer (some ⟨w7.heap.size,0,none⟩))) (w7.alloc (.cells (z6f (some ⟨B,0,none⟩) (.slice none 0 0) at_ at_ ky) 117))):=hid (by
    rw [HS.out,if_pos HLT.out]
    exact LB.made (s:=⟨d.add (.cut (at_:Nat)),[],at_,at_,ky⟩) HE5.out (HD5.out.later HB6.out) (HC5.out.trans (T:=fun _=>False) (Chg.of_below HB6.out) fun _ _ h=>h.elim) rfl ((Below.refl _ _).alloc (Nat.le_refl _) _) (z0b _ _))
   clear hk
   go_wp2_with fail
   go_ret
   exact HX.out
 · have hf:=HF.out d col w4 (HD.out.later HB4.out)
   rw [HLO.out] at hf
   have l1:decide ((at_:Int)<(hi:Int))=false:=by simpa using hlt
   have l2:¬ (at_:Int)<(hi:Int):=by omega
   have HLT:=hid hlt
   clear hlt
   go_wp2_with fail
   refine hf.mono ?_
   rintro e w6 ⟨rfl,hb6⟩
   have HB6:=hid (HB4.out.trans (hb6.mono HB4.out.size))
   have hk:=HK.out y lo at_ w6
   clear hf hb6
   generalize hky:kn y lo at_=ky at *
   go_wp2_with fail
   refine hk.mono ?_
   rintro e w7 ⟨rfl,rfl⟩
   have HX:Hid (LB w col B (LS.start d x y) (.returned (.pointer (some ⟨w7.heap.size,0,none⟩))) (w7.alloc (.cells (z6f (some ⟨B,0,none⟩) (.slice none 0 0) at_ at_ ky) 117))):=hid (by
    rw [HS.out,if_neg HLT.out]
    exact LB.made (s:=⟨d,[],at_,at_,ky⟩) (Ext.refl _ _) (HD.out.later HB6.out) (Chg.of_below HB6.out) rfl ((Below.refl _ _).alloc (Nat.le_refl _) _) (z0b _ _))
   clear hk
   go_wp2_with fail
   go_ret
   exact HX.out
end
section
variable {w w':World} {col col':Nat→Nat} {B G:Nat} {wv:Value} {s:LS}
theorem wal_append (h:Lg w col B G s) (hw:Wd4 w) (r:Rv) (L:List Ln) (T:List Tk) (M:List Ln) (hP:RvM w r L T M) (hok:Rxok (r.x L T M)) (h1:r.ln≤400∧r.tn≤400∧r.wn≤400) (hbig:s.fin≤1000000000) (hwb:s.wb.length≤400000) :
 Calls Tryz.prog 22 #[.pointer (some ⟨G,0,none⟩),.agg (rcs r)] w fun e w'=>e=.returned (.tuple #[.int .i64 (s.appAt (r.x L T M):Nat),.int .i64 (appE (r.x L T M))])∧LT w col B G (s.app (r.x L T M)) w':=by
 obtain⟨wv,h⟩:=h
 obtain⟨W1,hW1,hb1⟩:∃ W1,w.alloc (.cells (rcs r) 51)=W1∧Below w.heap.size w W1:=⟨_,rfl,(Below.refl _ _).alloc (Nat.le_refl _) _⟩
 obtain⟨X1,hX1⟩:∃ X,w.heap.size=X:=⟨_,rfl⟩
 have hrb:=RB.new w r
 rw [hW1,hX1] at hrb
 have henc:=rec_encode r L T M W1 (hw.2.later hb1) (hP.later hb1) hok h1
 have HX1:=hid hrb
 have HW1:=hid hW1
 have HB1:=hid hb1
 have HRE:=hid hX1
 have HH:=hid h
 have HWD:=hid hw
 have HWB:=hid hwb
 have HSW:Hid (∀ w',Below w.heap.size w w'→Lga w' col B G wv s):=hid fun w' hb=>h.later hb
 have hlt:=z0g h.blk
 clear hW1 hb1 hX1 hrb hw hP hok h1 h
 cases hg:z1f (r.x L T M) with
 | false =>
  have hF:s.app (r.x L T M)=s∧s.appAt (r.x L T M)=0∧appE (r.x L T M)=1:=by
   unfold LS.app LS.appAt appE
   rw [hg]
   exact⟨rfl,rfl,rfl⟩
  rw [hF.1,hF.2.1,hF.2.2]
  have HG:=hid hg
  clear hF hg
  go_enter Tryz.func22,Tryz.ntmps22
  go_upto_region 1 with (fail)
  rw [HW1.out,HRE.out]
  go_wp2_with ((with_reducible refine z0q HX1.out ?_ ?_);rfl)
  refine henc.mono ?_
  rintro e w2 ⟨hb2,he⟩
  rw [HG.out,if_neg (by decide)] at he
  subst he
  have HF:Hid (LT w col B G s w2):=hid (LT.same ⟨wv,HH.out⟩ (HB1.out.trans (hb2.mono HB1.out.size)))
  clear hb2 henc
  go_wp2_with fail
  go_ret2
  exact⟨rfl,HF.out⟩
 | true =>
  have hF:s.app (r.x L T M)={ s with wb:=s.wb++frmX (r.x L T M) }∧s.appAt (r.x L T M)=s.fin∧appE (r.x L T M)=0:=by
   unfold LS.app LS.appAt appE
   rw [hg]
   exact⟨rfl,rfl,rfl⟩
  rw [hF.1,hF.2.1,hF.2.2]
  obtain⟨hbg,hb5,hb407⟩:=bytes_good hg
  have HG:=hid hg
  have HBG:=hid hbg
  clear hF hg hbg
  obtain⟨Y,hY⟩:∃ Y,z0o (r.x L T M)=Y:=⟨_,rfl⟩
  have hFr:frmX (r.x L T M)=frm Y:=by rw [← hY];rfl
  rw [hFr]
  have HSM:Hid ((frm Y).length≤413):=hid (by rw [← hFr,frmX_len];omega)
  have HY:=hid hY
  clear hFr hb5
  go_enter Tryz.func22,Tryz.ntmps22
  go_upto_region 1 with (fail)
  rw [HW1.out,HRE.out]
  go_wp2_with ((with_reducible refine z0q HX1.out ?_ ?_);rfl)
  refine henc.mono ?_
  rintro e w2 ⟨hb2,he⟩
  rw [HG.out,if_pos rfl,HY.out] at he
  obtain⟨p2,c2,rfl,hs2⟩:=he
  have HB2:=hid (HB1.out.trans (hb2.mono HB1.out.size))
  have hlen:Y.length≤407:=by rw [← HY.out];exact hb407
  have hput:=fput_any p2 Y.length c2 Y w2 hs2 (by omega) (HWD.out.later HB2.out).1
  have hpg:putL Y=frm Y∧putE Y=0:=putE_good (by rw [← HY.out];exact HBG.out)
  rw [hpg.1,hpg.2] at hput
  clear hb2 hs2 henc hpg hb407 hlen hY
  generalize Y.length=yn at *
  go_wp2_with fail
  refine hput.mono ?_
  rintro e w3 ⟨p3,c3,rfl,hs3,hb3,hn3,hc3⟩
  have HB3:=hid (HB2.out.trans (hb3.mono HB2.out.size))
  have HS3:=hid (hs3.bl hc3)
  have HLT:=hid hs3.lt
  have hend:=q1j ⟨wv,HSW.out w3 HB3.out⟩ (by omega)
  clear hs3 hb3 hn3 hc3 hput
  generalize hfl:(frm Y).length=fn at *
  go_wp2_with fail
  refine hend.mono ?_
  rintro e w4 ⟨rfl,hb4⟩
  have HB4:=hid (HB3.out.trans (hb4.mono HB3.out.size))
  have h4:=HSW.out w4 HB4.out
  have HS4:=hid (SlG.later HS3.out hb4)
  obtain⟨_,x1,_⟩:=h4.cells
  have HR4:=hid h4.row
  have H4:=hid h4
  have HBLK:=hid h4.blk
  have HFL:=hid hfl
  obtain⟨p,n,hv,_⟩:=h4.row.sl
  subst hv
  have HC3:Hid (∀ w5,Chg (fun k=>(Value.slice p s.wb.length n).ownBlock=some k) w4 w5→w5.heap[G]?=some (.cells (z6f (some ⟨B,0,none⟩) (.slice p s.wb.length n) s.wr s.su s.kp) 117 (0,0))):=hid fun w5 hc=>by
   refine (hc.block G (z0g HBLK.out) fun e=>?_).trans HBLK.out
   have h7:=H4.out.cG
   have h8:=H4.out.at_ G e
   omega
  clear hb4 hend h4 hfl
  generalize hwl:s.wb.length=m at *
  have HWL:=hid hwl
  clear hwl
  generalize hfi:s.fin=fi at *
  have HFI:=hid hfi
  clear hfi
  go_wp2_with (first | (at_builtin;refine z4g rfl _ _ rfl _ _ _ rfl HR4.out _ fn c3 (zi (frm Y)) rfl HS4.out (by have h8:=HSM.out;have h9:=HWB.out;omega) ?_;intro p' c' w5 hr5 hc5 hl5 hn5;have hb5:=HC3.out w5 hc5;have g0:=z0t 1 hb5;have x5:=z0a (j:=1) hb5 (v:=.slice p m n) rfl) | fail)
  have HBL5:=hid hb5
  replace hc5:Chg (fun k=>(Value.slice p m n).ownBlock=some k) w4 w5:=hc5
  replace hl5:∀ k,(Value.slice p' (m+fn) c').ownBlock=some k→(Value.slice p m n).ownBlock=some k∨w4.heap.size≤k:=hl5
  have HX:Hid (LT w col B G { s with wb:=s.wb++frm Y } (w5.setCell ⟨G,1,none⟩ (.slice p' (m+fn) c'))):=hid (by
   have hh:=HH.out
   have hG:=hh.cG
   have hGl:=z0g hh.blk
   have hsz:=HB4.out.size
   have hbnd:=hh.row.bound
   have h8:∀ k,(Value.slice p m n).ownBlock=some k→col k=8:=fun k hk=>H4.out.at_ k hk
   have hcA:Chg (fun k=>col k=8∨k=G) w w5:=(Chg.of_below HB4.out).trans (hc5.mono (T:=fun k=>col k=8∨k=G) fun k _ hk=>.inl (h8 k hk)) fun k _ h=>h
   have hcB:Chg (fun k=>k=G) w5 (w5.setCell ⟨G,1,none⟩ (.slice p' (m+fn) c')):=(Chg.refl _ _).setCell _ _ fun _=>rfl
   have hcC:Chg (fun k=>col k=8∨k=G) w (w5.setCell ⟨G,1,none⟩ (.slice p' (m+fn) c')):=hcA.trans hcB fun k _ h=>.inr h
   have hE:=Ext.paint w col 8
   have g:=hh.recol hE
   have hcD:Chg (fun k=>paint col w.heap.size 8 k=8∨k=G) w (w5.setCell ⟨G,1,none⟩ (.slice p' (m+fn) c')):=hcC.mono fun k hk h=>by rw [z2g hk];exact h
   have hnl:(s.wb++frm Y).length=m+fn:=by rw [List.length_append,HWL.out,HFL.out]
   refine⟨paint col w.heap.size 8,hE,⟨.slice p' (m+fn) c',?_,?_,g.cG,?_,?_,?_⟩,hcC.mono fun k _ h=>?_⟩
   · refine g.dk.keep hcD fun k hk h=>?_
     have hgG:=g.cG
     unfold own at hk
     rcases h with h | h
     · omega
     · subst h;omega
   · exact z0u 1 _ hb5
   · show RowB _ _ (s.wb++frm Y).length (zi (s.wb++frm Y))
     rw [hnl,zi_append]
     refine hr5.keep hcB fun k hk e=>?_
     subst e
     rcases hl5 k hk with h5 | h5
     · have:=h8 k h5
       omega
     · omega
   · intro k hk
     rcases hl5 k hk with h5 | h5
     · rw [z2g (hbnd k h5)]
       exact h8 k h5
     · exact z3d (by omega)
   · intro x hx
     rcases List.mem_append.1 hx with hx | hx
     · exact hh.lt x hx
     · exact HLT.out x hx
   · unfold lown
     rcases h with h | h
     · omega
     · subst h;omega)
  clear hr5 hc5 hl5 hn5 hb5
  go_wp2_with fail
  go_ret2
  exact⟨by rw [HFI.out];rfl,HX.out⟩
end
structure Lh (W w:World) (col:Nat→Nat) (B G:Nat) (s:LS):Prop where
 zero:∀ k,k<W.heap.size→col k=0
 below:Below W.heap.size W w
 lg:Lg w col B G s
theorem Lh.later {W w w':World} {col:Nat→Nat} {B G:Nat} {s:LS} (h:Lh W w col B G s) (hb:Below w.heap.size w w'):Lh W w' col B G s:=⟨h.zero,h.below.trans (hb.mono h.below.size),h.lg.later hb⟩
theorem Lh.act {W w w':World} {col:Nat→Nat} {B G:Nat} {s s':LS} (h:Lh W w col B G s) (ht:LT w col B G s' w'):∃ col',Lh W w' col' B G s':=by
 obtain⟨col',he,hg,hc⟩:=ht
 refine⟨col',fun k hk=>(he k (Nat.lt_of_lt_of_le hk h.below.size)).trans (h.zero k hk),hc.below h.below h.below.size fun k hk=>?_,hg⟩
 rcases Nat.lt_or_ge k W.heap.size with h1 | h1
 · have:=h.zero k h1
   unfold lown at hk
   omega
 · exact h1
theorem Lh.made {W w w1:World} {B:Nat} {d:DS} {s:LS} {e:Ending} {col:Nat→Nat} (h0:∀ k,k<W.heap.size→col k=0) (hb:Below W.heap.size W w) (hl:LB w col B s e w1):∃ G col',e=.returned (.pointer (some ⟨G,0,none⟩))∧W.heap.size≤G∧Lh W w1 col' B G s:=by
 obtain⟨G,he,hG,col2,he2,hg,hc⟩:=hl
 refine⟨G,col2,he,Nat.le_trans hb.size hG,fun k hk=>(he2 k (Nat.lt_of_lt_of_le hk hb.size)).trans (h0 k hk),hc.below hb hb.size fun k hk=>?_,hg⟩
 rcases Nat.lt_or_ge k W.heap.size with h1 | h1
 · have:=h0 k h1
   unfold own at hk
   omega
 · exact h1
def rcm:Rv:=⟨4,0,1,0,false,0,0,0,0,0,0,0,0,none,0,0,none,0,0,none,0,0,0,0,0,0⟩
theorem rcm_ok:Rxok (rcm.x [] [] []):=⟨by simp [Rv.x,rcm],by simp [Rv.x,rcm],by simp [Rv.x,rcm],by simp [Rv.x,rcm],by simp [Rv.x,rcm,Kok],by simp [Rv.x,rcm,In64],by simp [Rv.x,rcm],z6a⟩
def wk0:LS:=LS.start (DS.new 0 0 64 1000) 0 0
def wk1:LS:=wk0.app (rcm.x [] [] [])
def wk2:LS:=wk1.write
def wk3:LS:=wk2.sync
theorem wk_facts:((DS.new 0 0 64 1000).tot≤1000000∧(DS.new 0 0 64 1000).L.length<1000000)∧(wk0.fin≤1000000000∧wk0.wb.length≤400000∧wk0.appAt (rcm.x [] [] [])=0∧appE (rcm.x [] [] [])=0)∧(wk1.fin=11∧wk1.wr=0∧wk1.d.tot+65536≤1000000∧wk1.d.L.length<1000000)∧(wk2.wr=11∧wk2.su=0∧wk2.d.tot≤1000000∧wk2.d.L.length≤1000000)∧wk3.su=11:=by decide +kernel
theorem wal_works (W:World) (hw:Wd4 W):Calls Tryz.prog 11 #[] W fun e w'=>e=.returned (.bool true)∧Below W.heap.size W w':=by
 obtain⟨⟨f1,f2⟩,⟨f3,f4,f5,f6⟩,⟨f7,f8,f9,f10⟩,⟨f11,f12,f13,f14⟩,f15⟩:=wk_facts
 have hn:=disk_new 0 0 64 1000 W
 have HWD:=hid hw
 have HP1:=hid (And.intro f1 f2)
 have HP2:=hid (And.intro f3 (And.intro f4 (And.intro f5 f6)))
 have HP3:=hid (And.intro f7 (And.intro f8 (And.intro f9 f10)))
 have HP4:=hid (And.intro f11 (And.intro f12 (And.intro f13 f14)))
 have HP5:=hid f15
 clear hw f1 f2 f3 f4 f5 f6 f7 f8 f9 f10 f11 f12 f13 f14 f15
 go_enter Tryz.func11,Tryz.ntmps11
 go_wp2_with fail
 refine hn.mono ?_
 rintro e w1 ⟨B,rfl,hbo,hB,hb1⟩
 obtain⟨col1,he1,hd1⟩:=hbo (fun _=>0) 1 (Nat.le_refl _)
 have hop:=wal_open hd1 HP1.out.1 HP1.out.2 0 0
 have HB1:=hid hb1
 have HE1:=hid he1
 clear hn hbo hB hb1 he1 hd1
 go_wp2_with fail
 refine hop.mono ?_
 rintro e w2 hlb
 obtain⟨G,col2,rfl,hG,h2⟩:=Lh.made (d:=DS.new 0 0 64 1000) (fun k hk=>HE1.out k hk) HB1.out hlb
 have H2:=hid h2
 have hap:=wal_append h2.lg (HWD.out.later h2.below) rcm [] [] [] ⟨SlG.empty _,SlG.empty _,SlG.empty _⟩ rcm_ok ⟨by decide,by decide,by decide⟩ HP2.out.1 HP2.out.2.1
 have e1:(LS.start (DS.new 0 0 64 1000) 0 0).appAt (rcm.x [] [] [])=0:=HP2.out.2.2.1
 rw [e1,HP2.out.2.2.2] at hap
 clear hlb hG h2 hop e1
 go_wp2_with fail
 refine hap.mono ?_
 rintro e w3 ⟨rfl,ht⟩
 obtain⟨col3,h3⟩:=H2.out.act ht
 have H3:Hid (Lh W w3 col3 B G wk1):=hid h3
 have hen:=q1j H3.out.lg (by rw [HP3.out.1];omega)
 rw [HP3.out.1] at hen
 clear ht h3 hap H2
 go_wp2_with fail
 refine hen.mono ?_
 rintro e w4 ⟨rfl,hb4⟩
 have H4:=hid (H3.out.later hb4)
 have hwr:=wal_written H4.out.lg
 rw [HP3.out.2.1] at hwr
 clear hb4 hen H3
 go_wp2_with fail
 refine hwr.mono ?_
 rintro e w5 ⟨rfl,hb5⟩
 have H5:=hid (H4.out.later hb5)
 have hww:=wal_write H5.out.lg (by rw [HP3.out.1];omega) HP3.out.2.2.1 HP3.out.2.2.2
 clear hb5 hwr H4
 go_wp2_with fail
 refine hww.mono ?_
 rintro e w6 ⟨rfl,ht⟩
 obtain⟨col6,h6⟩:=H5.out.act ht
 have H6:Hid (Lh W w6 col6 B G wk2):=hid h6
 have hwr:=wal_written H6.out.lg
 rw [HP4.out.1] at hwr
 clear ht h6 hww H5
 go_wp2_with fail
 refine hwr.mono ?_
 rintro e w7 ⟨rfl,hb7⟩
 have H7:=hid (H6.out.later hb7)
 have hsu:=wal_sure H7.out.lg
 rw [HP4.out.2.1] at hsu
 clear hb7 hwr H6
 go_wp2_with fail
 refine hsu.mono ?_
 rintro e w8 ⟨rfl,hb8⟩
 have H8:=hid (H7.out.later hb8)
 have hsy:=wal_sync H8.out.lg HP4.out.2.2.1 HP4.out.2.2.2
 clear hb8 hsu H7
 go_wp2_with fail
 refine hsy.mono ?_
 rintro e w9 ⟨rfl,ht⟩
 obtain⟨col9,h9⟩:=H8.out.act ht
 have H9:Hid (Lh W w9 col9 B G wk3):=hid h9
 have hsu:=wal_sure H9.out.lg
 rw [HP5.out] at hsu
 clear ht h9 hsy H8
 go_wp2_with fail
 refine hsu.mono ?_
 rintro e w10 ⟨rfl,hb10⟩
 have H10:=hid (H9.out.later hb10).below
 clear hb10 hsu H9
 go_wp2_with fail
 go_ret
 exact⟨rfl,H10.out⟩
end Go.Proofs.YtfdgnniicjdjdaaGreatDoor
