import Derived.Test.YtnpjpelbcmgodaaDoorPE99
import Derived.Test.YtnpjpelbcmgodaaDoorPE29
import Derived.Test.YtnpjpelbcmgodaaDoorPE26
namespace Go.Proofs.YtnpjpelbcmgodaaDoor
open Go.Lib (hid)
set_option maxHeartbeats 8000000
open Go.RowKit Go.ChangeShapes Go.WideShapes
set_option linter.unusedVariables false
set_option linter.unusedSimpArgs false
set_option maxRecDepth 10000
theorem good1_p (s w:Int) (od po:Int) (lp:Option Addr) (ln lcp:Nat) (tp:Option Addr) (tn tcp:Nat) (wp:Option Addr) (wn wcp:Nat) (sk fr to q:Int) (L:List Ln) (T:List Tk) (M:List Ln) (W:World) (hs:z0i s w=true) (hw:Words W) (hP:PgM W lp ln lcp L tp tn tcp T wp wn wcp M) (hok:Pgok ⟨1,od,po,L,T,M,sk,fr,to,q⟩) (h1:ln≤400∧tn≤400∧wn≤400) :
 Calls Tryd.prog 38 #[.int .i64 s,.int .i64 w,.agg #[.int .u8 1,.int .u32 od,.int .u8 po,.slice lp ln lcp,.slice tp tn tcp,.slice wp wn wcp,.int .u8 sk,.int .u8 fr,.int .u8 to,.int .i64 q]] W fun e w'=>e=.returned (.bool (z0o s w ⟨1,od,po,L,T,M,sk,fr,to,q⟩))∧Below W.heap.size W w':=by
 have hg:z0o s w ⟨1,od,po,L,T,M,sk,fr,to,q⟩=((decide (od≠0) && decide (po≤1) && decide (1≤L.length) && z0n s L && z0r s w od T && z0n s M && z2a T M L && (decide (po=0) || decide (M.length=0))) && decide ((⟨1,od,po,L,T,M,sk,fr,to,q⟩:Pg)=⟨1,od,po,L,T,M,0,0,0,0⟩)):=by
  unfold z0o
  rw [hs,Bool.true_and,ask1,qof1]
 have hs4:1≤s∧s≤4∧1≤w∧w≤4:=by
  unfold z0i at hs
  simp only [Bool.and_eq_true,decide_eq_true_eq] at hs
  omega
 obtain⟨hs1,hs2,hs3,hs4⟩:=hs4
 have h2:ln≤1000∧tn≤1000∧wn≤1000:=⟨by omega,by omega,by omega⟩
 obtain⟨W2,hW2,hbx,hb2⟩:∃ W2,W.alloc (.cells #[.int .u8 1,.int .u32 od,.int .u8 po,.slice lp ln lcp,.slice tp tn tcp,.slice wp wn wcp,.int .u8 sk,.int .u8 fr,.int .u8 to,.int .i64 q] 26)=W2∧W2.heap[W.heap.size]?=some (.cells #[.int .u8 1,.int .u32 od,.int .u8 po,.slice lp ln lcp,.slice tp tn tcp,.slice wp wn wcp,.int .u8 sk,.int .u8 fr,.int .u8 to,.int .i64 q] 26 (0,0))∧Below W.heap.size W W2:=⟨_,rfl,z0d W _,(Below.refl _ _).alloc (Nat.le_refl _) _⟩
 have HW2:=hid hW2
 have HB2:=hid hb2
 have HX2:=hid hbx
 have hj:∀ w',Below W2.heap.size W2 w'→_:=fun w' h=>z6v 1 od po lp ln lcp tp tn tcp wp wn wcp sk fr to q 0 od po lp ln lcp tp tn tcp wp wn wcp 0 0 0 0 L T M L T M w' ((hP.later hb2).later h) (have hP:=(hP.later hb2).later h;hP) h2 h2
 have hq:∀ w',Below W2.heap.size W2 w'→_:=fun w' h=>goodplace_any s w 1 od po lp ln lcp tp tn tcp wp wn wcp sk fr to q L T M w' ((hw.later hb2).later h) ((hP.later hb2).later h) hok hs1 hs2 hs3 hs4 h1
 rw [hg]
 generalize (decide (od≠0) && decide (po≤1) && decide (1≤L.length) && z0n s L && z0r s w od T && z0n s M && z2a T M L && (decide (po=0) || decide (M.length=0)))=ex at *
 generalize decide ((⟨1,od,po,L,T,M,sk,fr,to,q⟩:Pg)=⟨1,od,po,L,T,M,0,0,0,0⟩)=dd at *
 have HJ:=hid hj
 have HQ:=hid hq
 have y1:decide (s<1)=false:=decide_eq_false (by omega)
 have y2:decide (4<s)=false:=decide_eq_false (by omega)
 have y3:decide (w<1)=false:=decide_eq_false (by omega)
 have y4:decide (4<w)=false:=decide_eq_false (by omega)
 clear hg hW2 hb2 hbx hj hq hP hok hw hs h1 h2
 obtain⟨a0,a1,a2,a3,a4,a5,a6,a7,a8,a9⟩:=z0e 1 od po lp ln lcp tp tn tcp wp wn wcp sk fr to q HX2.out
 go_enter Tryd.func38,Tryd.ntmps38
 go_wp2_with fail
 rw [HW2.out]
 refine (HJ.out W2 (Below.refl _ _)).mono ?_
 rintro e w0 ⟨rfl,hb⟩
 have HB3:=hid hb
 clear hb a0 a1 a2 a3 a4 a5 a6 a7 a8 a9
 obtain⟨a0,a1,a2,a3,a4,a5,a6,a7,a8,a9⟩:=z0e 1 od po lp ln lcp tp tn tcp wp wn wcp sk fr to q (z0a HX2.out HB3.out)
 cases dd with
 | false =>
  go_wp2_with fail
  go_ret
  exact⟨by rw [Bool.and_false];rfl,HB2.out.trans (HB3.out.mono HB2.out.size)⟩
 | true =>
  go_wp2_with fail
  refine (HQ.out w0 HB3.out).mono ?_
  rintro e w1 ⟨rfl,hb⟩
  have HB4:=hid (HB3.out.trans (hb.mono HB3.out.size))
  clear hb a0 a1 a2 a3 a4 a5 a6 a7 a8 a9
  go_wp2_with fail
  go_ret
  exact⟨by rw [Bool.and_true];rfl,HB2.out.trans (HB4.out.mono HB2.out.size)⟩
theorem good2_p (s w:Int) (od po:Int) (lp:Option Addr) (ln lcp:Nat) (tp:Option Addr) (tn tcp:Nat) (wp:Option Addr) (wn wcp:Nat) (sk fr to q:Int) (L:List Ln) (T:List Tk) (M:List Ln) (W:World) (hs:z0i s w=true) (hw:Words W) (hP:PgM W lp ln lcp L tp tn tcp T wp wn wcp M) (hok:Pgok ⟨2,od,po,L,T,M,sk,fr,to,q⟩) (h1:ln≤400∧tn≤400∧wn≤400) :
 Calls Tryd.prog 38 #[.int .i64 s,.int .i64 w,.agg #[.int .u8 2,.int .u32 od,.int .u8 po,.slice lp ln lcp,.slice tp tn tcp,.slice wp wn wcp,.int .u8 sk,.int .u8 fr,.int .u8 to,.int .i64 q]] W fun e w'=>e=.returned (.bool (z0o s w ⟨2,od,po,L,T,M,sk,fr,to,q⟩))∧Below W.heap.size W w':=by
 have hg:z0o s w ⟨2,od,po,L,T,M,sk,fr,to,q⟩=((decide (od≠0) && z0r s w od T && z0n s M && decide (1≤T.length+M.length)) && decide ((⟨2,od,po,L,T,M,sk,fr,to,q⟩:Pg)=⟨2,od,0,[],T,M,0,0,0,0⟩)):=by
  unfold z0o
  rw [hs,Bool.true_and,ask2,qof2]
 have hs4:1≤s∧s≤4∧1≤w∧w≤4:=by
  unfold z0i at hs
  simp only [Bool.and_eq_true,decide_eq_true_eq] at hs
  omega
 obtain⟨hs1,hs2,hs3,hs4⟩:=hs4
 have h2:ln≤1000∧tn≤1000∧wn≤1000:=⟨by omega,by omega,by omega⟩
 obtain⟨W2,hW2,hbx,hb2⟩:∃ W2,W.alloc (.cells #[.int .u8 2,.int .u32 od,.int .u8 po,.slice lp ln lcp,.slice tp tn tcp,.slice wp wn wcp,.int .u8 sk,.int .u8 fr,.int .u8 to,.int .i64 q] 26)=W2∧W2.heap[W.heap.size]?=some (.cells #[.int .u8 2,.int .u32 od,.int .u8 po,.slice lp ln lcp,.slice tp tn tcp,.slice wp wn wcp,.int .u8 sk,.int .u8 fr,.int .u8 to,.int .i64 q] 26 (0,0))∧Below W.heap.size W W2:=⟨_,rfl,z0d W _,(Below.refl _ _).alloc (Nat.le_refl _) _⟩
 have HW2:=hid hW2
 have HB2:=hid hb2
 have HX2:=hid hbx
 have hj:∀ w',Below W2.heap.size W2 w'→_:=fun w' h=>z6v 2 od po lp ln lcp tp tn tcp wp wn wcp sk fr to q 0 od 0 none 0 0 tp tn tcp wp wn wcp 0 0 0 0 L T M [] T M w' ((hP.later hb2).later h) (have hP:=(hP.later hb2).later h;⟨SlG.empty _,hP.t,hP.o⟩) h2 ⟨by omega,h2.2.1,h2.2.2⟩
 have hq:∀ w',Below W2.heap.size W2 w'→_:=fun w' h=>goodcancel_any s w 2 od po lp ln lcp tp tn tcp wp wn wcp sk fr to q L T M w' ((hw.later hb2).later h) ((hP.later hb2).later h) hok hs1 hs2 hs3 hs4 h1
 rw [hg]
 generalize (decide (od≠0) && z0r s w od T && z0n s M && decide (1≤T.length+M.length))=ex at *
 generalize decide ((⟨2,od,po,L,T,M,sk,fr,to,q⟩:Pg)=⟨2,od,0,[],T,M,0,0,0,0⟩)=dd at *
 have HJ:=hid hj
 have HQ:=hid hq
 have y1:decide (s<1)=false:=decide_eq_false (by omega)
 have y2:decide (4<s)=false:=decide_eq_false (by omega)
 have y3:decide (w<1)=false:=decide_eq_false (by omega)
 have y4:decide (4<w)=false:=decide_eq_false (by omega)
 clear hg hW2 hb2 hbx hj hq hP hok hw hs h1 h2
 obtain⟨a0,a1,a2,a3,a4,a5,a6,a7,a8,a9⟩:=z0e 2 od po lp ln lcp tp tn tcp wp wn wcp sk fr to q HX2.out
 go_enter Tryd.func38,Tryd.ntmps38
 go_wp2_with fail
 rw [HW2.out]
 refine (HJ.out W2 (Below.refl _ _)).mono ?_
 rintro e w0 ⟨rfl,hb⟩
 have HB3:=hid hb
 clear hb a0 a1 a2 a3 a4 a5 a6 a7 a8 a9
 obtain⟨a0,a1,a2,a3,a4,a5,a6,a7,a8,a9⟩:=z0e 2 od po lp ln lcp tp tn tcp wp wn wcp sk fr to q (z0a HX2.out HB3.out)
 cases dd with
 | false =>
  go_wp2_with fail
  go_ret
  exact⟨by rw [Bool.and_false];rfl,HB2.out.trans (HB3.out.mono HB2.out.size)⟩
 | true =>
  go_wp2_with fail
  refine (HQ.out w0 HB3.out).mono ?_
  rintro e w1 ⟨rfl,hb⟩
  have HB4:=hid (HB3.out.trans (hb.mono HB3.out.size))
  clear hb a0 a1 a2 a3 a4 a5 a6 a7 a8 a9
  go_wp2_with fail
  go_ret
  exact⟨by rw [Bool.and_true];rfl,HB2.out.trans (HB4.out.mono HB2.out.size)⟩
theorem good3_p (s w:Int) (od po:Int) (lp:Option Addr) (ln lcp:Nat) (tp:Option Addr) (tn tcp:Nat) (wp:Option Addr) (wn wcp:Nat) (sk fr to q:Int) (L:List Ln) (T:List Tk) (M:List Ln) (W:World) (hs:z0i s w=true) (hw:Words W) (hP:PgM W lp ln lcp L tp tn tcp T wp wn wcp M) (hok:Pgok ⟨3,od,po,L,T,M,sk,fr,to,q⟩) (h1:ln≤400∧tn≤400∧wn≤400) :
 Calls Tryd.prog 38 #[.int .i64 s,.int .i64 w,.agg #[.int .u8 3,.int .u32 od,.int .u8 po,.slice lp ln lcp,.slice tp tn tcp,.slice wp wn wcp,.int .u8 sk,.int .u8 fr,.int .u8 to,.int .i64 q]] W fun e w'=>e=.returned (.bool (z0o s w ⟨3,od,po,L,T,M,sk,fr,to,q⟩))∧Below W.heap.size W w':=by
 have hg:z0o s w ⟨3,od,po,L,T,M,sk,fr,to,q⟩=((decide (od≠0) && z0r s w od T && decide (1≤T.length)) && decide ((⟨3,od,po,L,T,M,sk,fr,to,q⟩:Pg)=⟨3,od,0,[],T,[],0,0,0,0⟩)):=by
  unfold z0o
  rw [hs,Bool.true_and,ask3,qof3]
 have hs4:1≤s∧s≤4∧1≤w∧w≤4:=by
  unfold z0i at hs
  simp only [Bool.and_eq_true,decide_eq_true_eq] at hs
  omega
 obtain⟨hs1,hs2,hs3,hs4⟩:=hs4
 have h2:ln≤1000∧tn≤1000∧wn≤1000:=⟨by omega,by omega,by omega⟩
 obtain⟨W2,hW2,hbx,hb2⟩:∃ W2,W.alloc (.cells #[.int .u8 3,.int .u32 od,.int .u8 po,.slice lp ln lcp,.slice tp tn tcp,.slice wp wn wcp,.int .u8 sk,.int .u8 fr,.int .u8 to,.int .i64 q] 26)=W2∧W2.heap[W.heap.size]?=some (.cells #[.int .u8 3,.int .u32 od,.int .u8 po,.slice lp ln lcp,.slice tp tn tcp,.slice wp wn wcp,.int .u8 sk,.int .u8 fr,.int .u8 to,.int .i64 q] 26 (0,0))∧Below W.heap.size W W2:=⟨_,rfl,z0d W _,(Below.refl _ _).alloc (Nat.le_refl _) _⟩
 have HW2:=hid hW2
 have HB2:=hid hb2
 have HX2:=hid hbx
 have hj:∀ w',Below W2.heap.size W2 w'→_:=fun w' h=>z6v 3 od po lp ln lcp tp tn tcp wp wn wcp sk fr to q 0 od 0 none 0 0 tp tn tcp none 0 0 0 0 0 0 L T M [] T [] w' ((hP.later hb2).later h) (have hP:=(hP.later hb2).later h;⟨SlG.empty _,hP.t,SlG.empty _⟩) h2 ⟨by omega,h2.2.1,by omega⟩
 have hq:∀ w',Below W2.heap.size W2 w'→_:=fun w' h=>goodmove_any s w 3 od po lp ln lcp tp tn tcp wp wn wcp sk fr to q L T M w' ((hw.later hb2).later h) ((hP.later hb2).later h) hok hs1 hs2 hs3 hs4 h1
 rw [hg]
 generalize (decide (od≠0) && z0r s w od T && decide (1≤T.length))=ex at *
 generalize decide ((⟨3,od,po,L,T,M,sk,fr,to,q⟩:Pg)=⟨3,od,0,[],T,[],0,0,0,0⟩)=dd at *
 have HJ:=hid hj
 have HQ:=hid hq
 have y1:decide (s<1)=false:=decide_eq_false (by omega)
 have y2:decide (4<s)=false:=decide_eq_false (by omega)
 have y3:decide (w<1)=false:=decide_eq_false (by omega)
 have y4:decide (4<w)=false:=decide_eq_false (by omega)
 clear hg hW2 hb2 hbx hj hq hP hok hw hs h1 h2
 obtain⟨a0,a1,a2,a3,a4,a5,a6,a7,a8,a9⟩:=z0e 3 od po lp ln lcp tp tn tcp wp wn wcp sk fr to q HX2.out
 go_enter Tryd.func38,Tryd.ntmps38
 go_wp2_with fail
 rw [HW2.out]
 refine (HJ.out W2 (Below.refl _ _)).mono ?_
 rintro e w0 ⟨rfl,hb⟩
 have HB3:=hid hb
 clear hb a0 a1 a2 a3 a4 a5 a6 a7 a8 a9
 obtain⟨a0,a1,a2,a3,a4,a5,a6,a7,a8,a9⟩:=z0e 3 od po lp ln lcp tp tn tcp wp wn wcp sk fr to q (z0a HX2.out HB3.out)
 cases dd with
 | false =>
  go_wp2_with fail
  go_ret
  exact⟨by rw [Bool.and_false];rfl,HB2.out.trans (HB3.out.mono HB2.out.size)⟩
 | true =>
  go_wp2_with fail
  refine (HQ.out w0 HB3.out).mono ?_
  rintro e w1 ⟨rfl,hb⟩
  have HB4:=hid (HB3.out.trans (hb.mono HB3.out.size))
  clear hb a0 a1 a2 a3 a4 a5 a6 a7 a8 a9
  go_wp2_with fail
  go_ret
  exact⟨by rw [Bool.and_true];rfl,HB2.out.trans (HB4.out.mono HB2.out.size)⟩
theorem good4_p (s w:Int) (od po:Int) (lp:Option Addr) (ln lcp:Nat) (tp:Option Addr) (tn tcp:Nat) (wp:Option Addr) (wn wcp:Nat) (sk fr to q:Int) (L:List Ln) (T:List Tk) (M:List Ln) (W:World) (hs:z0i s w=true) (hw:Words W) (hP:PgM W lp ln lcp L tp tn tcp T wp wn wcp M) (hok:Pgok ⟨4,od,po,L,T,M,sk,fr,to,q⟩) (h1:ln≤400∧tn≤400∧wn≤400) :
 Calls Tryd.prog 38 #[.int .i64 s,.int .i64 w,.agg #[.int .u8 4,.int .u32 od,.int .u8 po,.slice lp ln lcp,.slice tp tn tcp,.slice wp wn wcp,.int .u8 sk,.int .u8 fr,.int .u8 to,.int .i64 q]] W fun e w'=>e=.returned (.bool (z0o s w ⟨4,od,po,L,T,M,sk,fr,to,q⟩))∧Below W.heap.size W w':=by
 have hg:z0o s w ⟨4,od,po,L,T,M,sk,fr,to,q⟩=((decide (od≠0) && z0r s w od T && decide (1≤T.length)) && decide ((⟨4,od,po,L,T,M,sk,fr,to,q⟩:Pg)=⟨4,od,0,[],T,[],0,0,0,0⟩)):=by
  unfold z0o
  rw [hs,Bool.true_and,ask4,qof4]
 have hs4:1≤s∧s≤4∧1≤w∧w≤4:=by
  unfold z0i at hs
  simp only [Bool.and_eq_true,decide_eq_true_eq] at hs
  omega
 obtain⟨hs1,hs2,hs3,hs4⟩:=hs4
 have h2:ln≤1000∧tn≤1000∧wn≤1000:=⟨by omega,by omega,by omega⟩
 obtain⟨W2,hW2,hbx,hb2⟩:∃ W2,W.alloc (.cells #[.int .u8 4,.int .u32 od,.int .u8 po,.slice lp ln lcp,.slice tp tn tcp,.slice wp wn wcp,.int .u8 sk,.int .u8 fr,.int .u8 to,.int .i64 q] 26)=W2∧W2.heap[W.heap.size]?=some (.cells #[.int .u8 4,.int .u32 od,.int .u8 po,.slice lp ln lcp,.slice tp tn tcp,.slice wp wn wcp,.int .u8 sk,.int .u8 fr,.int .u8 to,.int .i64 q] 26 (0,0))∧Below W.heap.size W W2:=⟨_,rfl,z0d W _,(Below.refl _ _).alloc (Nat.le_refl _) _⟩
 have HW2:=hid hW2
 have HB2:=hid hb2
 have HX2:=hid hbx
 have hj:∀ w',Below W2.heap.size W2 w'→_:=fun w' h=>z6v 4 od po lp ln lcp tp tn tcp wp wn wcp sk fr to q 0 od 0 none 0 0 tp tn tcp none 0 0 0 0 0 0 L T M [] T [] w' ((hP.later hb2).later h) (have hP:=(hP.later hb2).later h;⟨SlG.empty _,hP.t,SlG.empty _⟩) h2 ⟨by omega,h2.2.1,by omega⟩
 have hq:∀ w',Below W2.heap.size W2 w'→_:=fun w' h=>goodmove_any s w 4 od po lp ln lcp tp tn tcp wp wn wcp sk fr to q L T M w' ((hw.later hb2).later h) ((hP.later hb2).later h) hok hs1 hs2 hs3 hs4 h1
 rw [hg]
 generalize (decide (od≠0) && z0r s w od T && decide (1≤T.length))=ex at *
 generalize decide ((⟨4,od,po,L,T,M,sk,fr,to,q⟩:Pg)=⟨4,od,0,[],T,[],0,0,0,0⟩)=dd at *
 have HJ:=hid hj
 have HQ:=hid hq
 have y1:decide (s<1)=false:=decide_eq_false (by omega)
 have y2:decide (4<s)=false:=decide_eq_false (by omega)
 have y3:decide (w<1)=false:=decide_eq_false (by omega)
 have y4:decide (4<w)=false:=decide_eq_false (by omega)
 clear hg hW2 hb2 hbx hj hq hP hok hw hs h1 h2
 obtain⟨a0,a1,a2,a3,a4,a5,a6,a7,a8,a9⟩:=z0e 4 od po lp ln lcp tp tn tcp wp wn wcp sk fr to q HX2.out
 go_enter Tryd.func38,Tryd.ntmps38
 go_wp2_with fail
 rw [HW2.out]
 refine (HJ.out W2 (Below.refl _ _)).mono ?_
 rintro e w0 ⟨rfl,hb⟩
 have HB3:=hid hb
 clear hb a0 a1 a2 a3 a4 a5 a6 a7 a8 a9
 obtain⟨a0,a1,a2,a3,a4,a5,a6,a7,a8,a9⟩:=z0e 4 od po lp ln lcp tp tn tcp wp wn wcp sk fr to q (z0a HX2.out HB3.out)
 cases dd with
 | false =>
  go_wp2_with fail
  go_ret
  exact⟨by rw [Bool.and_false];rfl,HB2.out.trans (HB3.out.mono HB2.out.size)⟩
 | true =>
  go_wp2_with fail
  refine (HQ.out w0 HB3.out).mono ?_
  rintro e w1 ⟨rfl,hb⟩
  have HB4:=hid (HB3.out.trans (hb.mono HB3.out.size))
  clear hb a0 a1 a2 a3 a4 a5 a6 a7 a8 a9
  go_wp2_with fail
  go_ret
  exact⟨by rw [Bool.and_true];rfl,HB2.out.trans (HB4.out.mono HB2.out.size)⟩
theorem good5_p (s w:Int) (od po:Int) (lp:Option Addr) (ln lcp:Nat) (tp:Option Addr) (tn tcp:Nat) (wp:Option Addr) (wn wcp:Nat) (sk fr to q:Int) (L:List Ln) (T:List Tk) (M:List Ln) (W:World) (hs:z0i s w=true) (hw:Words W) (hP:PgM W lp ln lcp L tp tn tcp T wp wn wcp M) (hok:Pgok ⟨5,od,po,L,T,M,sk,fr,to,q⟩) (h1:ln≤400∧tn≤400∧wn≤400) :
 Calls Tryd.prog 38 #[.int .i64 s,.int .i64 w,.agg #[.int .u8 5,.int .u32 od,.int .u8 po,.slice lp ln lcp,.slice tp tn tcp,.slice wp wn wcp,.int .u8 sk,.int .u8 fr,.int .u8 to,.int .i64 q]] W fun e w'=>e=.returned (.bool (z0o s w ⟨5,od,po,L,T,M,sk,fr,to,q⟩))∧Below W.heap.size W w':=by
 have hg:z0o s w ⟨5,od,po,L,T,M,sk,fr,to,q⟩=((decide (sk<s) && decide (to<w) && decide (1≤q) && z1w sk to q T) && decide ((⟨5,od,po,L,T,M,sk,fr,to,q⟩:Pg)=⟨5,0,0,[],T,[],sk,0,to,q⟩)):=by
  unfold z0o
  rw [hs,Bool.true_and,ask5,qof5]
 have hs4:1≤s∧s≤4∧1≤w∧w≤4:=by
  unfold z0i at hs
  simp only [Bool.and_eq_true,decide_eq_true_eq] at hs
  omega
 obtain⟨hs1,hs2,hs3,hs4⟩:=hs4
 have h2:ln≤1000∧tn≤1000∧wn≤1000:=⟨by omega,by omega,by omega⟩
 obtain⟨W2,hW2,hbx,hb2⟩:∃ W2,W.alloc (.cells #[.int .u8 5,.int .u32 od,.int .u8 po,.slice lp ln lcp,.slice tp tn tcp,.slice wp wn wcp,.int .u8 sk,.int .u8 fr,.int .u8 to,.int .i64 q] 26)=W2∧W2.heap[W.heap.size]?=some (.cells #[.int .u8 5,.int .u32 od,.int .u8 po,.slice lp ln lcp,.slice tp tn tcp,.slice wp wn wcp,.int .u8 sk,.int .u8 fr,.int .u8 to,.int .i64 q] 26 (0,0))∧Below W.heap.size W W2:=⟨_,rfl,z0d W _,(Below.refl _ _).alloc (Nat.le_refl _) _⟩
 have HW2:=hid hW2
 have HB2:=hid hb2
 have HX2:=hid hbx
 have hj:∀ w',Below W2.heap.size W2 w'→_:=fun w' h=>z6v 5 od po lp ln lcp tp tn tcp wp wn wcp sk fr to q 0 0 0 none 0 0 tp tn tcp none 0 0 sk 0 to q L T M [] T [] w' ((hP.later hb2).later h) (have hP:=(hP.later hb2).later h;⟨SlG.empty _,hP.t,SlG.empty _⟩) h2 ⟨by omega,h2.2.1,by omega⟩
 have hq:∀ w',Below W2.heap.size W2 w'→_:=fun w' h=>goodrestock_any s w 5 od po lp ln lcp tp tn tcp wp wn wcp sk fr to q L T M w' ((hw.later hb2).later h) ((hP.later hb2).later h) hok hs1 hs2 hs3 hs4 h1
 rw [hg]
 generalize (decide (sk<s) && decide (to<w) && decide (1≤q) && z1w sk to q T)=ex at *
 generalize decide ((⟨5,od,po,L,T,M,sk,fr,to,q⟩:Pg)=⟨5,0,0,[],T,[],sk,0,to,q⟩)=dd at *
 have HJ:=hid hj
 have HQ:=hid hq
 have y1:decide (s<1)=false:=decide_eq_false (by omega)
 have y2:decide (4<s)=false:=decide_eq_false (by omega)
 have y3:decide (w<1)=false:=decide_eq_false (by omega)
 have y4:decide (4<w)=false:=decide_eq_false (by omega)
 clear hg hW2 hb2 hbx hj hq hP hok hw hs h1 h2
 obtain⟨a0,a1,a2,a3,a4,a5,a6,a7,a8,a9⟩:=z0e 5 od po lp ln lcp tp tn tcp wp wn wcp sk fr to q HX2.out
 go_enter Tryd.func38,Tryd.ntmps38
 go_wp2_with fail
 rw [HW2.out]
 refine (HJ.out W2 (Below.refl _ _)).mono ?_
 rintro e w0 ⟨rfl,hb⟩
 have HB3:=hid hb
 clear hb a0 a1 a2 a3 a4 a5 a6 a7 a8 a9
 obtain⟨a0,a1,a2,a3,a4,a5,a6,a7,a8,a9⟩:=z0e 5 od po lp ln lcp tp tn tcp wp wn wcp sk fr to q (z0a HX2.out HB3.out)
 cases dd with
 | false =>
  go_wp2_with fail
  go_ret
  exact⟨by rw [Bool.and_false];rfl,HB2.out.trans (HB3.out.mono HB2.out.size)⟩
 | true =>
  go_wp2_with fail
  refine (HQ.out w0 HB3.out).mono ?_
  rintro e w1 ⟨rfl,hb⟩
  have HB4:=hid (HB3.out.trans (hb.mono HB3.out.size))
  clear hb a0 a1 a2 a3 a4 a5 a6 a7 a8 a9
  go_wp2_with fail
  go_ret
  exact⟨by rw [Bool.and_true];rfl,HB2.out.trans (HB4.out.mono HB2.out.size)⟩
theorem good6_p (s w:Int) (od po:Int) (lp:Option Addr) (ln lcp:Nat) (tp:Option Addr) (tn tcp:Nat) (wp:Option Addr) (wn wcp:Nat) (sk fr to q:Int) (L:List Ln) (T:List Tk) (M:List Ln) (W:World) (hs:z0i s w=true) (hw:Words W) (hP:PgM W lp ln lcp L tp tn tcp T wp wn wcp M) (hok:Pgok ⟨6,od,po,L,T,M,sk,fr,to,q⟩) (h1:ln≤400∧tn≤400∧wn≤400) :
 Calls Tryd.prog 38 #[.int .i64 s,.int .i64 w,.agg #[.int .u8 6,.int .u32 od,.int .u8 po,.slice lp ln lcp,.slice tp tn tcp,.slice wp wn wcp,.int .u8 sk,.int .u8 fr,.int .u8 to,.int .i64 q]] W fun e w'=>e=.returned (.bool (z0o s w ⟨6,od,po,L,T,M,sk,fr,to,q⟩))∧Below W.heap.size W w':=by
 have hg:z0o s w ⟨6,od,po,L,T,M,sk,fr,to,q⟩=((decide (sk<s) && decide (fr<w) && decide (to<w) && decide (fr≠to) && decide (1≤q)) && decide ((⟨6,od,po,L,T,M,sk,fr,to,q⟩:Pg)=⟨6,0,0,[],[],[],sk,fr,to,q⟩)):=by
  unfold z0o
  rw [hs,Bool.true_and,ask6,qof6]
 have hs4:1≤s∧s≤4∧1≤w∧w≤4:=by
  unfold z0i at hs
  simp only [Bool.and_eq_true,decide_eq_true_eq] at hs
  omega
 obtain⟨hs1,hs2,hs3,hs4⟩:=hs4
 have h2:ln≤1000∧tn≤1000∧wn≤1000:=⟨by omega,by omega,by omega⟩
 obtain⟨W2,hW2,hbx,hb2⟩:∃ W2,W.alloc (.cells #[.int .u8 6,.int .u32 od,.int .u8 po,.slice lp ln lcp,.slice tp tn tcp,.slice wp wn wcp,.int .u8 sk,.int .u8 fr,.int .u8 to,.int .i64 q] 26)=W2∧W2.heap[W.heap.size]?=some (.cells #[.int .u8 6,.int .u32 od,.int .u8 po,.slice lp ln lcp,.slice tp tn tcp,.slice wp wn wcp,.int .u8 sk,.int .u8 fr,.int .u8 to,.int .i64 q] 26 (0,0))∧Below W.heap.size W W2:=⟨_,rfl,z0d W _,(Below.refl _ _).alloc (Nat.le_refl _) _⟩
 have HW2:=hid hW2
 have HB2:=hid hb2
 have HX2:=hid hbx
 have hj:∀ w',Below W2.heap.size W2 w'→_:=fun w' h=>z6v 6 od po lp ln lcp tp tn tcp wp wn wcp sk fr to q 0 0 0 none 0 0 none 0 0 none 0 0 sk fr to q L T M [] [] [] w' ((hP.later hb2).later h) (have hP:=(hP.later hb2).later h;⟨SlG.empty _,SlG.empty _,SlG.empty _⟩) h2 ⟨by omega,by omega,by omega⟩
 have hq:∀ w',Below W2.heap.size W2 w'→_:=fun w' h=>goodtransfer_any s w 6 od po lp ln lcp tp tn tcp wp wn wcp sk fr to q L T M w' ((hw.later hb2).later h) ((hP.later hb2).later h) hok hs1 hs2 hs3 hs4 h1
 rw [hg]
 generalize (decide (sk<s) && decide (fr<w) && decide (to<w) && decide (fr≠to) && decide (1≤q))=ex at *
 generalize decide ((⟨6,od,po,L,T,M,sk,fr,to,q⟩:Pg)=⟨6,0,0,[],[],[],sk,fr,to,q⟩)=dd at *
 have HJ:=hid hj
 have HQ:=hid hq
 have y1:decide (s<1)=false:=decide_eq_false (by omega)
 have y2:decide (4<s)=false:=decide_eq_false (by omega)
 have y3:decide (w<1)=false:=decide_eq_false (by omega)
 have y4:decide (4<w)=false:=decide_eq_false (by omega)
 clear hg hW2 hb2 hbx hj hq hP hok hw hs h1 h2
 obtain⟨a0,a1,a2,a3,a4,a5,a6,a7,a8,a9⟩:=z0e 6 od po lp ln lcp tp tn tcp wp wn wcp sk fr to q HX2.out
 go_enter Tryd.func38,Tryd.ntmps38
 go_wp2_with fail
 rw [HW2.out]
 refine (HJ.out W2 (Below.refl _ _)).mono ?_
 rintro e w0 ⟨rfl,hb⟩
 have HB3:=hid hb
 clear hb a0 a1 a2 a3 a4 a5 a6 a7 a8 a9
 obtain⟨a0,a1,a2,a3,a4,a5,a6,a7,a8,a9⟩:=z0e 6 od po lp ln lcp tp tn tcp wp wn wcp sk fr to q (z0a HX2.out HB3.out)
 cases dd with
 | false =>
  go_wp2_with fail
  go_ret
  exact⟨by rw [Bool.and_false];rfl,HB2.out.trans (HB3.out.mono HB2.out.size)⟩
 | true =>
  go_wp2_with fail
  refine (HQ.out w0 HB3.out).mono ?_
  rintro e w1 ⟨rfl,hb⟩
  have HB4:=hid (HB3.out.trans (hb.mono HB3.out.size))
  clear hb a0 a1 a2 a3 a4 a5 a6 a7 a8 a9
  go_wp2_with fail
  go_ret
  exact⟨by rw [Bool.and_true];rfl,HB2.out.trans (HB4.out.mono HB2.out.size)⟩
theorem z5j (s w:Int) (k od po:Int) (lp:Option Addr) (ln lcp:Nat) (tp:Option Addr) (tn tcp:Nat) (wp:Option Addr) (wn wcp:Nat) (sk fr to q:Int) (L:List Ln) (T:List Tk) (M:List Ln) (W:World) (hw:Words W) (hP:PgM W lp ln lcp L tp tn tcp T wp wn wcp M) (hok:Pgok ⟨k,od,po,L,T,M,sk,fr,to,q⟩) (h1:ln≤400∧tn≤400∧wn≤400) :
 Calls Tryd.prog 38 #[.int .i64 s,.int .i64 w,.agg #[.int .u8 k,.int .u32 od,.int .u8 po,.slice lp ln lcp,.slice tp tn tcp,.slice wp wn wcp,.int .u8 sk,.int .u8 fr,.int .u8 to,.int .i64 q]] W fun e w'=>e=.returned (.bool (z0o s w ⟨k,od,po,L,T,M,sk,fr,to,q⟩))∧Below W.heap.size W w':=by
 have hb1:Below W.heap.size W (W.alloc (.cells #[.int .u8 k,.int .u32 od,.int .u8 po,.slice lp ln lcp,.slice tp tn tcp,.slice wp wn wcp,.int .u8 sk,.int .u8 fr,.int .u8 to,.int .i64 q] 26)):=(Below.refl _ _).alloc (Nat.le_refl _) _
 have HB:=hid hb1
 clear hb1
 by_cases y1:s<1
 · have HF:=hid (z1p (P:=⟨k,od,po,L,T,M,sk,fr,to,q⟩) (show z0i s w=false by unfold z0i;simp;omega))
   have z1:decide (s<1)=true:=decide_eq_true y1
   clear hP hok hw
   go_enter Tryd.func38,Tryd.ntmps38
   go_wp2_with fail
   go_ret
   exact⟨by rw [HF.out];rfl,HB.out⟩
 have z1:decide (s<1)=false:=decide_eq_false y1
 by_cases y2:4<s
 · have HF:=hid (z1p (P:=⟨k,od,po,L,T,M,sk,fr,to,q⟩) (show z0i s w=false by unfold z0i;simp;omega))
   have z2:decide (4<s)=true:=decide_eq_true y2
   clear hP hok hw
   go_enter Tryd.func38,Tryd.ntmps38
   go_wp2_with fail
   go_ret
   exact⟨by rw [HF.out];rfl,HB.out⟩
 have z2:decide (4<s)=false:=decide_eq_false y2
 by_cases y3:w<1
 · have HF:=hid (z1p (P:=⟨k,od,po,L,T,M,sk,fr,to,q⟩) (show z0i s w=false by unfold z0i;simp;omega))
   have z3:decide (w<1)=true:=decide_eq_true y3
   clear hP hok hw
   go_enter Tryd.func38,Tryd.ntmps38
   go_wp2_with fail
   go_ret
   exact⟨by rw [HF.out];rfl,HB.out⟩
 have z3:decide (w<1)=false:=decide_eq_false y3
 by_cases y4:4<w
 · have HF:=hid (z1p (P:=⟨k,od,po,L,T,M,sk,fr,to,q⟩) (show z0i s w=false by unfold z0i;simp;omega))
   have z4:decide (4<w)=true:=decide_eq_true y4
   clear hP hok hw
   go_enter Tryd.func38,Tryd.ntmps38
   go_wp2_with fail
   go_ret
   exact⟨by rw [HF.out];rfl,HB.out⟩
 have z4:decide (4<w)=false:=decide_eq_false y4
 have hs:z0i s w=true:=by unfold z0i;simp;omega
 by_cases k1:k=1
 · subst k1
   exact good1_p s w od po lp ln lcp tp tn tcp wp wn wcp sk fr to q L T M W hs hw hP hok h1
 by_cases k2:k=2
 · subst k2
   exact good2_p s w od po lp ln lcp tp tn tcp wp wn wcp sk fr to q L T M W hs hw hP hok h1
 by_cases k3:k=3
 · subst k3
   exact good3_p s w od po lp ln lcp tp tn tcp wp wn wcp sk fr to q L T M W hs hw hP hok h1
 by_cases k4:k=4
 · subst k4
   exact good4_p s w od po lp ln lcp tp tn tcp wp wn wcp sk fr to q L T M W hs hw hP hok h1
 by_cases k5:k=5
 · subst k5
   exact good5_p s w od po lp ln lcp tp tn tcp wp wn wcp sk fr to q L T M W hs hw hP hok h1
 by_cases k6:k=6
 · subst k6
   exact good6_p s w od po lp ln lcp tp tn tcp wp wn wcp sk fr to q L T M W hs hw hP hok h1
 have HF:=hid (z4o (s:=s) (w:=w) (P:=⟨k,od,po,L,T,M,sk,fr,to,q⟩) ⟨k1,k2,k3,k4,k5,k6⟩)
 have e1:(k==1)=false:=by simpa using k1
 have e2:(k==2)=false:=by simpa using k2
 have e3:(k==3)=false:=by simpa using k3
 have e4:(k==4)=false:=by simpa using k4
 have e5:(k==5)=false:=by simpa using k5
 have e6:(k==6)=false:=by simpa using k6
 clear hP hok hw k1 k2 k3 k4 k5 k6 hs
 go_enter Tryd.func38,Tryd.ntmps38
 go_wp2_with fail
 go_ret
 exact⟨by rw [HF.out];rfl,HB.out⟩
theorem FillS.lit {W w:World} {cs:Array Value} {H:List Hs} {S:List Stp} {m:Nat} (hb:Below W.heap.size W w) (hc:cs.toList=z0q sc H) (hm:H.length=m) (hbig:m≤1000) (hT:TellsAll w H S):FillS W (w.alloc (.cells cs 76)) (.slice (some ⟨w.heap.size,0,none⟩) m m) H S m:=by
 have hba:Below w.heap.size w (w.alloc (.cells cs 76)):=(Below.refl _ _).alloc (Nat.le_refl _) _
 have hs:cs.size=m*3:=by rw [← Array.length_toList,hc,z1o z6j,hm]
 have ho:=World.ownsRow_lit (e:=76) (base:=W.heap.size) (size:=3) w cs m hb.size (by unfold maxLen;omega) hs
 rw [hc] at ho
 refine⟨by rw [hm];exact ho,hb.trans (hba.mono hb.size),Nat.le_of_eq hm,hT.later hba,fun h hh h0 ad he hx=>?_⟩
 have:=z5a hT h hh h0 ad he
 have hx':w.heap.size=ad.block:=Option.some.inj hx
 omega
theorem owing_none (t:Int) (p:Option Addr) (c:Nat) (W:World):Calls Tryd.prog 68 #[.int .u8 t,.slice p (0:Nat) c] W fun e w'=>e=.returned (.slice none 0 0)∧Below W.heap.size W w':=by
 have d0:(((0:Nat):Int)==0)=true:=rfl
 go_enter Tryd.func68,Tryd.ntmps68
 go_wp2_with fail
 go_ret
 exact⟨rfl,Below.refl _ _⟩
theorem owing_some (t:Int) (p:Option Addr) (n c:Nat) (M:List Ln) (W:World) (hM:LL W p n c M) (h1:1≤n) (hn:n≤1000):Calls Tryd.prog 68 #[.int .u8 t,.slice p n c] W fun e w'=>∃ B p' c',e=.returned (.slice (some ⟨B,0,none⟩) 1 1)∧w'.heap[B]?=some (.cells #[.int .u8 t,.int .u8 0,.slice p' n c'] 76 (0,0))∧LL w' p' n c' M∧Below W.heap.size W w'∧∀ ad,p'=some ad→W.heap.size≤ad.block:=by
 have d0:((n:Int)==0)=false:=by simp;omega
 have hcl:=z7p p n c M W hM (by omega)
 have HLN:=hid hM.len
 have hcap:=hM.cap
 clear hM h1
 go_enter Tryd.func68,Tryd.ntmps68
 go_wp2_with fail
 refine hcl.mono ?_
 rintro e w2 ⟨v,rfl,hf⟩
 obtain⟨p',c',hv,hl,hb,ha⟩:=hf.gives (d:=l0) z5h (by decide)
 cases hv
 rw [HLN.out] at hl ⊢
 have hba:Below w2.heap.size w2 (w2.alloc (.cells #[.int .u8 t,.int .u8 0,.slice p' n c'] 76)):=(Below.refl _ _).alloc (Nat.le_refl _) _
 have HL:=hid (hl.later hba)
 have HB:=hid (hb.trans (hba.mono hb.size))
 have HX:=hid (z0d w2 (.cells #[.int .u8 t,.int .u8 0,.slice p' n c'] 76))
 have HA:=hid ha
 clear hcl hf hl hb ha hba
 go_wp2_with fail
 go_ret
 exact⟨_,p',c',rfl,HX.out,HL.out,HB.out,HA.out⟩
theorem allT_named {od po:Int} {L:List Ln} {T:List Tk} {M:List Ln} {sk fr to q:Int} (h:z0o 4 4 ⟨5,od,po,L,T,M,sk,fr,to,q⟩=true):z1d (allT T)=z0x T [] sk:=by
 have h2:(z0i 4 4 && askP 4 4 ⟨5,od,po,L,T,M,sk,fr,to,q⟩ && decide ((⟨5,od,po,L,T,M,sk,fr,to,q⟩:Pg)=qofP ⟨5,od,po,L,T,M,sk,fr,to,q⟩))=true:=h
 rw [ask5] at h2
 simp only [Bool.and_eq_true] at h2
 exact (z6n T sk (fills_sku h2.1.2.2)).symm
theorem restock_any (od po:Int) (lp:Option Addr) (ln lcp:Nat) (tp:Option Addr) (tn tcp:Nat) (wp:Option Addr) (wn wcp:Nat) (sk fr to q:Int) (L:List Ln) (T:List Tk) (M:List Ln) (W:World) (hP:PgM W lp ln lcp L tp tn tcp T wp wn wcp M) (hok:Pgok ⟨5,od,po,L,T,M,sk,fr,to,q⟩) (h1:ln≤400∧tn≤400∧wn≤400) (hg:z0o 4 4 ⟨5,od,po,L,T,M,sk,fr,to,q⟩=true) :
 Calls Tryd.prog 69 #[.agg #[.int .u8 5,.int .u32 od,.int .u8 po,.slice lp ln lcp,.slice tp tn tcp,.slice wp wn wcp,.int .u8 sk,.int .u8 fr,.int .u8 to,.int .i64 q]] W (GivesS W (z0l ⟨5,od,po,L,T,M,sk,fr,to,q⟩)):=by
 rw [z5p od po L T M sk fr to q hg]
 have hzz:=z8b od po L T M sk fr to q hg
 have hta:=together_any tp tn tcp T
 rw [allT_named hg] at hta
 obtain⟨R,hR⟩:∃ R,(if 1≤T.length then [((1:Int),to,[(sk,z0x T [] sk)]),(8,0,[(sk,z0x T [] sk)])] else [])=R:=⟨_,rfl⟩
 rw [hR]
 have HRR:=hid hR
 clear hR
 obtain⟨W1,hW1,hbx,hb1⟩:∃ W1,W.alloc (.cells #[.int .u8 5,.int .u32 od,.int .u8 po,.slice lp ln lcp,.slice tp tn tcp,.slice wp wn wcp,.int .u8 sk,.int .u8 fr,.int .u8 to,.int .i64 q] 26)=W1∧W1.heap[W.heap.size]?=some (.cells #[.int .u8 5,.int .u32 od,.int .u8 po,.slice lp ln lcp,.slice tp tn tcp,.slice wp wn wcp,.int .u8 sk,.int .u8 fr,.int .u8 to,.int .i64 q] 26 (0,0))∧Below W.heap.size W W1:=⟨_,rfl,z0d W _,(Below.refl _ _).alloc (Nat.le_refl _) _⟩
 have HW1:=hid hW1
 have HB1:=hid hb1
 have HX:=hid hbx
 have HT:=hid (hP.later hb1).t
 have HTOK:=hid hok.takes
 have HLT:=hid hP.t.len
 have HTA:=hid hta
 have hcap:=hP.t.cap
 obtain⟨_,h12,_⟩:=h1
 have HC:=hid fun w' (h:Below W1.heap.size W1 w')=>z0e 5 od po lp ln lcp tp tn tcp wp wn wcp sk fr to q (z0a HX.out h)
 obtain⟨a0,a1,a2,a3,a4,a5,a6,a7,a8,a9⟩:=HC.out W1 (Below.refl _ _)
 clear hW1 hb1 hbx hP hok hta hg
 go_enter Tryd.func69,Tryd.ntmps69
 go_wp2_with fail
 rw [HW1.out]
 refine (z4g 5 to sk q W1).mono ?_
 rintro e w3 ⟨p3,c3,rfl,hl3,hb3,ha3⟩
 simp only [List.length_cons,List.length_nil,Nat.zero_add] at hl3 ⊢
 have HF4:=hid (FillS.lit (m:=1) (cs:=#[.int .u8 5,.int .u8 to,.slice p3 1 c3]) (H:=[hsOf 5 to p3 1 c3]) (S:=[(5,to,[(sk,q)])]) hb3 rfl rfl (by omega) ⟨⟨rfl,rfl,hl3⟩,trivial⟩)
 generalize hw4:w3.alloc (.cells #[.int .u8 5,.int .u8 to,.slice p3 1 c3] 76)=w4 at *
 have HW4:=hid hw4
 clear hl3 hb3 ha3 hw4 a0 a1 a2 a3 a4 a5 a6 a7 a8 a9
 obtain⟨a0,a1,a2,a3,a4,a5,a6,a7,a8,a9⟩:=HC.out w4 HF4.out.below
 by_cases ht:1≤tn
 case neg =>
  obtain rfl:tn=0:=by omega
  have d1:(((0:Nat):Int)==0)=true:=rfl
  have hR:=HRR.out
  rw [if_neg (by rw [HLT.out];exact ht)] at hR
  subst hR
  go_upto_region 2 with (fail)
  rw [HW4.out]
  go_wp2_with fail
  go_ret
  exact (HF4.out.gives).since HB1.out
 have d1:((tn:Int)==0)=false:=by simp;omega
 have hR:=HRR.out
 rw [if_pos (by rw [HLT.out];exact ht)] at hR
 have HR2:=hid hR
 have hta:=HTA.out w4 (HT.out.later HF4.out.below) HTOK.out (by omega)
 rw [z4r _ ((z3g _).1 hzz),hzz] at hta
 clear hR HRR ht
 generalize z0x T [] sk=z at *
 go_upto_region 2 with (fail)
 rw [HW4.out]
 go_wp2_with fail
 refine hta.mono ?_
 rintro e w5 ⟨rfl,h5⟩
 have HF5:=hid (HF4.out.later h5)
 clear hta h5 a0 a1 a2 a3 a4 a5 a6 a7 a8 a9
 have hbd:Below W1.heap.size W1 w5.drew:=HF5.out.below.drew
 have HF6:=hid (HF5.out.later (show Below w5.heap.size w5 w5.drew from (Below.refl _ _).drew))
 obtain⟨x4,hx4⟩:∃ x4:Nat,w3.heap.size=x4:=⟨_,rfl⟩
 rw [hx4] at HF5 HF6 ⊢
 clear hx4 HF4 HW4
 go_wp2_with fail
 refine wp_region_held_drew (S:=fun w'=>Hid (Below W1.heap.size W1 w')) (by kernel_rfl) (hid hbd) (fun hHeld=>?_)
 clear hbd
 refine wpAnyH_take (i:=0) (oi:=⟨some 25,_,_,_,_,_⟩) (v:=.slice (some ⟨x4,0,none⟩) 1 1) rfl (by kernel_rfl) (by kernel_rfl) (by kernel_rfl) (fun _ _ _ h=>h) (Or.inl ⟨by rfl,fun w' hw'=>?_⟩) (by assumption) ?_
 · clear hHeld
   go_simp
 simp only [Act.put,sIB,sCZ,sCS]
 refine wpAnyH_take (i:=1) (oi:=⟨some 26,_,_,_,_,_⟩) (v:=.pointer (some ⟨W.heap.size,8,none⟩)) rfl (by kernel_rfl) (by kernel_rfl) (by kernel_rfl) (fun _ _ _ h=>h) (Or.inl ⟨by rfl,fun w' hw'=>?_⟩) (by assumption) ?_
 · clear hHeld
   go_simp
 simp only [Act.put,sIB,sCZ,sCS]
 refine wpAnyH_take (i:=2) (oi:=⟨some 27,_,_,_,_,_⟩) (v:=.int .u8 to) rfl (by kernel_rfl) (by kernel_rfl) (by kernel_rfl) (fun _ _ _ h=>h) (Or.inl ⟨by rfl,fun w' hw'=>?_⟩) (by assumption) ?_
 · obtain⟨g0,g1,g2,g3,g4,g5,g6,g7,g8,g9⟩:=HC.out w' hw'.out
   clear hHeld
   go_simp
 simp only [Act.put,sIB,sCZ,sCS]
 refine wpAnyH_take (i:=3) (oi:=⟨some 28,_,_,_,_,_⟩) (v:=.pointer (some ⟨W.heap.size,6,none⟩)) rfl (by kernel_rfl) (by kernel_rfl) (by kernel_rfl) (fun _ _ _ h=>h) (Or.inl ⟨by rfl,fun w' hw'=>?_⟩) (by assumption) ?_
 · clear hHeld
   go_simp
 simp only [Act.put,sIB,sCZ,sCS]
 refine wpAnyH_take (i:=4) (oi:=⟨some 29,_,_,_,_,_⟩) (v:=.int .u8 sk) rfl (by kernel_rfl) (by kernel_rfl) (by kernel_rfl) (fun _ _ _ h=>h) (Or.inl ⟨by rfl,fun w' hw'=>?_⟩) (by assumption) ?_
 · obtain⟨g0,g1,g2,g3,g4,g5,g6,g7,g8,g9⟩:=HC.out w' hw'.out
   clear hHeld
   go_simp
 simp only [Act.put,sIB,sCZ,sCS]
 refine wpAnyH_take (i:=5) (oi:=⟨some 30,_,_,_,_,_⟩) (v:=.int .i64 z) rfl (by kernel_rfl) (by kernel_rfl) (by kernel_rfl) (fun _ _ _ h=>h) (Or.inl ⟨by rfl,fun w' hw'=>?_⟩) (by assumption) ?_
 · clear hHeld
   go_simp
 simp only [Act.put,sIB,sCZ,sCS]
 refine wpAnyH_take (i:=7) (oi:=⟨some 32,_,_,_,_,_⟩) (v:=.pointer (some ⟨W.heap.size,6,none⟩)) rfl (by kernel_rfl) (by kernel_rfl) (by kernel_rfl) (fun _ _ _ h=>h) (Or.inl ⟨by rfl,fun w' hw'=>?_⟩) (by assumption) ?_
 · clear hHeld
   go_simp
 simp only [Act.put,sIB,sCZ,sCS]
 refine wpAnyH_take (i:=8) (oi:=⟨some 33,_,_,_,_,_⟩) (v:=.int .u8 sk) rfl (by kernel_rfl) (by kernel_rfl) (by kernel_rfl) (fun _ _ _ h=>h) (Or.inl ⟨by rfl,fun w' hw'=>?_⟩) (by assumption) ?_
 · obtain⟨g0,g1,g2,g3,g4,g5,g6,g7,g8,g9⟩:=HC.out w' hw'.out
   clear hHeld
   go_simp
 simp only [Act.put,sIB,sCZ,sCS]
 refine wpAnyH_take (i:=9) (oi:=⟨some 34,_,_,_,_,_⟩) (v:=.int .i64 z) rfl (by kernel_rfl) (by kernel_rfl) (by kernel_rfl) (fun _ _ _ h=>h) (Or.inl ⟨by rfl,fun w' hw'=>?_⟩) (by assumption) ?_
 · clear hHeld
   go_simp
 simp only [Act.put,sIB,sCZ,sCS]
 generalize w5.drew=Wd at *
 refine wpAnyH_ready (rs:=[6]) (by kernel_rfl) (by simp) (AllReadyH.cons rfl (fun K hK=>?_) AllReadyH.nil)
 go_simp
 go_wp2_with fail
 refine (z4g 1 to sk z _).mono ?_
 rintro e x7 ⟨p7,c7,rfl,hl7,hb7,ha7⟩
 have hH7:Hid (Below W1.heap.size W1 x7):=hid (hHeld.out.trans (hb7.mono hHeld.out.size))
 have HL7:=hid hl7
 have HAP7:=hid ha7
 have HBB7:=hid hb7
 clear hl7 hb7 ha7
 go_wp2_with fail
 refine hK.out _ _ hH7 (fun hHeld2=>?_)
 clear hH7
 clear hK K hHeld
 have hHeld:=hHeld2
 clear hHeld2
 try simp only [Act.put,sIB,sCZ,sCS]
 have HF7:=hid (HF6.out.later HBB7.out)
 refine wpAnyH_ready (rs:=[10]) (by kernel_rfl) (by simp) (AllReadyH.cons rfl (fun K hK=>?_) AllReadyH.nil)
 go_simp
 go_wp2_with fail
 refine (z4g 8 0 sk z _).mono ?_
 rintro e x8 ⟨p8,c8,rfl,hl8,hb8,ha8⟩
 have hH8:Hid (Below W1.heap.size W1 x8):=hid (hHeld.out.trans (hb8.mono hHeld.out.size))
 have HL8:=hid hl8
 have HAP8:=hid ha8
 have HBB8:=hid hb8
 clear hl8 hb8 ha8
 go_wp2_with fail
 refine hK.out _ _ hH8 (fun hHeld2=>?_)
 clear hH8
 clear hK K hHeld
 have hHeld:=hHeld2
 clear hHeld2
 try simp only [Act.put,sIB,sCZ,sCS]
 have HF8:=hid (HF7.out.later HBB8.out)
 refine wpAnyH_ready (rs:=[11]) (by kernel_rfl) (by simp) (AllReadyH.cons rfl (fun K hK=>?_) AllReadyH.nil)
 go_simp
 have hba:Below x8.heap.size x8 (x8.alloc (.cells #[.int .u8 1,.int .u8 to,.slice p7 1 c7,.int .u8 8,.int .u8 0,.slice p8 1 c8] 76)):=(Below.refl _ _).alloc (Nat.le_refl _) _
 have hT:TellsAll (x8.alloc (.cells #[.int .u8 1,.int .u8 to,.slice p7 1 c7,.int .u8 8,.int .u8 0,.slice p8 1 c8] 76)) [hsOf 1 to p7 1 c7,hsOf 8 0 p8 1 c8] [(1,to,[(sk,z)]),(8,0,[(sk,z)])]:=⟨⟨rfl,rfl,(HL7.out.later HBB8.out).later hba⟩,⟨rfl,rfl,HL8.out.later hba⟩,trivial⟩
 have HT9:=hid hT
 have HF9:=hid (HF8.out.later hba)
 have HNW:=hid (z1y (H:=[hsOf 1 to p7 1 c7,hsOf 8 0 p8 1 c8]) (z0d x8 (.cells #[.int .u8 1,.int .u8 to,.slice p7 1 c7,.int .u8 8,.int .u8 0,.slice p8 1 c8] 76)) rfl)
 have hH9:Hid (Below W1.heap.size W1 (x8.alloc (.cells #[.int .u8 1,.int .u8 to,.slice p7 1 c7,.int .u8 8,.int .u8 0,.slice p8 1 c8] 76))):=hid (hHeld.out.trans (hba.mono hHeld.out.size))
 have HAA:Hid (∀ h ∈ [hsOf 1 to p7 1 c7,hsOf 8 0 p8 1 c8],0<h.2.2.2.1→∀ ad,h.2.2.1=some ad→(Value.slice (some ⟨x4,0,none⟩) 1 1).ownBlock≠some ad.block):=hid fun h hh h0 ad he hb=>by
  have hlt:=(HF6.out.own.lt ad.block hb).2
  simp only [List.mem_cons,List.not_mem_nil,or_false] at hh
  rcases hh with rfl | rfl
  · have:=HAP7.out ad he
    omega
  · have:=HAP8.out ad he
    have:=HBB7.out.size
    omega
 clear hT hba
 refine hK.out _ _ hH9 (fun hHeld2=>?_)
 clear hH9
 clear hK K hHeld
 have hHeld:=hHeld2
 clear hHeld2
 try simp only [Act.put,sIB,sCZ,sCS]
 refine wpAnyH_ready (rs:=[12]) (by kernel_rfl) (by simp) (AllReadyH.cons rfl (fun K hK=>?_) AllReadyH.nil)
 refine z1r rfl (.tmp 25) (.tmp 36) rfl (.slice (some ⟨x4,0,none⟩) 1 1) _ _ _ (by simp [Act.eval]) HF9.out x8.heap.size 2 [hsOf 1 to p7 1 c7,hsOf 8 0 p8 1 c8] [(1,to,[(sk,z)]),(8,0,[(sk,z)])] (by simp [Act.eval]) rfl HNW.out HT9.out HAA.out (by omega) ?_
 intro p6 n6 c6 x6 h6
 have HFA:=hid h6
 have hH6:Hid (Below W1.heap.size W1 x6):=hid h6.below
 clear h6
 refine hK.out _ _ hH6 (fun hHeld2=>?_)
 clear hH6
 clear hK K hHeld
 have hHeld:=hHeld2
 clear hHeld2
 try simp only [Act.put,sIB,sCZ,sCS]
 refine wpAnyH_take (i:=13) (oi:=⟨some 2,_,_,_,_,_⟩) (v:=.slice p6 n6 c6) rfl (by kernel_rfl) (by kernel_rfl) (by kernel_rfl) (fun _ _ _ h=>h) (Or.inl ⟨by rfl,fun w' hw'=>?_⟩) (by assumption) ?_
 · clear hHeld
   go_simp
 simp only [Act.put,sIB,sCZ,sCS]
 refine wpAnyH_done (by kernel_rfl) ?_ _
 clear hHeld
 go_wp2_with fail
 go_ret
 have hfin:=HFA.out.gives
 rw [HR2.out] at hfin
 have hfin2:=hfin.since HB1.out
 clear hfin
 first | exact hfin2 | (simp only [sCZ,sCS];exact hfin2) | (simp;exact hfin2)
end Go.Proofs.YtnpjpelbcmgodaaDoor
