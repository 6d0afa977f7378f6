import Derived.Test.YtnpjpelbcmgodaaDoorPE99
import Derived.Test.YtnpjpelbcmgodaaDoorPE28
namespace Go.Proofs.YtnpjpelbcmgodaaDoor
open Go.Lib (hid)
set_option maxHeartbeats 8000000
open Go.RowKit Go.ChangeShapes Go.WideShapes
set_option linter.unusedVariables false
set_option linter.unusedSimpArgs false
set_option maxRecDepth 10000
theorem z6v (k od po:Int) (lp:Option Addr) (ln lcp:Nat) (tp:Option Addr) (tn tcp:Nat) (wp:Option Addr) (wn wcp:Nat) (sk fr to q:Int) (k' od' po':Int) (lp':Option Addr) (ln' lcp':Nat) (tp':Option Addr) (tn' tcp':Nat) (wp':Option Addr) (wn' wcp':Nat) (sk' fr' to' q':Int) (L:List Ln) (T:List Tk) (M:List Ln) (L':List Ln) (T':List Tk) (M':List Ln) (W:World) (hP:PgM W lp ln lcp L tp tn tcp T wp wn wcp M) (hP':PgM W lp' ln' lcp' L' tp' tn' tcp' T' wp' wn' wcp' M') (h1:ln≤1000∧tn≤1000∧wn≤1000) (h2:ln'≤1000∧tn'≤1000∧wn'≤1000) :
 Calls Tryd.prog 61 #[.agg #[.int .u8 k,.int .u32 od,.int .u8 po,.slice lp ln lcp,.slice tp tn tcp,.slice wp wn wcp,.int .u8 sk,.int .u8 fr,.int .u8 to,.int .i64 q],.agg #[.int .u8 k',.int .u32 od',.int .u8 po',.slice lp' ln' lcp',.slice tp' tn' tcp',.slice wp' wn' wcp',.int .u8 sk',.int .u8 fr',.int .u8 to',.int .i64 q']] W fun e w'=>e=.returned (.bool (decide ((⟨k,od,po,L,T,M,sk,fr,to,q⟩:Pg)=⟨k,od',po',L',T',M',sk',fr',to',q'⟩)))∧Below W.heap.size W w':=by
 obtain⟨W2,hW2,b0,b1,hb⟩:=z2j W #[.int .u8 k,.int .u32 od,.int .u8 po,.slice lp ln lcp,.slice tp tn tcp,.slice wp wn wcp,.int .u8 sk,.int .u8 fr,.int .u8 to,.int .i64 q] #[.int .u8 k',.int .u32 od',.int .u8 po',.slice lp' ln' lcp',.slice tp' tn' tcp',.slice wp' wn' wcp',.int .u8 sk',.int .u8 fr',.int .u8 to',.int .i64 q']
 have HW:=hid hW2
 have hb3:Below W.heap.size W (W2.setCell ⟨W.heap.size+1,0,none⟩ (.int .u8 k)):=hb.setCell (by show W.heap.size≤W.heap.size+1;omega) _
 have hx1:=z2k 0 (.int .u8 k) b1
 have hx0:(W2.setCell ⟨W.heap.size+1,0,none⟩ (.int .u8 k)).heap[W.heap.size]?=_:=(Below.heap_setCell _ _ _ _ (by show W.heap.size≠W.heap.size+1;omega)).trans b0
 simp only [sIB,sCZ] at hx1
 have hfz:=z2f 0 b1
 obtain⟨c0,c1,c2,c3,c4,c5,c6,c7,c8,c9⟩:=z0e k od po lp ln lcp tp tn tcp wp wn wcp sk fr to q b0
 obtain⟨d0,d1,d2,d3,d4,d5,d6,d7,d8,d9⟩:=z0e k' od' po' lp' ln' lcp' tp' tn' tcp' wp' wn' wcp' sk' fr' to' q' b1
 obtain⟨a0,a1,a2,a3,a4,a5,a6,a7,a8,a9⟩:=z0e k od po lp ln lcp tp tn tcp wp wn wcp sk fr to q hx0
 obtain⟨e0,e1,e2,e3,e4,e5,e6,e7,e8,e9⟩:=z0e k od' po' lp' ln' lcp' tp' tn' tcp' wp' wn' wcp' sk' fr' to' q' hx1
 have hs:=same_p k od po lp ln lcp tp tn tcp wp wn wcp sk fr to q k od' po' lp' ln' lcp' tp' tn' tcp' wp' wn' wcp' sk' fr' to' q' L T M L' T' M' (W2.setCell ⟨W.heap.size+1,0,none⟩ (.int .u8 k)) (hP.later hb3) (hP'.later hb3) h1 h2
 generalize decide ((⟨k,od,po,L,T,M,sk,fr,to,q⟩:Pg)=⟨k,od',po',L',T',M',sk',fr',to',q'⟩)=bb at *
 have HS:=hid hs
 have HB:=hid hb3
 clear hs hb3 hx1 hx0 b0 b1 hW2 hb hP hP' h1 h2
 go_enter Tryd.func61,Tryd.ntmps61
 go_upto_region 1 with (fail)
 rw [HW.out]
 go_wp2_with fail
 refine HS.out.mono ?_
 rintro e w3 ⟨rfl,hb3⟩
 have HB3:=hid (HB.out.trans (hb3.mono HB.out.size))
 clear hb3 c0 c1 c2 c3 c4 c5 c6 c7 c8 c9 d0 d1 d2 d3 d4 d5 d6 d7 d8 d9 a0 a1 a2 a3 a4 a5 a6 a7 a8 a9 e0 e1 e2 e3 e4 e5 e6 e7 e8 e9
 go_wp2_with fail
 go_ret
 exact⟨rfl,HB3.out⟩
theorem goodplace_any (s w:Int) (k od po:Int) (lp:Option Addr) (ln lcp:Nat) (tp:Option Addr) (tn tcp:Nat) (wp:Option Addr) (wn wcp:Nat) (sk fr to q:Int) (L:List Ln) (T:List Tk) (M:List Ln) (W:World) (hw:Words W) (hP:PgM W lp ln lcp L tp tn tcp T wp wn wcp M) (hok:Pgok ⟨k,od,po,L,T,M,sk,fr,to,q⟩) (h1:1≤s) (h4:s≤4) (hw1:1≤w) (hw4:w≤4) (hn:ln≤400∧tn≤400∧wn≤400) :
 Calls Tryd.prog 62 #[.int .i64 s,.int .i64 w,.agg #[.int .u8 k,.int .u32 od,.int .u8 po,.slice lp ln lcp,.slice tp tn tcp,.slice wp wn wcp,.int .u8 sk,.int .u8 fr,.int .u8 to,.int .i64 q]] W fun e w'=>e=.returned (.bool (decide (od≠0) && decide (po≤1) && decide (1≤L.length) && z0n s L && z0r s w od T && z0n s M && z2a T M L && (decide (po=0) || decide (M.length=0))))∧Below W.heap.size W w':=by
 obtain⟨W2,hW2,hbx,hb2⟩:∃ W2,W.alloc (.cells #[.int .u8 k,.int .u32 od,.int .u8 po,.slice lp ln lcp,.slice tp tn tcp,.slice wp wn wcp,.int .u8 sk,.int .u8 fr,.int .u8 to,.int .i64 q] 26)=W2∧W2.heap[W.heap.size]?=some (.cells #[.int .u8 k,.int .u32 od,.int .u8 po,.slice lp ln lcp,.slice tp tn tcp,.slice wp wn wcp,.int .u8 sk,.int .u8 fr,.int .u8 to,.int .i64 q] 26 (0,0))∧Below W.heap.size W W2:=⟨_,rfl,z0d W _,(Below.refl _ _).alloc (Nat.le_refl _) _⟩
 have HW2:=hid hW2
 have HB2:=hid hb2
 have HX2:=hid hbx
 have HP2:=hid (hP.later hb2)
 have HV2:=hid (hw.later hb2)
 have HBI:Hid (Below W2.heap.size W2 W2):=hid (Below.refl _ _)
 have HLL:=hid hP.l.len
 have HLT:=hid hP.t.len
 have HLM:=hid hP.o.len
 have HOK:=hid hok
 obtain⟨hn1,hn2,hn3⟩:=hn
 have hsk:0≤sk∧sk≤255:=hok.sku
 have hfr:0≤fr∧fr≤255:=hok.frm
 have hto:0≤to∧to≤255:=hok.to
 have hpo:0≤po∧po≤255:=hok.policy
 have x6:IntKind.i64.wrap sk=sk:=IntWalk.i64_in _ (by omega)
 have x7:IntKind.i64.wrap fr=fr:=IntWalk.i64_in _ (by omega)
 have x8:IntKind.i64.wrap to=to:=IntWalk.i64_in _ (by omega)
 obtain⟨res,hg⟩:∃ res,res=(decide (od≠0) && decide (po≤1) && decide (1≤L.length) && z0n s L && z0r s w od T && z0n s M && z2a T M L && (decide (po=0) || decide (M.length=0))):=⟨_,rfl⟩
 have HG:=hid hg
 rw [← hg]
 clear hg hW2 hb2 hbx hP hok hw hsk hfr hto hpo
 obtain⟨a0,a1,a2,a3,a4,a5,a6,a7,a8,a9⟩:=z0e k od po lp ln lcp tp tn tcp wp wn wcp sk fr to q HX2.out
 go_enter Tryd.func62,Tryd.ntmps62
 by_cases t1:od≠0
 case neg =>
  have f1:(od==0)=true:=by simpa using t1
  have f1n:(od != 0)=false:=by simpa using t1
  have HF:Hid (res=false):=hid (by rw [HG.out];rw [decide_eq_false (show ¬ od≠0 by exact t1)];simp)
  go_wp2_with fail
  go_ret
  rw [HW2.out]
  exact⟨by rw [HF.out];rfl,HB2.out.trans (HBI.out.mono HB2.out.size)⟩
 have f1:(od==0)=false:=by simpa using t1
 have f1n:(od != 0)=true:=by simpa using t1
 by_cases t2:po≤1
 case neg =>
  have f2:(po != 0)=true:=by simp;omega
  have f3:(po != 1)=true:=by simp;omega
  have HF:Hid (res=false):=hid (by rw [HG.out];rw [decide_eq_false (show ¬ po≤1 by exact t2)];simp)
  go_wp2_with fail
  go_ret
  rw [HW2.out]
  exact⟨by rw [HF.out];rfl,HB2.out.trans (HBI.out.mono HB2.out.size)⟩
 by_cases p0:po=0
 case pos =>
  have f2:(po != 0)=false:=by simp [p0]
  have f3:(po != 1)=true:=by simp [p0]
  have HP0:=hid p0
  clear p0
  by_cases t3:1≤ln
  case neg =>
   have f4:((ln:Int)==0)=true:=by simp;omega
   have HF:Hid (res=false):=hid (by rw [HG.out];rw [decide_eq_false (show ¬ 1≤L.length by rw [HLL.out];exact t3)];simp)
   go_wp2_with fail
   go_ret
   rw [HW2.out]
   exact⟨by rw [HF.out];rfl,HB2.out.trans (HBI.out.mono HB2.out.size)⟩
  have f4:((ln:Int)==0)=false:=by simp;omega
  go_wp2_with fail
  rw [HW2.out]
  refine (z2c s lp ln lcp L W2 (HV2.out.later HBI.out) (HP2.out.later HBI.out).l HOK.out.lines h1 h4 (by omega)).mono ?_
  rintro e w0 ⟨rfl,hb⟩
  have HB3:=hid (HBI.out.trans (hb.mono HBI.out.size))
  clear hb a0 a1 a2 a3 a4 a5 a6 a7 a8 a9
  obtain⟨a0,a1,a2,a3,a4,a5,a6,a7,a8,a9⟩:=z0e k od po lp ln lcp tp tn tcp wp wn wcp sk fr to q (z0a HX2.out HB3.out)
  cases t4:z0n s L
  case false =>
   have HF:Hid (res=false):=hid (by rw [HG.out];rw [t4];simp)
   go_wp2_with fail
   go_ret
   exact⟨by rw [HF.out];rfl,HB2.out.trans (HB3.out.mono HB2.out.size)⟩
  go_wp2_with fail
  refine (z2p s w k od po lp ln lcp tp tn tcp wp wn wcp sk fr to q T w0 (HV2.out.later HB3.out) (HP2.out.later HB3.out).t HOK.out.takes h1 h4 hw1 hw4 (by omega)).mono ?_
  rintro e w1 ⟨rfl,hb⟩
  have HB4:=hid (HB3.out.trans (hb.mono HB3.out.size))
  clear hb a0 a1 a2 a3 a4 a5 a6 a7 a8 a9
  obtain⟨a0,a1,a2,a3,a4,a5,a6,a7,a8,a9⟩:=z0e k od po lp ln lcp tp tn tcp wp wn wcp sk fr to q (z0a HX2.out HB4.out)
  cases t5:z0r s w od T
  case false =>
   have HF:Hid (res=false):=hid (by rw [HG.out];rw [t5];simp)
   go_wp2_with fail
   go_ret
   exact⟨by rw [HF.out];rfl,HB2.out.trans (HB4.out.mono HB2.out.size)⟩
  go_wp2_with fail
  refine (z2c s wp wn wcp M w1 (HV2.out.later HB4.out) (HP2.out.later HB4.out).o HOK.out.owes h1 h4 (by omega)).mono ?_
  rintro e w2 ⟨rfl,hb⟩
  have HB5:=hid (HB4.out.trans (hb.mono HB4.out.size))
  clear hb a0 a1 a2 a3 a4 a5 a6 a7 a8 a9
  obtain⟨a0,a1,a2,a3,a4,a5,a6,a7,a8,a9⟩:=z0e k od po lp ln lcp tp tn tcp wp wn wcp sk fr to q (z0a HX2.out HB5.out)
  cases t6:z0n s M
  case false =>
   have HF:Hid (res=false):=hid (by rw [HG.out];rw [t6];simp)
   go_wp2_with fail
   go_ret
   exact⟨by rw [HF.out];rfl,HB2.out.trans (HB5.out.mono HB2.out.size)⟩
  go_wp2_with fail
  refine (served_any s w k od po lp ln lcp tp tn tcp wp wn wcp sk fr to q L T M w2 (HP2.out.later HB5.out) HOK.out.lines HOK.out.takes HOK.out.owes h1 h4 t4 t6 t5 ⟨by omega,by omega,by omega⟩).mono ?_
  rintro e w3 ⟨rfl,hb⟩
  have HB6:=hid (HB5.out.trans (hb.mono HB5.out.size))
  clear hb a0 a1 a2 a3 a4 a5 a6 a7 a8 a9
  obtain⟨a0,a1,a2,a3,a4,a5,a6,a7,a8,a9⟩:=z0e k od po lp ln lcp tp tn tcp wp wn wcp sk fr to q (z0a HX2.out HB6.out)
  cases t7:z2a T M L
  case false =>
   have HF:Hid (res=false):=hid (by rw [HG.out];rw [t7];simp)
   go_wp2_with fail
   go_ret
   exact⟨by rw [HF.out];rfl,HB2.out.trans (HB6.out.mono HB2.out.size)⟩
  have HF:Hid (res=true):=hid (by rw [HG.out,decide_eq_true t1,decide_eq_true t2,decide_eq_true (show 1≤L.length by rw [HLL.out];exact t3),t4,t5,t6,t7,decide_eq_true HP0.out];rfl)
  go_wp2_with fail
  go_ret
  exact⟨by rw [HF.out];rfl,HB2.out.trans (HB6.out.mono HB2.out.size)⟩
 have p1:po=1:=by have:=HOK.out.policy;dsimp only at this;omega
 have f2:(po != 0)=true:=by simp [p1]
 have f3:(po != 1)=false:=by simp [p1]
 clear p1
 by_cases t3:1≤ln
 case neg =>
  have f4:((ln:Int)==0)=true:=by simp;omega
  have HF:Hid (res=false):=hid (by rw [HG.out];rw [decide_eq_false (show ¬ 1≤L.length by rw [HLL.out];exact t3)];simp)
  go_wp2_with fail
  go_ret
  rw [HW2.out]
  exact⟨by rw [HF.out];rfl,HB2.out.trans (HBI.out.mono HB2.out.size)⟩
 have f4:((ln:Int)==0)=false:=by simp;omega
 go_wp2_with fail
 rw [HW2.out]
 refine (z2c s lp ln lcp L W2 (HV2.out.later HBI.out) (HP2.out.later HBI.out).l HOK.out.lines h1 h4 (by omega)).mono ?_
 rintro e w0 ⟨rfl,hb⟩
 have HB3:=hid (HBI.out.trans (hb.mono HBI.out.size))
 clear hb a0 a1 a2 a3 a4 a5 a6 a7 a8 a9
 obtain⟨a0,a1,a2,a3,a4,a5,a6,a7,a8,a9⟩:=z0e k od po lp ln lcp tp tn tcp wp wn wcp sk fr to q (z0a HX2.out HB3.out)
 cases t4:z0n s L
 case false =>
  have HF:Hid (res=false):=hid (by rw [HG.out];rw [t4];simp)
  go_wp2_with fail
  go_ret
  exact⟨by rw [HF.out];rfl,HB2.out.trans (HB3.out.mono HB2.out.size)⟩
 go_wp2_with fail
 refine (z2p s w k od po lp ln lcp tp tn tcp wp wn wcp sk fr to q T w0 (HV2.out.later HB3.out) (HP2.out.later HB3.out).t HOK.out.takes h1 h4 hw1 hw4 (by omega)).mono ?_
 rintro e w1 ⟨rfl,hb⟩
 have HB4:=hid (HB3.out.trans (hb.mono HB3.out.size))
 clear hb a0 a1 a2 a3 a4 a5 a6 a7 a8 a9
 obtain⟨a0,a1,a2,a3,a4,a5,a6,a7,a8,a9⟩:=z0e k od po lp ln lcp tp tn tcp wp wn wcp sk fr to q (z0a HX2.out HB4.out)
 cases t5:z0r s w od T
 case false =>
  have HF:Hid (res=false):=hid (by rw [HG.out];rw [t5];simp)
  go_wp2_with fail
  go_ret
  exact⟨by rw [HF.out];rfl,HB2.out.trans (HB4.out.mono HB2.out.size)⟩
 go_wp2_with fail
 refine (z2c s wp wn wcp M w1 (HV2.out.later HB4.out) (HP2.out.later HB4.out).o HOK.out.owes h1 h4 (by omega)).mono ?_
 rintro e w2 ⟨rfl,hb⟩
 have HB5:=hid (HB4.out.trans (hb.mono HB4.out.size))
 clear hb a0 a1 a2 a3 a4 a5 a6 a7 a8 a9
 obtain⟨a0,a1,a2,a3,a4,a5,a6,a7,a8,a9⟩:=z0e k od po lp ln lcp tp tn tcp wp wn wcp sk fr to q (z0a HX2.out HB5.out)
 cases t6:z0n s M
 case false =>
  have HF:Hid (res=false):=hid (by rw [HG.out];rw [t6];simp)
  go_wp2_with fail
  go_ret
  exact⟨by rw [HF.out];rfl,HB2.out.trans (HB5.out.mono HB2.out.size)⟩
 go_wp2_with fail
 refine (served_any s w k od po lp ln lcp tp tn tcp wp wn wcp sk fr to q L T M w2 (HP2.out.later HB5.out) HOK.out.lines HOK.out.takes HOK.out.owes h1 h4 t4 t6 t5 ⟨by omega,by omega,by omega⟩).mono ?_
 rintro e w3 ⟨rfl,hb⟩
 have HB6:=hid (HB5.out.trans (hb.mono HB5.out.size))
 clear hb a0 a1 a2 a3 a4 a5 a6 a7 a8 a9
 obtain⟨a0,a1,a2,a3,a4,a5,a6,a7,a8,a9⟩:=z0e k od po lp ln lcp tp tn tcp wp wn wcp sk fr to q (z0a HX2.out HB6.out)
 cases t7:z2a T M L
 case false =>
  have HF:Hid (res=false):=hid (by rw [HG.out];rw [t7];simp)
  go_wp2_with fail
  go_ret
  exact⟨by rw [HF.out];rfl,HB2.out.trans (HB6.out.mono HB2.out.size)⟩
 by_cases z0:wn=0
 case pos =>
  have f5:((wn:Int)==0)=true:=by simp [z0]
  have HZ0:=hid z0
  clear z0
  have HF:Hid (res=true):=hid (by rw [HG.out,decide_eq_true t1,decide_eq_true t2,decide_eq_true (show 1≤L.length by rw [HLL.out];exact t3),t4,t5,t6,t7,decide_eq_true (show M.length=0 by rw [HLM.out];exact HZ0.out)];simp)
  go_wp2_with fail
  go_ret
  exact⟨by rw [HF.out];rfl,HB2.out.trans (HB6.out.mono HB2.out.size)⟩
 have f5:((wn:Int)==0)=false:=by simp;omega
 have HF:Hid (res=false):=hid (by rw [HG.out,decide_eq_true t1,decide_eq_true t2,decide_eq_true (show 1≤L.length by rw [HLL.out];exact t3),t4,t5,t6,t7,decide_eq_false (show ¬ M.length=0 by rw [HLM.out];exact z0),decide_eq_false p0];rfl)
 go_wp2_with fail
 go_ret
 exact⟨by rw [HF.out];rfl,HB2.out.trans (HB6.out.mono HB2.out.size)⟩
theorem goodcancel_any (s w:Int) (k od po:Int) (lp:Option Addr) (ln lcp:Nat) (tp:Option Addr) (tn tcp:Nat) (wp:Option Addr) (wn wcp:Nat) (sk fr to q:Int) (L:List Ln) (T:List Tk) (M:List Ln) (W:World) (hw:Words W) (hP:PgM W lp ln lcp L tp tn tcp T wp wn wcp M) (hok:Pgok ⟨k,od,po,L,T,M,sk,fr,to,q⟩) (h1:1≤s) (h4:s≤4) (hw1:1≤w) (hw4:w≤4) (hn:ln≤400∧tn≤400∧wn≤400) :
 Calls Tryd.prog 63 #[.int .i64 s,.int .i64 w,.agg #[.int .u8 k,.int .u32 od,.int .u8 po,.slice lp ln lcp,.slice tp tn tcp,.slice wp wn wcp,.int .u8 sk,.int .u8 fr,.int .u8 to,.int .i64 q]] W fun e w'=>e=.returned (.bool (decide (od≠0) && z0r s w od T && z0n s M && decide (1≤T.length+M.length)))∧Below W.heap.size W w':=by
 obtain⟨W2,hW2,hbx,hb2⟩:∃ W2,W.alloc (.cells #[.int .u8 k,.int .u32 od,.int .u8 po,.slice lp ln lcp,.slice tp tn tcp,.slice wp wn wcp,.int .u8 sk,.int .u8 fr,.int .u8 to,.int .i64 q] 26)=W2∧W2.heap[W.heap.size]?=some (.cells #[.int .u8 k,.int .u32 od,.int .u8 po,.slice lp ln lcp,.slice tp tn tcp,.slice wp wn wcp,.int .u8 sk,.int .u8 fr,.int .u8 to,.int .i64 q] 26 (0,0))∧Below W.heap.size W W2:=⟨_,rfl,z0d W _,(Below.refl _ _).alloc (Nat.le_refl _) _⟩
 have HW2:=hid hW2
 have HB2:=hid hb2
 have HX2:=hid hbx
 have HP2:=hid (hP.later hb2)
 have HV2:=hid (hw.later hb2)
 have HBI:Hid (Below W2.heap.size W2 W2):=hid (Below.refl _ _)
 have HLL:=hid hP.l.len
 have HLT:=hid hP.t.len
 have HLM:=hid hP.o.len
 have HOK:=hid hok
 obtain⟨hn1,hn2,hn3⟩:=hn
 have hsk:0≤sk∧sk≤255:=hok.sku
 have hfr:0≤fr∧fr≤255:=hok.frm
 have hto:0≤to∧to≤255:=hok.to
 have hpo:0≤po∧po≤255:=hok.policy
 have x6:IntKind.i64.wrap sk=sk:=IntWalk.i64_in _ (by omega)
 have x7:IntKind.i64.wrap fr=fr:=IntWalk.i64_in _ (by omega)
 have x8:IntKind.i64.wrap to=to:=IntWalk.i64_in _ (by omega)
 obtain⟨res,hg⟩:∃ res,res=(decide (od≠0) && z0r s w od T && z0n s M && decide (1≤T.length+M.length)):=⟨_,rfl⟩
 have HG:=hid hg
 rw [← hg]
 clear hg hW2 hb2 hbx hP hok hw hsk hfr hto hpo
 obtain⟨a0,a1,a2,a3,a4,a5,a6,a7,a8,a9⟩:=z0e k od po lp ln lcp tp tn tcp wp wn wcp sk fr to q HX2.out
 go_enter Tryd.func63,Tryd.ntmps63
 by_cases z1:1≤tn
 case pos =>
  have gtn:decide (0<(tn:Int))=true:=decide_eq_true (by omega)
  have gtnn:decide (0<tn)=true:=decide_eq_true (by omega)
  by_cases t1:od≠0
  case neg =>
   have f1:(od==0)=true:=by simpa using t1
   have f1n:(od != 0)=false:=by simpa using t1
   have HF:Hid (res=false):=hid (by rw [HG.out];rw [decide_eq_false (show ¬ od≠0 by exact t1)];simp)
   go_wp2_with fail
   go_ret
   rw [HW2.out]
   exact⟨by rw [HF.out];rfl,HB2.out.trans (HBI.out.mono HB2.out.size)⟩
  have f1:(od==0)=false:=by simpa using t1
  have f1n:(od != 0)=true:=by simpa using t1
  go_wp2_with fail
  rw [HW2.out]
  refine (z2p s w k od po lp ln lcp tp tn tcp wp wn wcp sk fr to q T W2 (HV2.out.later HBI.out) (HP2.out.later HBI.out).t HOK.out.takes h1 h4 hw1 hw4 (by omega)).mono ?_
  rintro e w0 ⟨rfl,hb⟩
  have HB3:=hid (HBI.out.trans (hb.mono HBI.out.size))
  clear hb a0 a1 a2 a3 a4 a5 a6 a7 a8 a9
  obtain⟨a0,a1,a2,a3,a4,a5,a6,a7,a8,a9⟩:=z0e k od po lp ln lcp tp tn tcp wp wn wcp sk fr to q (z0a HX2.out HB3.out)
  cases t2:z0r s w od T
  case false =>
   have HF:Hid (res=false):=hid (by rw [HG.out];rw [t2];simp)
   go_wp2_with fail
   go_ret
   exact⟨by rw [HF.out];rfl,HB2.out.trans (HB3.out.mono HB2.out.size)⟩
  go_wp2_with fail
  refine (z2c s wp wn wcp M w0 (HV2.out.later HB3.out) (HP2.out.later HB3.out).o HOK.out.owes h1 h4 (by omega)).mono ?_
  rintro e w1 ⟨rfl,hb⟩
  have HB4:=hid (HB3.out.trans (hb.mono HB3.out.size))
  clear hb a0 a1 a2 a3 a4 a5 a6 a7 a8 a9
  obtain⟨a0,a1,a2,a3,a4,a5,a6,a7,a8,a9⟩:=z0e k od po lp ln lcp tp tn tcp wp wn wcp sk fr to q (z0a HX2.out HB4.out)
  cases t3:z0n s M
  case false =>
   have HF:Hid (res=false):=hid (by rw [HG.out];rw [t3];simp)
   go_wp2_with fail
   go_ret
   exact⟨by rw [HF.out];rfl,HB2.out.trans (HB4.out.mono HB2.out.size)⟩
  have HF:Hid (res=true):=hid (by rw [HG.out,decide_eq_true t1,t2,t3,decide_eq_true (show 1≤T.length+M.length by rw [HLT.out,HLM.out];omega)];rfl)
  go_wp2_with fail
  go_ret
  exact⟨by rw [HF.out];rfl,HB2.out.trans (HB4.out.mono HB2.out.size)⟩
 have gtn:decide (0<(tn:Int))=false:=decide_eq_false (by omega)
 have gtnn:decide (0<tn)=false:=decide_eq_false (by omega)
 by_cases z2:1≤wn
 case pos =>
  have gwn:decide (0<(wn:Int))=true:=decide_eq_true (by omega)
  have gwnn:decide (0<wn)=true:=decide_eq_true (by omega)
  by_cases t1:od≠0
  case neg =>
   have f1:(od==0)=true:=by simpa using t1
   have f1n:(od != 0)=false:=by simpa using t1
   have HF:Hid (res=false):=hid (by rw [HG.out];rw [decide_eq_false (show ¬ od≠0 by exact t1)];simp)
   go_wp2_with fail
   go_ret
   rw [HW2.out]
   exact⟨by rw [HF.out];rfl,HB2.out.trans (HBI.out.mono HB2.out.size)⟩
  have f1:(od==0)=false:=by simpa using t1
  have f1n:(od != 0)=true:=by simpa using t1
  go_wp2_with fail
  rw [HW2.out]
  refine (z2p s w k od po lp ln lcp tp tn tcp wp wn wcp sk fr to q T W2 (HV2.out.later HBI.out) (HP2.out.later HBI.out).t HOK.out.takes h1 h4 hw1 hw4 (by omega)).mono ?_
  rintro e w0 ⟨rfl,hb⟩
  have HB3:=hid (HBI.out.trans (hb.mono HBI.out.size))
  clear hb a0 a1 a2 a3 a4 a5 a6 a7 a8 a9
  obtain⟨a0,a1,a2,a3,a4,a5,a6,a7,a8,a9⟩:=z0e k od po lp ln lcp tp tn tcp wp wn wcp sk fr to q (z0a HX2.out HB3.out)
  cases t2:z0r s w od T
  case false =>
   have HF:Hid (res=false):=hid (by rw [HG.out];rw [t2];simp)
   go_wp2_with fail
   go_ret
   exact⟨by rw [HF.out];rfl,HB2.out.trans (HB3.out.mono HB2.out.size)⟩
  go_wp2_with fail
  refine (z2c s wp wn wcp M w0 (HV2.out.later HB3.out) (HP2.out.later HB3.out).o HOK.out.owes h1 h4 (by omega)).mono ?_
  rintro e w1 ⟨rfl,hb⟩
  have HB4:=hid (HB3.out.trans (hb.mono HB3.out.size))
  clear hb a0 a1 a2 a3 a4 a5 a6 a7 a8 a9
  obtain⟨a0,a1,a2,a3,a4,a5,a6,a7,a8,a9⟩:=z0e k od po lp ln lcp tp tn tcp wp wn wcp sk fr to q (z0a HX2.out HB4.out)
  cases t3:z0n s M
  case false =>
   have HF:Hid (res=false):=hid (by rw [HG.out];rw [t3];simp)
   go_wp2_with fail
   go_ret
   exact⟨by rw [HF.out];rfl,HB2.out.trans (HB4.out.mono HB2.out.size)⟩
  have HF:Hid (res=true):=hid (by rw [HG.out,decide_eq_true t1,t2,t3,decide_eq_true (show 1≤T.length+M.length by rw [HLT.out,HLM.out];omega)];rfl)
  go_wp2_with fail
  go_ret
  exact⟨by rw [HF.out];rfl,HB2.out.trans (HB4.out.mono HB2.out.size)⟩
 have gwn:decide (0<(wn:Int))=false:=decide_eq_false (by omega)
 have gwnn:decide (0<wn)=false:=decide_eq_false (by omega)
 by_cases t1:od≠0
 case neg =>
  have f1:(od==0)=true:=by simpa using t1
  have f1n:(od != 0)=false:=by simpa using t1
  have HF:Hid (res=false):=hid (by rw [HG.out];rw [decide_eq_false (show ¬ od≠0 by exact t1)];simp)
  go_wp2_with fail
  go_ret
  rw [HW2.out]
  exact⟨by rw [HF.out];rfl,HB2.out.trans (HBI.out.mono HB2.out.size)⟩
 have f1:(od==0)=false:=by simpa using t1
 have f1n:(od != 0)=true:=by simpa using t1
 have HF:Hid (res=false):=hid (by rw [HG.out,decide_eq_false (show ¬ 1≤T.length+M.length by rw [HLT.out,HLM.out];omega)];simp)
 go_wp2_with fail
 go_ret
 rw [HW2.out]
 exact⟨by rw [HF.out];rfl,HB2.out.trans (HBI.out.mono HB2.out.size)⟩
theorem goodmove_any (s w:Int) (k od po:Int) (lp:Option Addr) (ln lcp:Nat) (tp:Option Addr) (tn tcp:Nat) (wp:Option Addr) (wn wcp:Nat) (sk fr to q:Int) (L:List Ln) (T:List Tk) (M:List Ln) (W:World) (hw:Words W) (hP:PgM W lp ln lcp L tp tn tcp T wp wn wcp M) (hok:Pgok ⟨k,od,po,L,T,M,sk,fr,to,q⟩) (h1:1≤s) (h4:s≤4) (hw1:1≤w) (hw4:w≤4) (hn:ln≤400∧tn≤400∧wn≤400) :
 Calls Tryd.prog 64 #[.int .i64 s,.int .i64 w,.agg #[.int .u8 k,.int .u32 od,.int .u8 po,.slice lp ln lcp,.slice tp tn tcp,.slice wp wn wcp,.int .u8 sk,.int .u8 fr,.int .u8 to,.int .i64 q]] W fun e w'=>e=.returned (.bool (decide (od≠0) && z0r s w od T && decide (1≤T.length)))∧Below W.heap.size W w':=by
 obtain⟨W2,hW2,hbx,hb2⟩:∃ W2,W.alloc (.cells #[.int .u8 k,.int .u32 od,.int .u8 po,.slice lp ln lcp,.slice tp tn tcp,.slice wp wn wcp,.int .u8 sk,.int .u8 fr,.int .u8 to,.int .i64 q] 26)=W2∧W2.heap[W.heap.size]?=some (.cells #[.int .u8 k,.int .u32 od,.int .u8 po,.slice lp ln lcp,.slice tp tn tcp,.slice wp wn wcp,.int .u8 sk,.int .u8 fr,.int .u8 to,.int .i64 q] 26 (0,0))∧Below W.heap.size W W2:=⟨_,rfl,z0d W _,(Below.refl _ _).alloc (Nat.le_refl _) _⟩
 have HW2:=hid hW2
 have HB2:=hid hb2
 have HX2:=hid hbx
 have HP2:=hid (hP.later hb2)
 have HV2:=hid (hw.later hb2)
 have HBI:Hid (Below W2.heap.size W2 W2):=hid (Below.refl _ _)
 have HLL:=hid hP.l.len
 have HLT:=hid hP.t.len
 have HLM:=hid hP.o.len
 have HOK:=hid hok
 obtain⟨hn1,hn2,hn3⟩:=hn
 have hsk:0≤sk∧sk≤255:=hok.sku
 have hfr:0≤fr∧fr≤255:=hok.frm
 have hto:0≤to∧to≤255:=hok.to
 have hpo:0≤po∧po≤255:=hok.policy
 have x6:IntKind.i64.wrap sk=sk:=IntWalk.i64_in _ (by omega)
 have x7:IntKind.i64.wrap fr=fr:=IntWalk.i64_in _ (by omega)
 have x8:IntKind.i64.wrap to=to:=IntWalk.i64_in _ (by omega)
 obtain⟨res,hg⟩:∃ res,res=(decide (od≠0) && z0r s w od T && decide (1≤T.length)):=⟨_,rfl⟩
 have HG:=hid hg
 rw [← hg]
 clear hg hW2 hb2 hbx hP hok hw hsk hfr hto hpo
 obtain⟨a0,a1,a2,a3,a4,a5,a6,a7,a8,a9⟩:=z0e k od po lp ln lcp tp tn tcp wp wn wcp sk fr to q HX2.out
 go_enter Tryd.func64,Tryd.ntmps64
 by_cases t1:od≠0
 case neg =>
  have f1:(od==0)=true:=by simpa using t1
  have f1n:(od != 0)=false:=by simpa using t1
  have HF:Hid (res=false):=hid (by rw [HG.out];rw [decide_eq_false (show ¬ od≠0 by exact t1)];simp)
  go_wp2_with fail
  go_ret
  rw [HW2.out]
  exact⟨by rw [HF.out];rfl,HB2.out.trans (HBI.out.mono HB2.out.size)⟩
 have f1:(od==0)=false:=by simpa using t1
 have f1n:(od != 0)=true:=by simpa using t1
 by_cases t3:1≤tn
 case neg =>
  have gtn:decide (0<(tn:Int))=false:=decide_eq_false (by omega)
  have gtnn:decide (0<tn)=false:=decide_eq_false (by omega)
  have HF:Hid (res=false):=hid (by rw [HG.out];rw [decide_eq_false (show ¬ 1≤T.length by rw [HLT.out];exact t3)];simp)
  go_wp2_with fail
  go_ret
  rw [HW2.out]
  exact⟨by rw [HF.out];rfl,HB2.out.trans (HBI.out.mono HB2.out.size)⟩
 have gtn:decide (0<(tn:Int))=true:=decide_eq_true (by omega)
 have gtnn:decide (0<tn)=true:=decide_eq_true (by omega)
 go_wp2_with fail
 rw [HW2.out]
 refine (z2p s w k od po lp ln lcp tp tn tcp wp wn wcp sk fr to q T W2 (HV2.out.later HBI.out) (HP2.out.later HBI.out).t HOK.out.takes h1 h4 hw1 hw4 (by omega)).mono ?_
 rintro e w0 ⟨rfl,hb⟩
 have HB3:=hid (HBI.out.trans (hb.mono HBI.out.size))
 clear hb a0 a1 a2 a3 a4 a5 a6 a7 a8 a9
 obtain⟨a0,a1,a2,a3,a4,a5,a6,a7,a8,a9⟩:=z0e k od po lp ln lcp tp tn tcp wp wn wcp sk fr to q (z0a HX2.out HB3.out)
 cases t2:z0r s w od T
 case false =>
  have HF:Hid (res=false):=hid (by rw [HG.out];rw [t2];simp)
  go_wp2_with fail
  go_ret
  exact⟨by rw [HF.out];rfl,HB2.out.trans (HB3.out.mono HB2.out.size)⟩
 have HF:Hid (res=true):=hid (by rw [HG.out,decide_eq_true t1,t2,decide_eq_true (show 1≤T.length by rw [HLT.out];exact t3)];rfl)
 go_wp2_with fail
 go_ret
 exact⟨by rw [HF.out];rfl,HB2.out.trans (HB3.out.mono HB2.out.size)⟩
theorem goodtransfer_any (s w:Int) (k od po:Int) (lp:Option Addr) (ln lcp:Nat) (tp:Option Addr) (tn tcp:Nat) (wp:Option Addr) (wn wcp:Nat) (sk fr to q:Int) (L:List Ln) (T:List Tk) (M:List Ln) (W:World) (hw:Words W) (hP:PgM W lp ln lcp L tp tn tcp T wp wn wcp M) (hok:Pgok ⟨k,od,po,L,T,M,sk,fr,to,q⟩) (h1:1≤s) (h4:s≤4) (hw1:1≤w) (hw4:w≤4) (hn:ln≤400∧tn≤400∧wn≤400) :
 Calls Tryd.prog 66 #[.int .i64 s,.int .i64 w,.agg #[.int .u8 k,.int .u32 od,.int .u8 po,.slice lp ln lcp,.slice tp tn tcp,.slice wp wn wcp,.int .u8 sk,.int .u8 fr,.int .u8 to,.int .i64 q]] W fun e w'=>e=.returned (.bool (decide (sk<s) && decide (fr<w) && decide (to<w) && decide (fr≠to) && decide (1≤q)))∧Below W.heap.size W w':=by
 obtain⟨W2,hW2,hbx,hb2⟩:∃ W2,W.alloc (.cells #[.int .u8 k,.int .u32 od,.int .u8 po,.slice lp ln lcp,.slice tp tn tcp,.slice wp wn wcp,.int .u8 sk,.int .u8 fr,.int .u8 to,.int .i64 q] 26)=W2∧W2.heap[W.heap.size]?=some (.cells #[.int .u8 k,.int .u32 od,.int .u8 po,.slice lp ln lcp,.slice tp tn tcp,.slice wp wn wcp,.int .u8 sk,.int .u8 fr,.int .u8 to,.int .i64 q] 26 (0,0))∧Below W.heap.size W W2:=⟨_,rfl,z0d W _,(Below.refl _ _).alloc (Nat.le_refl _) _⟩
 have HW2:=hid hW2
 have HB2:=hid hb2
 have HX2:=hid hbx
 have HP2:=hid (hP.later hb2)
 have HV2:=hid (hw.later hb2)
 have HBI:Hid (Below W2.heap.size W2 W2):=hid (Below.refl _ _)
 have HLL:=hid hP.l.len
 have HLT:=hid hP.t.len
 have HLM:=hid hP.o.len
 have HOK:=hid hok
 obtain⟨hn1,hn2,hn3⟩:=hn
 have hsk:0≤sk∧sk≤255:=hok.sku
 have hfr:0≤fr∧fr≤255:=hok.frm
 have hto:0≤to∧to≤255:=hok.to
 have hpo:0≤po∧po≤255:=hok.policy
 have x6:IntKind.i64.wrap sk=sk:=IntWalk.i64_in _ (by omega)
 have x7:IntKind.i64.wrap fr=fr:=IntWalk.i64_in _ (by omega)
 have x8:IntKind.i64.wrap to=to:=IntWalk.i64_in _ (by omega)
 obtain⟨res,hg⟩:∃ res,res=(decide (sk<s) && decide (fr<w) && decide (to<w) && decide (fr≠to) && decide (1≤q)):=⟨_,rfl⟩
 have HG:=hid hg
 rw [← hg]
 clear hg hW2 hb2 hbx hP hok hw hsk hfr hto hpo
 obtain⟨a0,a1,a2,a3,a4,a5,a6,a7,a8,a9⟩:=z0e k od po lp ln lcp tp tn tcp wp wn wcp sk fr to q HX2.out
 go_enter Tryd.func66,Tryd.ntmps66
 by_cases t1:sk<s
 case neg =>
  have dt1:decide (sk<s)=false:=decide_eq_false (by omega)
  have HF:Hid (res=false):=hid (by rw [HG.out];rw [decide_eq_false (show ¬ sk<s by exact t1)];simp)
  go_wp2_with fail
  go_ret
  rw [HW2.out]
  exact⟨by rw [HF.out];rfl,HB2.out.trans (HBI.out.mono HB2.out.size)⟩
 have dt1:decide (sk<s)=true:=decide_eq_true (by omega)
 by_cases t2:fr<w
 case neg =>
  have dt2:decide (fr<w)=false:=decide_eq_false (by omega)
  have HF:Hid (res=false):=hid (by rw [HG.out];rw [decide_eq_false (show ¬ fr<w by exact t2)];simp)
  go_wp2_with fail
  go_ret
  rw [HW2.out]
  exact⟨by rw [HF.out];rfl,HB2.out.trans (HBI.out.mono HB2.out.size)⟩
 have dt2:decide (fr<w)=true:=decide_eq_true (by omega)
 by_cases t3:to<w
 case neg =>
  have dt3:decide (to<w)=false:=decide_eq_false (by omega)
  have HF:Hid (res=false):=hid (by rw [HG.out];rw [decide_eq_false (show ¬ to<w by exact t3)];simp)
  go_wp2_with fail
  go_ret
  rw [HW2.out]
  exact⟨by rw [HF.out];rfl,HB2.out.trans (HBI.out.mono HB2.out.size)⟩
 have dt3:decide (to<w)=true:=decide_eq_true (by omega)
 by_cases t4:fr≠to
 case neg =>
  have dt4:(fr != to)=false:=by simpa using t4
  have HF:Hid (res=false):=hid (by rw [HG.out];rw [decide_eq_false (show ¬ fr≠to by exact t4)];simp)
  go_wp2_with fail
  go_ret
  rw [HW2.out]
  exact⟨by rw [HF.out];rfl,HB2.out.trans (HBI.out.mono HB2.out.size)⟩
 have dt4:(fr != to)=true:=by simpa using t4
 by_cases t5:1≤q
 case neg =>
  have dt5:decide (1≤q)=false:=decide_eq_false (by omega)
  have HF:Hid (res=false):=hid (by rw [HG.out];rw [decide_eq_false (show ¬ 1≤q by exact t5)];simp)
  go_wp2_with fail
  go_ret
  rw [HW2.out]
  exact⟨by rw [HF.out];rfl,HB2.out.trans (HBI.out.mono HB2.out.size)⟩
 have dt5:decide (1≤q)=true:=decide_eq_true (by omega)
 have HF:Hid (res=true):=hid (by rw [HG.out,decide_eq_true t1,decide_eq_true t2,decide_eq_true t3,decide_eq_true t4,decide_eq_true t5];rfl)
 go_wp2_with fail
 go_ret
 rw [HW2.out]
 exact⟨by rw [HF.out];rfl,HB2.out.trans (HBI.out.mono HB2.out.size)⟩
theorem fills_long {sk to q:Int} {T:List Tk} (h:¬ T.length≤12):z1w sk to q T=false:=by
 unfold z1w
 rw [decide_eq_false h]
 simp
theorem alike_take {o:Int} {T:List Tk} {j:Nat} (hj:j≤T.length):z4t o (T.take j)=!((List.range j).all fun k=>decide ((T.getD k tk0).1≠o)):=by
 have hl:(T.take j).length=j:=by rw [List.length_take];omega
 have hg:∀ k,k<j→(T.take j).getD k tk0=T.getD k tk0:=fun k hk=>by rw [List.getD,List.getD,List.getElem?_take,if_pos hk]
 cases hc:(List.range j).all fun k=>decide ((T.getD k tk0).1≠o) with
 | true =>
  refine alike_miss fun k hk=>?_
  rw [hl] at hk
  have:=List.all_eq_true.1 hc k (List.mem_range.2 hk)
  rw [hg k hk]
  simpa using this
 | false =>
  rw [List.all_eq_false] at hc
  obtain⟨k,hk,h⟩:=hc
  have hk:=List.mem_range.1 hk
  refine alike_hit (j:=k) (by omega) ?_
  rw [hg k hk]
  simpa using h
theorem fills_end {sk to q:Int} {T:List Tk} (h:∀ j,j<T.length→z3o sk to T j=true) (hl:T.length≤12):z1w sk to q T=(okB (z1d (allT T)) && decide (z1d (allT T)≤q)):=by
 have hs:∀ x∈T,x.2.1=sk:=fun x hx=>by
  obtain⟨j,hj,rfl⟩:=z3c tk0 hx
  have:=h j hj
  rw [z6q,Bool.and_eq_true] at this
  have h1:=this.1
  unfold fiA at h1
  simp only [Bool.and_eq_true,decide_eq_true_eq] at h1
  exact h1.1.1.2
 rw [fills_true sk to q T h,z6n T sk hs,decide_eq_true hl,Bool.true_and]
theorem goodrestock_any (s w:Int) (k od po:Int) (lp:Option Addr) (ln lcp:Nat) (tp:Option Addr) (tn tcp:Nat) (wp:Option Addr) (wn wcp:Nat) (sk fr to q:Int) (L:List Ln) (T:List Tk) (M:List Ln) (W:World) (hw:Words W) (hP:PgM W lp ln lcp L tp tn tcp T wp wn wcp M) (hok:Pgok ⟨k,od,po,L,T,M,sk,fr,to,q⟩) (h1:1≤s) (h4:s≤4) (hw1:1≤w) (hw4:w≤4) (hn:ln≤400∧tn≤400∧wn≤400) :
 Calls Tryd.prog 65 #[.int .i64 s,.int .i64 w,.agg #[.int .u8 k,.int .u32 od,.int .u8 po,.slice lp ln lcp,.slice tp tn tcp,.slice wp wn wcp,.int .u8 sk,.int .u8 fr,.int .u8 to,.int .i64 q]] W fun e w'=>e=.returned (.bool (decide (sk<s) && decide (to<w) && decide (1≤q) && z1w sk to q T))∧Below W.heap.size W w':=by
 obtain⟨W2,hW2,hbx,hb2⟩:∃ W2,W.alloc (.cells #[.int .u8 k,.int .u32 od,.int .u8 po,.slice lp ln lcp,.slice tp tn tcp,.slice wp wn wcp,.int .u8 sk,.int .u8 fr,.int .u8 to,.int .i64 q] 26)=W2∧W2.heap[W.heap.size]?=some (.cells #[.int .u8 k,.int .u32 od,.int .u8 po,.slice lp ln lcp,.slice tp tn tcp,.slice wp wn wcp,.int .u8 sk,.int .u8 fr,.int .u8 to,.int .i64 q] 26 (0,0))∧Below W.heap.size W W2:=⟨_,rfl,z0d W _,(Below.refl _ _).alloc (Nat.le_refl _) _⟩
 have HW2:=hid hW2
 have HB2:=hid hb2
 have HX2:=hid hbx
 have HP2:=hid (hP.later hb2)
 have HV2:=hid (hw.later hb2)
 have HBI:Hid (Below W2.heap.size W2 W2):=hid (Below.refl _ _)
 have HLL:=hid hP.l.len
 have HLT:=hid hP.t.len
 have HLM:=hid hP.o.len
 have HOK:=hid hok
 obtain⟨hn1,hn2,hn3⟩:=hn
 have hsk:0≤sk∧sk≤255:=hok.sku
 have hfr:0≤fr∧fr≤255:=hok.frm
 have hto:0≤to∧to≤255:=hok.to
 have hpo:0≤po∧po≤255:=hok.policy
 have x6:IntKind.i64.wrap sk=sk:=IntWalk.i64_in _ (by omega)
 have x7:IntKind.i64.wrap fr=fr:=IntWalk.i64_in _ (by omega)
 have x8:IntKind.i64.wrap to=to:=IntWalk.i64_in _ (by omega)
 obtain⟨res,hg⟩:∃ res,res=(decide (sk<s) && decide (to<w) && decide (1≤q) && z1w sk to q T):=⟨_,rfl⟩
 have HG:=hid hg
 rw [← hg]
 clear hg hW2 hb2 hbx hP hok hw hsk hfr hto hpo
 obtain⟨a0,a1,a2,a3,a4,a5,a6,a7,a8,a9⟩:=z0e k od po lp ln lcp tp tn tcp wp wn wcp sk fr to q HX2.out
 go_enter Tryd.func65,Tryd.ntmps65
 by_cases t1:sk<s
 case neg =>
  have dt1:decide (s≤sk)=true:=decide_eq_true (by omega)
  have HF:Hid (res=false):=hid (by rw [HG.out];rw [decide_eq_false t1];simp)
  go_wp2_with fail
  go_ret
  rw [HW2.out]
  exact⟨by rw [HF.out];rfl,HB2.out.trans (HBI.out.mono HB2.out.size)⟩
 have dt1:decide (s≤sk)=false:=decide_eq_false (by omega)
 by_cases t2:to<w
 case neg =>
  have dt2:decide (w≤to)=true:=decide_eq_true (by omega)
  have HF:Hid (res=false):=hid (by rw [HG.out];rw [decide_eq_false t2];simp)
  go_wp2_with fail
  go_ret
  rw [HW2.out]
  exact⟨by rw [HF.out];rfl,HB2.out.trans (HBI.out.mono HB2.out.size)⟩
 have dt2:decide (w≤to)=false:=decide_eq_false (by omega)
 by_cases t3:1≤q
 case neg =>
  have dt3:decide (q<1)=true:=decide_eq_true (by omega)
  have HF:Hid (res=false):=hid (by rw [HG.out];rw [decide_eq_false t3];simp)
  go_wp2_with fail
  go_ret
  rw [HW2.out]
  exact⟨by rw [HF.out];rfl,HB2.out.trans (HBI.out.mono HB2.out.size)⟩
 have dt3:decide (q<1)=false:=decide_eq_false (by omega)
 by_cases t4:tn≤12
 case neg =>
  have d4:decide ((12:Int)<tn)=true:=decide_eq_true (by omega)
  have HF:Hid (res=false):=hid (by rw [HG.out,fills_long (by rw [HLT.out];exact t4)];simp)
  go_wp2_with fail
  go_ret
  rw [HW2.out]
  exact⟨by rw [HF.out];rfl,HB2.out⟩
 have d4:decide ((12:Int)<tn)=false:=decide_eq_false (by omega)
 have HR:Hid (res=z1w sk to q T):=hid (by rw [HG.out,decide_eq_true t1,decide_eq_true t2,decide_eq_true t3];rfl)
 have HFA:=hid fun j (hj:j<tn)=>fills_false sk to q T j (by rw [HLT.out];exact hj)
 have HT2:=hid HP2.out.t
 have hcap:=HT2.out.cap
 have HOT:=hid HOK.out.takes
 have HEN:Hid ((∀ j,j<tn→z3o sk to T j=true)→z1w sk to q T=(okB (z1d (allT T)) && decide (z1d (allT T)≤q))):=hid fun h=>fills_end (fun j hj=>h j (by rw [← HLT.out];exact hj)) (by rw [HLT.out];exact t4)
 clear HP2 HOK HG
 clear a0 a1 a2 a3 a4 a5 a6 a7 a8 a9
 obtain⟨a0,a1,a2,a3,a4,a5,a6,a7,a8,a9⟩:=z0e k od po lp ln lcp tp tn tcp wp wn wcp sk fr to q HX2.out
 go_wp2_with fail
 rw [HW2.out]
 clear a0 a1 a2 a3 a4 a5 a6 a7 a8 a9
 go_loopw [37] (fun i wr=>∃ j:Nat,j≤tn∧i=.int .i64 j∧Hid (Below W2.heap.size W2 wr)∧Hid (∀ i,i<j→z3o sk to T i=true)) (fun i _=>tn-(Go.RowKit.intOf i).toNat)
 case atStart=>exact⟨0,Nat.zero_le _,rfl,hid (Below.refl _ _),hid fun i hi=>by omega⟩
 case round =>
  obtain⟨j,hj,rfl,HB0,HE⟩:=hrel
  by_cases hlt:j<tn
  case neg =>
   obtain rfl:tn=j:=by omega
   have HF:=hid (HR.out.trans (HEN.out HE.out))
   obtain⟨a0,a1,a2,a3,a4,a5,a6,a7,a8,a9⟩:=z0e k od po lp ln lcp tp tn tcp wp wn wcp sk fr to q (z0a HX2.out HB0.out)
   go_wp2_with fail
   refine (together_any tp tn tcp T wr (HT2.out.later HB0.out) HOT.out (by omega)).mono ?_
   rintro e w3 ⟨rfl,hb3⟩
   have HB3:=hid (HB0.out.trans (hb3.mono HB0.out.size))
   clear hb3 a0 a1 a2 a3 a4 a5 a6 a7 a8 a9
   obtain⟨a0,a1,a2,a3,a4,a5,a6,a7,a8,a9⟩:=z0e k od po lp ln lcp tp tn tcp wp wn wcp sk fr to q (z0a HX2.out HB3.out)
   generalize z1d (allT T)=zz at *
   cases hb:okB zz with
   | false =>
    rw [hb] at HF
    go_wp2_with fail
    go_ret
    exact⟨by rw [HF.out];rfl,HB2.out.trans (HB3.out.mono HB2.out.size)⟩
   | true =>
    rw [hb] at HF
    have hv2:val zz=zz:=z4r _ ((z3g _).1 hb)
    rw [hv2]
    clear hv2
    go_wp2_with fail
    go_ret
    exact⟨by rw [HF.out];simp,HB2.out.trans (HB3.out.mono HB2.out.size)⟩
  have hlt':(j:Int)<tn:=by omega
  obtain⟨b,off,rfl,_,k0,k1,k2,k3⟩:=z1a (HT2.out.later HB0.out) hlt
  have HFJ:=hid fun h=>HR.out.trans (HFA.out j hlt h)
  have hat:=z6q sk to T j
  have HTK:=hid ((HT2.out.later HB0.out).take j hj)
  have HAK:=hid fun o=>alike_take (o:=o) (T:=T) (j:=j) (by rw [HLT.out];exact hj)
  obtain⟨a0,a1,a2,a3,a4,a5,a6,a7,a8,a9⟩:=z0e _ _ _ _ _ _ _ _ _ _ _ _ _ _ _ _ (z0a HX2.out HB0.out)
  generalize T.getD j tk0=x at *
  obtain⟨o,a,r,z⟩:=x
  dsimp only at k0 k1 k2 k3 hat
  have HAT:=hid hat
  have hbox:(wr.alloc (.cells #[.int .u32 o,.int .u8 a,.int .u8 r,.int .i64 z] 60)).heap[wr.heap.size]?=some (.cells #[.int .u32 o,.int .u8 a,.int .u8 r,.int .i64 z] 60 (0,0)):=z0d wr _
  have hbb:Below wr.heap.size wr (wr.alloc (.cells #[.int .u32 o,.int .u8 a,.int .u8 r,.int .i64 z] 60)):=(Below.refl _ _).alloc (Nat.le_refl _) _
  have HBX:=hid hbox
  have HBB:=hid hbb
  have HB:=hid (HB0.out.trans (hbb.mono HB0.out.size))
  clear hat hbox hbb
  obtain⟨c0,c1,c2,c3,c4,c5,c6,c7,c8,c9⟩:=z0e _ _ _ _ _ _ _ _ _ _ _ _ _ _ _ _ (z0a HX2.out HB.out)
  by_cases u1:o=0
  case pos =>
   have e1:(o==0)=true:=by simpa using u1
   have HF:=hid (HFJ.out (by rw [HAT.out,show fiA sk to (o,a,r,z)=false from by unfold fiA;simp [u1]];rfl))
   clear u1
   go_wp2_with fail
   go_ret
   exact⟨by rw [HF.out];rfl,HB2.out.trans (HB.out.mono HB2.out.size)⟩
  have e1:(o==0)=false:=by simpa using u1
  by_cases u2:a=sk
  case neg =>
   have e2:(a != sk)=true:=by simpa using u2
   have HF:=hid (HFJ.out (by rw [HAT.out,show fiA sk to (o,a,r,z)=false from by unfold fiA;simp [u2]];rfl))
   go_wp2_with fail
   go_ret
   exact⟨by rw [HF.out];rfl,HB2.out.trans (HB.out.mono HB2.out.size)⟩
  have e2:(a != sk)=false:=by simpa using u2
  have U2:=hid u2
  clear u2
  by_cases u3:r=to
  case neg =>
   have e3:(r != to)=true:=by simpa using u3
   have HF:=hid (HFJ.out (by rw [HAT.out,show fiA sk to (o,a,r,z)=false from by unfold fiA;simp [u3]];rfl))
   go_wp2_with fail
   go_ret
   exact⟨by rw [HF.out];rfl,HB2.out.trans (HB.out.mono HB2.out.size)⟩
  have e3:(r != to)=false:=by simpa using u3
  have U3:=hid u3
  clear u3
  by_cases u4:1≤z
  case neg =>
   have e4:decide (z<1)=true:=decide_eq_true (by omega)
   have HF:=hid (HFJ.out (by rw [HAT.out,show fiA sk to (o,a,r,z)=false from by unfold fiA;simp [u4]];rfl))
   go_wp2_with fail
   go_ret
   exact⟨by rw [HF.out];rfl,HB2.out.trans (HB.out.mono HB2.out.size)⟩
  have e4:decide (z<1)=false:=decide_eq_false (by omega)
  have HFI:Hid (fiA sk to (o,a,r,z)=true):=hid (by unfold fiA;rw [decide_eq_true u1,decide_eq_true U2.out,decide_eq_true U3.out,decide_eq_true u4];rfl)
  have HCL:=hid (contains_alike wr.heap.size o (some ⟨b,off,none⟩) j tcp (T.take j) (wr.alloc (.cells #[.int .u32 o,.int .u8 a,.int .u8 r,.int .i64 z] 60)) (HTK.out.later HBB.out) (z0b HBX.out rfl) (by omega))
  have HAL:=hid (HAK.out o)
  generalize z4t o (T.take j)=al at *
  go_wp2_with fail
  refine HCL.out.mono ?_
  rintro e w3 ⟨rfl,hb3⟩
  have HB3:=hid (HB.out.trans (hb3.mono HB.out.size))
  clear hb3 c0 c1 c2 c3 c4 c5 c6 c7 c8 c9 a0 a1 a2 a3 a4 a5 a6 a7 a8 a9
  cases al with
  | true =>
   have HF:=hid (HFJ.out (by
    rw [HAT.out,HFI.out,Bool.true_and]
    have:=HAL.out
    simp only [Bool.true_eq,Bool.not_eq_true'] at this
    exact this))
   go_wp2_with fail
   go_ret
   exact⟨by rw [HF.out];rfl,HB2.out.trans (HB3.out.mono HB2.out.size)⟩
  | false =>
   have HT1:Hid (z3o sk to T j=true):=hid (by
    rw [HAT.out,HFI.out,Bool.true_and]
    have:=HAL.out
    simp only [Bool.false_eq,Bool.not_eq_false'] at this
    exact this)
   go_wp2_with fail
   go_roundw
   case rel =>
    refine⟨j+1,by omega,by go_num,HB3,hid fun i hi=>?_⟩
    by_cases e:i=j
    · subst e;exact HT1.out
    · exact HE.out i (by omega)
   case measure=>simp [Go.RowKit.intOf];omega
end Go.Proofs.YtnpjpelbcmgodaaDoor
