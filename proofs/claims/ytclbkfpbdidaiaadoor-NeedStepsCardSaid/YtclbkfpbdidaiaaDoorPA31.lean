import Derived.Test.YtclbkfpbdidaiaaDoorPA99
import Derived.Test.YtclbkfpbdidaiaaDoorPA30
namespace Go.Proofs.YtclbkfpbdidaiaaDoor
open Go.Lib (hid)
set_option maxHeartbeats 8000000
open Go.RowKit Go.ChangeShapes Go.WideShapes
set_option linter.unusedVariables false
set_option linter.unusedSimpArgs false
set_option maxRecDepth 10000
theorem just_p (k od po:Int) (lp:Option Addr) (ln lcp:Nat) (tp:Option Addr) (tn tcp:Nat) (wp:Option Addr) (wn wcp:Nat) (sk fr to q:Int) (k' od' po':Int) (lp':Option Addr) (ln' lcp':Nat) (tp':Option Addr) (tn' tcp':Nat) (wp':Option Addr) (wn' wcp':Nat) (sk' fr' to' q':Int) (L:List Ln) (T:List Tk) (M:List Ln) (L':List Ln) (T':List Tk) (M':List Ln) (W:World) (hP:PgM W lp ln lcp L tp tn tcp T wp wn wcp M) (hP':PgM W lp' ln' lcp' L' tp' tn' tcp' T' wp' wn' wcp' M') (h1:ln≤1000∧tn≤1000∧wn≤1000) (h2:ln'≤1000∧tn'≤1000∧wn'≤1000) :
 Calls Tryd.prog 45 #[.agg #[.int .u8 k,.int .u32 od,.int .u8 po,.slice lp ln lcp,.slice tp tn tcp,.slice wp wn wcp,.int .u8 sk,.int .u8 fr,.int .u8 to,.int .i64 q],.agg #[.int .u8 k',.int .u32 od',.int .u8 po',.slice lp' ln' lcp',.slice tp' tn' tcp',.slice wp' wn' wcp',.int .u8 sk',.int .u8 fr',.int .u8 to',.int .i64 q']] W fun e w'=>e=.returned (.bool (decide ((⟨k,od,po,L,T,M,sk,fr,to,q⟩:Pg)=⟨k,od',po',L',T',M',sk',fr',to',q'⟩)))∧Below W.heap.size W w':=by
 obtain⟨W2,hW2,b0,b1,hb⟩:=two_progs W #[.int .u8 k,.int .u32 od,.int .u8 po,.slice lp ln lcp,.slice tp tn tcp,.slice wp wn wcp,.int .u8 sk,.int .u8 fr,.int .u8 to,.int .i64 q] #[.int .u8 k',.int .u32 od',.int .u8 po',.slice lp' ln' lcp',.slice tp' tn' tcp',.slice wp' wn' wcp',.int .u8 sk',.int .u8 fr',.int .u8 to',.int .i64 q']
 have HW:=hid hW2
 have hb3:Below W.heap.size W (W2.setCell ⟨W.heap.size+1,0,none⟩ (.int .u8 k)):=hb.setCell (by show W.heap.size≤W.heap.size+1;omega) _
 have hx1:=block_put 0 (.int .u8 k) b1
 have hx0:(W2.setCell ⟨W.heap.size+1,0,none⟩ (.int .u8 k)).heap[W.heap.size]?=_:=(Below.heap_setCell _ _ _ _ (by show W.heap.size≠W.heap.size+1;omega)).trans b0
 simp only [sIB,sCZ] at hx1
 have hfz:=block_free 0 b1
 obtain⟨c0,c1,c2,c3,c4,c5,c6,c7,c8,c9⟩:=z0d k od po lp ln lcp tp tn tcp wp wn wcp sk fr to q b0
 obtain⟨d0,d1,d2,d3,d4,d5,d6,d7,d8,d9⟩:=z0d k' od' po' lp' ln' lcp' tp' tn' tcp' wp' wn' wcp' sk' fr' to' q' b1
 obtain⟨a0,a1,a2,a3,a4,a5,a6,a7,a8,a9⟩:=z0d k od po lp ln lcp tp tn tcp wp wn wcp sk fr to q hx0
 obtain⟨e0,e1,e2,e3,e4,e5,e6,e7,e8,e9⟩:=z0d k od' po' lp' ln' lcp' tp' tn' tcp' wp' wn' wcp' sk' fr' to' q' hx1
 have hs:=same_p k od po lp ln lcp tp tn tcp wp wn wcp sk fr to q k od' po' lp' ln' lcp' tp' tn' tcp' wp' wn' wcp' sk' fr' to' q' L T M L' T' M' (W2.setCell ⟨W.heap.size+1,0,none⟩ (.int .u8 k)) (hP.later hb3) (hP'.later hb3) h1 h2
 generalize decide ((⟨k,od,po,L,T,M,sk,fr,to,q⟩:Pg)=⟨k,od',po',L',T',M',sk',fr',to',q'⟩)=bb at *
 have HS:=hid hs
 have HB:=hid hb3
 clear hs hb3 hx1 hx0 b0 b1 hW2 hb hP hP' h1 h2
 go_enter Tryd.func45,Tryd.ntmps45
 go_upto_region 1 with (fail)
 rw [HW.out]
 go_wp2_with fail
 refine HS.out.mono ?_
 rintro e w3 ⟨rfl,hb3⟩
 have HB3:=hid (HB.out.trans (hb3.mono HB.out.size))
 clear hb3 c0 c1 c2 c3 c4 c5 c6 c7 c8 c9 d0 d1 d2 d3 d4 d5 d6 d7 d8 d9 a0 a1 a2 a3 a4 a5 a6 a7 a8 a9 e0 e1 e2 e3 e4 e5 e6 e7 e8 e9
 go_wp2_with fail
 go_ret
 exact⟨rfl,HB3.out⟩
theorem goodplace_any (s w:Int) (k od po:Int) (lp:Option Addr) (ln lcp:Nat) (tp:Option Addr) (tn tcp:Nat) (wp:Option Addr) (wn wcp:Nat) (sk fr to q:Int) (L:List Ln) (T:List Tk) (M:List Ln) (W:World) (hw:Words W) (hP:PgM W lp ln lcp L tp tn tcp T wp wn wcp M) (hok:Pgok ⟨k,od,po,L,T,M,sk,fr,to,q⟩) (h1:1≤s) (h4:s≤4) (hw1:1≤w) (hw4:w≤4) (hn:ln≤400∧tn≤400∧wn≤400) :
 Calls Tryd.prog 46 #[.int .i64 s,.int .i64 w,.agg #[.int .u8 k,.int .u32 od,.int .u8 po,.slice lp ln lcp,.slice tp tn tcp,.slice wp wn wcp,.int .u8 sk,.int .u8 fr,.int .u8 to,.int .i64 q]] W fun e w'=>e=.returned (.bool (decide (od≠0) && decide (po≤1) && decide (1≤L.length) && z0l s L && z0p s w od T && z0l s M && coverB T M L && (decide (po=0) || decide (M.length=0))))∧Below W.heap.size W w':=by
 obtain⟨W2,hW2,hbx,hb2⟩:∃ W2,W.alloc (.cells #[.int .u8 k,.int .u32 od,.int .u8 po,.slice lp ln lcp,.slice tp tn tcp,.slice wp wn wcp,.int .u8 sk,.int .u8 fr,.int .u8 to,.int .i64 q] 33)=W2∧W2.heap[W.heap.size]?=some (.cells #[.int .u8 k,.int .u32 od,.int .u8 po,.slice lp ln lcp,.slice tp tn tcp,.slice wp wn wcp,.int .u8 sk,.int .u8 fr,.int .u8 to,.int .i64 q] 33 (0,0))∧Below W.heap.size W W2:=⟨_,rfl,z0b W _,(Below.refl _ _).alloc (Nat.le_refl _) _⟩
 have HW2:=hid hW2
 have HB2:=hid hb2
 have HX2:=hid hbx
 have HP2:=hid (hP.later hb2)
 have HV2:=hid (hw.later hb2)
 have HBI:Hid (Below W2.heap.size W2 W2):=hid (Below.refl _ _)
 have HLL:=hid hP.l.len
 have HLT:=hid hP.t.len
 have HLM:=hid hP.o.len
 have HOK:=hid hok
 obtain⟨hn1,hn2,hn3⟩:=hn
 have hsk:0≤sk∧sk≤255:=hok.sku
 have hfr:0≤fr∧fr≤255:=hok.frm
 have hto:0≤to∧to≤255:=hok.to
 have hpo:0≤po∧po≤255:=hok.policy
 have x6:IntKind.i64.wrap sk=sk:=IntWalk.i64_in _ (by omega)
 have x7:IntKind.i64.wrap fr=fr:=IntWalk.i64_in _ (by omega)
 have x8:IntKind.i64.wrap to=to:=IntWalk.i64_in _ (by omega)
 obtain⟨res,hg⟩:∃ res,res=(decide (od≠0) && decide (po≤1) && decide (1≤L.length) && z0l s L && z0p s w od T && z0l s M && coverB T M L && (decide (po=0) || decide (M.length=0))):=⟨_,rfl⟩
 have HG:=hid hg
 rw [← hg]
 clear hg hW2 hb2 hbx hP hok hw hsk hfr hto hpo
 obtain⟨a0,a1,a2,a3,a4,a5,a6,a7,a8,a9⟩:=z0d k od po lp ln lcp tp tn tcp wp wn wcp sk fr to q HX2.out
 go_enter Tryd.func46,Tryd.ntmps46
 by_cases t1:od≠0
 case neg =>
  have f1:(od==0)=true:=by simpa using t1
  have f1n:(od != 0)=false:=by simpa using t1
  have HF:Hid (res=false):=hid (by rw [HG.out];rw [decide_eq_false (show ¬ od≠0 by exact t1)];simp)
  go_wp2_with fail
  go_ret
  rw [HW2.out]
  exact⟨by rw [HF.out];rfl,HB2.out.trans (HBI.out.mono HB2.out.size)⟩
 have f1:(od==0)=false:=by simpa using t1
 have f1n:(od != 0)=true:=by simpa using t1
 by_cases t2:po≤1
 case neg =>
  have f2:(po != 0)=true:=by simp;omega
  have f3:(po != 1)=true:=by simp;omega
  have HF:Hid (res=false):=hid (by rw [HG.out];rw [decide_eq_false (show ¬ po≤1 by exact t2)];simp)
  go_wp2_with fail
  go_ret
  rw [HW2.out]
  exact⟨by rw [HF.out];rfl,HB2.out.trans (HBI.out.mono HB2.out.size)⟩
 by_cases p0:po=0
 case pos =>
  have f2:(po != 0)=false:=by simp [p0]
  have f3:(po != 1)=true:=by simp [p0]
  have HP0:=hid p0
  clear p0
  by_cases t3:1≤ln
  case neg =>
   have f4:((ln:Int)==0)=true:=by simp;omega
   have HF:Hid (res=false):=hid (by rw [HG.out];rw [decide_eq_false (show ¬ 1≤L.length by rw [HLL.out];exact t3)];simp)
   go_wp2_with fail
   go_ret
   rw [HW2.out]
   exact⟨by rw [HF.out];rfl,HB2.out.trans (HBI.out.mono HB2.out.size)⟩
  have f4:((ln:Int)==0)=false:=by simp;omega
  go_wp2_with fail
  rw [HW2.out]
  refine (z1q s lp ln lcp L W2 (HV2.out.later HBI.out) (HP2.out.later HBI.out).l HOK.out.lines h1 h4 (by omega)).mono ?_
  rintro e w0 ⟨rfl,hb⟩
  have HB3:=hid (HBI.out.trans (hb.mono HBI.out.size))
  clear hb a0 a1 a2 a3 a4 a5 a6 a7 a8 a9
  obtain⟨a0,a1,a2,a3,a4,a5,a6,a7,a8,a9⟩:=z0d k od po lp ln lcp tp tn tcp wp wn wcp sk fr to q (z0c HX2.out HB3.out)
  cases t4:z0l s L
  case false =>
   have HF:Hid (res=false):=hid (by rw [HG.out];rw [t4];simp)
   go_wp2_with fail
   go_ret
   exact⟨by rw [HF.out];rfl,HB2.out.trans (HB3.out.mono HB2.out.size)⟩
  go_wp2_with fail
  refine (z2a s w k od po lp ln lcp tp tn tcp wp wn wcp sk fr to q T w0 (HV2.out.later HB3.out) (HP2.out.later HB3.out).t HOK.out.takes h1 h4 hw1 hw4 (by omega)).mono ?_
  rintro e w1 ⟨rfl,hb⟩
  have HB4:=hid (HB3.out.trans (hb.mono HB3.out.size))
  clear hb a0 a1 a2 a3 a4 a5 a6 a7 a8 a9
  obtain⟨a0,a1,a2,a3,a4,a5,a6,a7,a8,a9⟩:=z0d k od po lp ln lcp tp tn tcp wp wn wcp sk fr to q (z0c HX2.out HB4.out)
  cases t5:z0p s w od T
  case false =>
   have HF:Hid (res=false):=hid (by rw [HG.out];rw [t5];simp)
   go_wp2_with fail
   go_ret
   exact⟨by rw [HF.out];rfl,HB2.out.trans (HB4.out.mono HB2.out.size)⟩
  go_wp2_with fail
  refine (z1q s wp wn wcp M w1 (HV2.out.later HB4.out) (HP2.out.later HB4.out).o HOK.out.owes h1 h4 (by omega)).mono ?_
  rintro e w2 ⟨rfl,hb⟩
  have HB5:=hid (HB4.out.trans (hb.mono HB4.out.size))
  clear hb a0 a1 a2 a3 a4 a5 a6 a7 a8 a9
  obtain⟨a0,a1,a2,a3,a4,a5,a6,a7,a8,a9⟩:=z0d k od po lp ln lcp tp tn tcp wp wn wcp sk fr to q (z0c HX2.out HB5.out)
  cases t6:z0l s M
  case false =>
   have HF:Hid (res=false):=hid (by rw [HG.out];rw [t6];simp)
   go_wp2_with fail
   go_ret
   exact⟨by rw [HF.out];rfl,HB2.out.trans (HB5.out.mono HB2.out.size)⟩
  go_wp2_with fail
  refine (served_any s w k od po lp ln lcp tp tn tcp wp wn wcp sk fr to q L T M w2 (HP2.out.later HB5.out) HOK.out.lines HOK.out.takes HOK.out.owes h1 h4 t4 t6 t5 ⟨by omega,by omega,by omega⟩).mono ?_
  rintro e w3 ⟨rfl,hb⟩
  have HB6:=hid (HB5.out.trans (hb.mono HB5.out.size))
  clear hb a0 a1 a2 a3 a4 a5 a6 a7 a8 a9
  obtain⟨a0,a1,a2,a3,a4,a5,a6,a7,a8,a9⟩:=z0d k od po lp ln lcp tp tn tcp wp wn wcp sk fr to q (z0c HX2.out HB6.out)
  cases t7:coverB T M L
  case false =>
   have HF:Hid (res=false):=hid (by rw [HG.out];rw [t7];simp)
   go_wp2_with fail
   go_ret
   exact⟨by rw [HF.out];rfl,HB2.out.trans (HB6.out.mono HB2.out.size)⟩
  have HF:Hid (res=true):=hid (by rw [HG.out,decide_eq_true t1,decide_eq_true t2,decide_eq_true (show 1≤L.length by rw [HLL.out];exact t3),t4,t5,t6,t7,decide_eq_true HP0.out];rfl)
  go_wp2_with fail
  go_ret
  exact⟨by rw [HF.out];rfl,HB2.out.trans (HB6.out.mono HB2.out.size)⟩
 have p1:po=1:=by have:=HOK.out.policy;dsimp only at this;omega
 have f2:(po != 0)=true:=by simp [p1]
 have f3:(po != 1)=false:=by simp [p1]
 clear p1
 by_cases t3:1≤ln
 case neg =>
  have f4:((ln:Int)==0)=true:=by simp;omega
  have HF:Hid (res=false):=hid (by rw [HG.out];rw [decide_eq_false (show ¬ 1≤L.length by rw [HLL.out];exact t3)];simp)
  go_wp2_with fail
  go_ret
  rw [HW2.out]
  exact⟨by rw [HF.out];rfl,HB2.out.trans (HBI.out.mono HB2.out.size)⟩
 have f4:((ln:Int)==0)=false:=by simp;omega
 go_wp2_with fail
 rw [HW2.out]
 refine (z1q s lp ln lcp L W2 (HV2.out.later HBI.out) (HP2.out.later HBI.out).l HOK.out.lines h1 h4 (by omega)).mono ?_
 rintro e w0 ⟨rfl,hb⟩
 have HB3:=hid (HBI.out.trans (hb.mono HBI.out.size))
 clear hb a0 a1 a2 a3 a4 a5 a6 a7 a8 a9
 obtain⟨a0,a1,a2,a3,a4,a5,a6,a7,a8,a9⟩:=z0d k od po lp ln lcp tp tn tcp wp wn wcp sk fr to q (z0c HX2.out HB3.out)
 cases t4:z0l s L
 case false =>
  have HF:Hid (res=false):=hid (by rw [HG.out];rw [t4];simp)
  go_wp2_with fail
  go_ret
  exact⟨by rw [HF.out];rfl,HB2.out.trans (HB3.out.mono HB2.out.size)⟩
 go_wp2_with fail
 refine (z2a s w k od po lp ln lcp tp tn tcp wp wn wcp sk fr to q T w0 (HV2.out.later HB3.out) (HP2.out.later HB3.out).t HOK.out.takes h1 h4 hw1 hw4 (by omega)).mono ?_
 rintro e w1 ⟨rfl,hb⟩
 have HB4:=hid (HB3.out.trans (hb.mono HB3.out.size))
 clear hb a0 a1 a2 a3 a4 a5 a6 a7 a8 a9
 obtain⟨a0,a1,a2,a3,a4,a5,a6,a7,a8,a9⟩:=z0d k od po lp ln lcp tp tn tcp wp wn wcp sk fr to q (z0c HX2.out HB4.out)
 cases t5:z0p s w od T
 case false =>
  have HF:Hid (res=false):=hid (by rw [HG.out];rw [t5];simp)
  go_wp2_with fail
  go_ret
  exact⟨by rw [HF.out];rfl,HB2.out.trans (HB4.out.mono HB2.out.size)⟩
 go_wp2_with fail
 refine (z1q s wp wn wcp M w1 (HV2.out.later HB4.out) (HP2.out.later HB4.out).o HOK.out.owes h1 h4 (by omega)).mono ?_
 rintro e w2 ⟨rfl,hb⟩
 have HB5:=hid (HB4.out.trans (hb.mono HB4.out.size))
 clear hb a0 a1 a2 a3 a4 a5 a6 a7 a8 a9
 obtain⟨a0,a1,a2,a3,a4,a5,a6,a7,a8,a9⟩:=z0d k od po lp ln lcp tp tn tcp wp wn wcp sk fr to q (z0c HX2.out HB5.out)
 cases t6:z0l s M
 case false =>
  have HF:Hid (res=false):=hid (by rw [HG.out];rw [t6];simp)
  go_wp2_with fail
  go_ret
  exact⟨by rw [HF.out];rfl,HB2.out.trans (HB5.out.mono HB2.out.size)⟩
 go_wp2_with fail
 refine (served_any s w k od po lp ln lcp tp tn tcp wp wn wcp sk fr to q L T M w2 (HP2.out.later HB5.out) HOK.out.lines HOK.out.takes HOK.out.owes h1 h4 t4 t6 t5 ⟨by omega,by omega,by omega⟩).mono ?_
 rintro e w3 ⟨rfl,hb⟩
 have HB6:=hid (HB5.out.trans (hb.mono HB5.out.size))
 clear hb a0 a1 a2 a3 a4 a5 a6 a7 a8 a9
 obtain⟨a0,a1,a2,a3,a4,a5,a6,a7,a8,a9⟩:=z0d k od po lp ln lcp tp tn tcp wp wn wcp sk fr to q (z0c HX2.out HB6.out)
 cases t7:coverB T M L
 case false =>
  have HF:Hid (res=false):=hid (by rw [HG.out];rw [t7];simp)
  go_wp2_with fail
  go_ret
  exact⟨by rw [HF.out];rfl,HB2.out.trans (HB6.out.mono HB2.out.size)⟩
 by_cases z0:wn=0
 case pos =>
  have f5:((wn:Int)==0)=true:=by simp [z0]
  have HZ0:=hid z0
  clear z0
  have HF:Hid (res=true):=hid (by rw [HG.out,decide_eq_true t1,decide_eq_true t2,decide_eq_true (show 1≤L.length by rw [HLL.out];exact t3),t4,t5,t6,t7,decide_eq_true (show M.length=0 by rw [HLM.out];exact HZ0.out)];simp)
  go_wp2_with fail
  go_ret
  exact⟨by rw [HF.out];rfl,HB2.out.trans (HB6.out.mono HB2.out.size)⟩
 have f5:((wn:Int)==0)=false:=by simp;omega
 have HF:Hid (res=false):=hid (by rw [HG.out,decide_eq_true t1,decide_eq_true t2,decide_eq_true (show 1≤L.length by rw [HLL.out];exact t3),t4,t5,t6,t7,decide_eq_false (show ¬ M.length=0 by rw [HLM.out];exact z0),decide_eq_false p0];rfl)
 go_wp2_with fail
 go_ret
 exact⟨by rw [HF.out];rfl,HB2.out.trans (HB6.out.mono HB2.out.size)⟩
theorem goodcancel_any (s w:Int) (k od po:Int) (lp:Option Addr) (ln lcp:Nat) (tp:Option Addr) (tn tcp:Nat) (wp:Option Addr) (wn wcp:Nat) (sk fr to q:Int) (L:List Ln) (T:List Tk) (M:List Ln) (W:World) (hw:Words W) (hP:PgM W lp ln lcp L tp tn tcp T wp wn wcp M) (hok:Pgok ⟨k,od,po,L,T,M,sk,fr,to,q⟩) (h1:1≤s) (h4:s≤4) (hw1:1≤w) (hw4:w≤4) (hn:ln≤400∧tn≤400∧wn≤400) :
 Calls Tryd.prog 47 #[.int .i64 s,.int .i64 w,.agg #[.int .u8 k,.int .u32 od,.int .u8 po,.slice lp ln lcp,.slice tp tn tcp,.slice wp wn wcp,.int .u8 sk,.int .u8 fr,.int .u8 to,.int .i64 q]] W fun e w'=>e=.returned (.bool (decide (od≠0) && z0p s w od T && z0l s M && decide (1≤T.length+M.length)))∧Below W.heap.size W w':=by
 obtain⟨W2,hW2,hbx,hb2⟩:∃ W2,W.alloc (.cells #[.int .u8 k,.int .u32 od,.int .u8 po,.slice lp ln lcp,.slice tp tn tcp,.slice wp wn wcp,.int .u8 sk,.int .u8 fr,.int .u8 to,.int .i64 q] 33)=W2∧W2.heap[W.heap.size]?=some (.cells #[.int .u8 k,.int .u32 od,.int .u8 po,.slice lp ln lcp,.slice tp tn tcp,.slice wp wn wcp,.int .u8 sk,.int .u8 fr,.int .u8 to,.int .i64 q] 33 (0,0))∧Below W.heap.size W W2:=⟨_,rfl,z0b W _,(Below.refl _ _).alloc (Nat.le_refl _) _⟩
 have HW2:=hid hW2
 have HB2:=hid hb2
 have HX2:=hid hbx
 have HP2:=hid (hP.later hb2)
 have HV2:=hid (hw.later hb2)
 have HBI:Hid (Below W2.heap.size W2 W2):=hid (Below.refl _ _)
 have HLL:=hid hP.l.len
 have HLT:=hid hP.t.len
 have HLM:=hid hP.o.len
 have HOK:=hid hok
 obtain⟨hn1,hn2,hn3⟩:=hn
 have hsk:0≤sk∧sk≤255:=hok.sku
 have hfr:0≤fr∧fr≤255:=hok.frm
 have hto:0≤to∧to≤255:=hok.to
 have hpo:0≤po∧po≤255:=hok.policy
 have x6:IntKind.i64.wrap sk=sk:=IntWalk.i64_in _ (by omega)
 have x7:IntKind.i64.wrap fr=fr:=IntWalk.i64_in _ (by omega)
 have x8:IntKind.i64.wrap to=to:=IntWalk.i64_in _ (by omega)
 obtain⟨res,hg⟩:∃ res,res=(decide (od≠0) && z0p s w od T && z0l s M && decide (1≤T.length+M.length)):=⟨_,rfl⟩
 have HG:=hid hg
 rw [← hg]
 clear hg hW2 hb2 hbx hP hok hw hsk hfr hto hpo
 obtain⟨a0,a1,a2,a3,a4,a5,a6,a7,a8,a9⟩:=z0d k od po lp ln lcp tp tn tcp wp wn wcp sk fr to q HX2.out
 go_enter Tryd.func47,Tryd.ntmps47
 by_cases z1:1≤tn
 case pos =>
  have gtn:decide (0<(tn:Int))=true:=decide_eq_true (by omega)
  have gtnn:decide (0<tn)=true:=decide_eq_true (by omega)
  by_cases t1:od≠0
  case neg =>
   have f1:(od==0)=true:=by simpa using t1
   have f1n:(od != 0)=false:=by simpa using t1
   have HF:Hid (res=false):=hid (by rw [HG.out];rw [decide_eq_false (show ¬ od≠0 by exact t1)];simp)
   go_wp2_with fail
   go_ret
   rw [HW2.out]
   exact⟨by rw [HF.out];rfl,HB2.out.trans (HBI.out.mono HB2.out.size)⟩
  have f1:(od==0)=false:=by simpa using t1
  have f1n:(od != 0)=true:=by simpa using t1
  go_wp2_with fail
  rw [HW2.out]
  refine (z2a s w k od po lp ln lcp tp tn tcp wp wn wcp sk fr to q T W2 (HV2.out.later HBI.out) (HP2.out.later HBI.out).t HOK.out.takes h1 h4 hw1 hw4 (by omega)).mono ?_
  rintro e w0 ⟨rfl,hb⟩
  have HB3:=hid (HBI.out.trans (hb.mono HBI.out.size))
  clear hb a0 a1 a2 a3 a4 a5 a6 a7 a8 a9
  obtain⟨a0,a1,a2,a3,a4,a5,a6,a7,a8,a9⟩:=z0d k od po lp ln lcp tp tn tcp wp wn wcp sk fr to q (z0c HX2.out HB3.out)
  cases t2:z0p s w od T
  case false =>
   have HF:Hid (res=false):=hid (by rw [HG.out];rw [t2];simp)
   go_wp2_with fail
   go_ret
   exact⟨by rw [HF.out];rfl,HB2.out.trans (HB3.out.mono HB2.out.size)⟩
  go_wp2_with fail
  refine (z1q s wp wn wcp M w0 (HV2.out.later HB3.out) (HP2.out.later HB3.out).o HOK.out.owes h1 h4 (by omega)).mono ?_
  rintro e w1 ⟨rfl,hb⟩
  have HB4:=hid (HB3.out.trans (hb.mono HB3.out.size))
  clear hb a0 a1 a2 a3 a4 a5 a6 a7 a8 a9
  obtain⟨a0,a1,a2,a3,a4,a5,a6,a7,a8,a9⟩:=z0d k od po lp ln lcp tp tn tcp wp wn wcp sk fr to q (z0c HX2.out HB4.out)
  cases t3:z0l s M
  case false =>
   have HF:Hid (res=false):=hid (by rw [HG.out];rw [t3];simp)
   go_wp2_with fail
   go_ret
   exact⟨by rw [HF.out];rfl,HB2.out.trans (HB4.out.mono HB2.out.size)⟩
  have HF:Hid (res=true):=hid (by rw [HG.out,decide_eq_true t1,t2,t3,decide_eq_true (show 1≤T.length+M.length by rw [HLT.out,HLM.out];omega)];rfl)
  go_wp2_with fail
  go_ret
  exact⟨by rw [HF.out];rfl,HB2.out.trans (HB4.out.mono HB2.out.size)⟩
 have gtn:decide (0<(tn:Int))=false:=decide_eq_false (by omega)
 have gtnn:decide (0<tn)=false:=decide_eq_false (by omega)
 by_cases z2:1≤wn
 case pos =>
  have gwn:decide (0<(wn:Int))=true:=decide_eq_true (by omega)
  have gwnn:decide (0<wn)=true:=decide_eq_true (by omega)
  by_cases t1:od≠0
  case neg =>
   have f1:(od==0)=true:=by simpa using t1
   have f1n:(od != 0)=false:=by simpa using t1
   have HF:Hid (res=false):=hid (by rw [HG.out];rw [decide_eq_false (show ¬ od≠0 by exact t1)];simp)
   go_wp2_with fail
   go_ret
   rw [HW2.out]
   exact⟨by rw [HF.out];rfl,HB2.out.trans (HBI.out.mono HB2.out.size)⟩
  have f1:(od==0)=false:=by simpa using t1
  have f1n:(od != 0)=true:=by simpa using t1
  go_wp2_with fail
  rw [HW2.out]
  refine (z2a s w k od po lp ln lcp tp tn tcp wp wn wcp sk fr to q T W2 (HV2.out.later HBI.out) (HP2.out.later HBI.out).t HOK.out.takes h1 h4 hw1 hw4 (by omega)).mono ?_
  rintro e w0 ⟨rfl,hb⟩
  have HB3:=hid (HBI.out.trans (hb.mono HBI.out.size))
  clear hb a0 a1 a2 a3 a4 a5 a6 a7 a8 a9
  obtain⟨a0,a1,a2,a3,a4,a5,a6,a7,a8,a9⟩:=z0d k od po lp ln lcp tp tn tcp wp wn wcp sk fr to q (z0c HX2.out HB3.out)
  cases t2:z0p s w od T
  case false =>
   have HF:Hid (res=false):=hid (by rw [HG.out];rw [t2];simp)
   go_wp2_with fail
   go_ret
   exact⟨by rw [HF.out];rfl,HB2.out.trans (HB3.out.mono HB2.out.size)⟩
  go_wp2_with fail
  refine (z1q s wp wn wcp M w0 (HV2.out.later HB3.out) (HP2.out.later HB3.out).o HOK.out.owes h1 h4 (by omega)).mono ?_
  rintro e w1 ⟨rfl,hb⟩
  have HB4:=hid (HB3.out.trans (hb.mono HB3.out.size))
  clear hb a0 a1 a2 a3 a4 a5 a6 a7 a8 a9
  obtain⟨a0,a1,a2,a3,a4,a5,a6,a7,a8,a9⟩:=z0d k od po lp ln lcp tp tn tcp wp wn wcp sk fr to q (z0c HX2.out HB4.out)
  cases t3:z0l s M
  case false =>
   have HF:Hid (res=false):=hid (by rw [HG.out];rw [t3];simp)
   go_wp2_with fail
   go_ret
   exact⟨by rw [HF.out];rfl,HB2.out.trans (HB4.out.mono HB2.out.size)⟩
  have HF:Hid (res=true):=hid (by rw [HG.out,decide_eq_true t1,t2,t3,decide_eq_true (show 1≤T.length+M.length by rw [HLT.out,HLM.out];omega)];rfl)
  go_wp2_with fail
  go_ret
  exact⟨by rw [HF.out];rfl,HB2.out.trans (HB4.out.mono HB2.out.size)⟩
 have gwn:decide (0<(wn:Int))=false:=decide_eq_false (by omega)
 have gwnn:decide (0<wn)=false:=decide_eq_false (by omega)
 by_cases t1:od≠0
 case neg =>
  have f1:(od==0)=true:=by simpa using t1
  have f1n:(od != 0)=false:=by simpa using t1
  have HF:Hid (res=false):=hid (by rw [HG.out];rw [decide_eq_false (show ¬ od≠0 by exact t1)];simp)
  go_wp2_with fail
  go_ret
  rw [HW2.out]
  exact⟨by rw [HF.out];rfl,HB2.out.trans (HBI.out.mono HB2.out.size)⟩
 have f1:(od==0)=false:=by simpa using t1
 have f1n:(od != 0)=true:=by simpa using t1
 have HF:Hid (res=false):=hid (by rw [HG.out,decide_eq_false (show ¬ 1≤T.length+M.length by rw [HLT.out,HLM.out];omega)];simp)
 go_wp2_with fail
 go_ret
 rw [HW2.out]
 exact⟨by rw [HF.out];rfl,HB2.out.trans (HBI.out.mono HB2.out.size)⟩
theorem goodmove_any (s w:Int) (k od po:Int) (lp:Option Addr) (ln lcp:Nat) (tp:Option Addr) (tn tcp:Nat) (wp:Option Addr) (wn wcp:Nat) (sk fr to q:Int) (L:List Ln) (T:List Tk) (M:List Ln) (W:World) (hw:Words W) (hP:PgM W lp ln lcp L tp tn tcp T wp wn wcp M) (hok:Pgok ⟨k,od,po,L,T,M,sk,fr,to,q⟩) (h1:1≤s) (h4:s≤4) (hw1:1≤w) (hw4:w≤4) (hn:ln≤400∧tn≤400∧wn≤400) :
 Calls Tryd.prog 48 #[.int .i64 s,.int .i64 w,.agg #[.int .u8 k,.int .u32 od,.int .u8 po,.slice lp ln lcp,.slice tp tn tcp,.slice wp wn wcp,.int .u8 sk,.int .u8 fr,.int .u8 to,.int .i64 q]] W fun e w'=>e=.returned (.bool (decide (od≠0) && z0p s w od T && decide (1≤T.length)))∧Below W.heap.size W w':=by
 obtain⟨W2,hW2,hbx,hb2⟩:∃ W2,W.alloc (.cells #[.int .u8 k,.int .u32 od,.int .u8 po,.slice lp ln lcp,.slice tp tn tcp,.slice wp wn wcp,.int .u8 sk,.int .u8 fr,.int .u8 to,.int .i64 q] 33)=W2∧W2.heap[W.heap.size]?=some (.cells #[.int .u8 k,.int .u32 od,.int .u8 po,.slice lp ln lcp,.slice tp tn tcp,.slice wp wn wcp,.int .u8 sk,.int .u8 fr,.int .u8 to,.int .i64 q] 33 (0,0))∧Below W.heap.size W W2:=⟨_,rfl,z0b W _,(Below.refl _ _).alloc (Nat.le_refl _) _⟩
 have HW2:=hid hW2
 have HB2:=hid hb2
 have HX2:=hid hbx
 have HP2:=hid (hP.later hb2)
 have HV2:=hid (hw.later hb2)
 have HBI:Hid (Below W2.heap.size W2 W2):=hid (Below.refl _ _)
 have HLL:=hid hP.l.len
 have HLT:=hid hP.t.len
 have HLM:=hid hP.o.len
 have HOK:=hid hok
 obtain⟨hn1,hn2,hn3⟩:=hn
 have hsk:0≤sk∧sk≤255:=hok.sku
 have hfr:0≤fr∧fr≤255:=hok.frm
 have hto:0≤to∧to≤255:=hok.to
 have hpo:0≤po∧po≤255:=hok.policy
 have x6:IntKind.i64.wrap sk=sk:=IntWalk.i64_in _ (by omega)
 have x7:IntKind.i64.wrap fr=fr:=IntWalk.i64_in _ (by omega)
 have x8:IntKind.i64.wrap to=to:=IntWalk.i64_in _ (by omega)
 obtain⟨res,hg⟩:∃ res,res=(decide (od≠0) && z0p s w od T && decide (1≤T.length)):=⟨_,rfl⟩
 have HG:=hid hg
 rw [← hg]
 clear hg hW2 hb2 hbx hP hok hw hsk hfr hto hpo
 obtain⟨a0,a1,a2,a3,a4,a5,a6,a7,a8,a9⟩:=z0d k od po lp ln lcp tp tn tcp wp wn wcp sk fr to q HX2.out
 go_enter Tryd.func48,Tryd.ntmps48
 by_cases t1:od≠0
 case neg =>
  have f1:(od==0)=true:=by simpa using t1
  have f1n:(od != 0)=false:=by simpa using t1
  have HF:Hid (res=false):=hid (by rw [HG.out];rw [decide_eq_false (show ¬ od≠0 by exact t1)];simp)
  go_wp2_with fail
  go_ret
  rw [HW2.out]
  exact⟨by rw [HF.out];rfl,HB2.out.trans (HBI.out.mono HB2.out.size)⟩
 have f1:(od==0)=false:=by simpa using t1
 have f1n:(od != 0)=true:=by simpa using t1
 by_cases t3:1≤tn
 case neg =>
  have gtn:decide (0<(tn:Int))=false:=decide_eq_false (by omega)
  have gtnn:decide (0<tn)=false:=decide_eq_false (by omega)
  have HF:Hid (res=false):=hid (by rw [HG.out];rw [decide_eq_false (show ¬ 1≤T.length by rw [HLT.out];exact t3)];simp)
  go_wp2_with fail
  go_ret
  rw [HW2.out]
  exact⟨by rw [HF.out];rfl,HB2.out.trans (HBI.out.mono HB2.out.size)⟩
 have gtn:decide (0<(tn:Int))=true:=decide_eq_true (by omega)
 have gtnn:decide (0<tn)=true:=decide_eq_true (by omega)
 go_wp2_with fail
 rw [HW2.out]
 refine (z2a s w k od po lp ln lcp tp tn tcp wp wn wcp sk fr to q T W2 (HV2.out.later HBI.out) (HP2.out.later HBI.out).t HOK.out.takes h1 h4 hw1 hw4 (by omega)).mono ?_
 rintro e w0 ⟨rfl,hb⟩
 have HB3:=hid (HBI.out.trans (hb.mono HBI.out.size))
 clear hb a0 a1 a2 a3 a4 a5 a6 a7 a8 a9
 obtain⟨a0,a1,a2,a3,a4,a5,a6,a7,a8,a9⟩:=z0d k od po lp ln lcp tp tn tcp wp wn wcp sk fr to q (z0c HX2.out HB3.out)
 cases t2:z0p s w od T
 case false =>
  have HF:Hid (res=false):=hid (by rw [HG.out];rw [t2];simp)
  go_wp2_with fail
  go_ret
  exact⟨by rw [HF.out];rfl,HB2.out.trans (HB3.out.mono HB2.out.size)⟩
 have HF:Hid (res=true):=hid (by rw [HG.out,decide_eq_true t1,t2,decide_eq_true (show 1≤T.length by rw [HLT.out];exact t3)];rfl)
 go_wp2_with fail
 go_ret
 exact⟨by rw [HF.out];rfl,HB2.out.trans (HB3.out.mono HB2.out.size)⟩
theorem goodtransfer_any (s w:Int) (k od po:Int) (lp:Option Addr) (ln lcp:Nat) (tp:Option Addr) (tn tcp:Nat) (wp:Option Addr) (wn wcp:Nat) (sk fr to q:Int) (L:List Ln) (T:List Tk) (M:List Ln) (W:World) (hw:Words W) (hP:PgM W lp ln lcp L tp tn tcp T wp wn wcp M) (hok:Pgok ⟨k,od,po,L,T,M,sk,fr,to,q⟩) (h1:1≤s) (h4:s≤4) (hw1:1≤w) (hw4:w≤4) (hn:ln≤400∧tn≤400∧wn≤400) :
 Calls Tryd.prog 50 #[.int .i64 s,.int .i64 w,.agg #[.int .u8 k,.int .u32 od,.int .u8 po,.slice lp ln lcp,.slice tp tn tcp,.slice wp wn wcp,.int .u8 sk,.int .u8 fr,.int .u8 to,.int .i64 q]] W fun e w'=>e=.returned (.bool (decide (sk<s) && decide (fr<w) && decide (to<w) && decide (fr≠to) && decide (1≤q)))∧Below W.heap.size W w':=by
 obtain⟨W2,hW2,hbx,hb2⟩:∃ W2,W.alloc (.cells #[.int .u8 k,.int .u32 od,.int .u8 po,.slice lp ln lcp,.slice tp tn tcp,.slice wp wn wcp,.int .u8 sk,.int .u8 fr,.int .u8 to,.int .i64 q] 33)=W2∧W2.heap[W.heap.size]?=some (.cells #[.int .u8 k,.int .u32 od,.int .u8 po,.slice lp ln lcp,.slice tp tn tcp,.slice wp wn wcp,.int .u8 sk,.int .u8 fr,.int .u8 to,.int .i64 q] 33 (0,0))∧Below W.heap.size W W2:=⟨_,rfl,z0b W _,(Below.refl _ _).alloc (Nat.le_refl _) _⟩
 have HW2:=hid hW2
 have HB2:=hid hb2
 have HX2:=hid hbx
 have HP2:=hid (hP.later hb2)
 have HV2:=hid (hw.later hb2)
 have HBI:Hid (Below W2.heap.size W2 W2):=hid (Below.refl _ _)
 have HLL:=hid hP.l.len
 have HLT:=hid hP.t.len
 have HLM:=hid hP.o.len
 have HOK:=hid hok
 obtain⟨hn1,hn2,hn3⟩:=hn
 have hsk:0≤sk∧sk≤255:=hok.sku
 have hfr:0≤fr∧fr≤255:=hok.frm
 have hto:0≤to∧to≤255:=hok.to
 have hpo:0≤po∧po≤255:=hok.policy
 have x6:IntKind.i64.wrap sk=sk:=IntWalk.i64_in _ (by omega)
 have x7:IntKind.i64.wrap fr=fr:=IntWalk.i64_in _ (by omega)
 have x8:IntKind.i64.wrap to=to:=IntWalk.i64_in _ (by omega)
 obtain⟨res,hg⟩:∃ res,res=(decide (sk<s) && decide (fr<w) && decide (to<w) && decide (fr≠to) && decide (1≤q)):=⟨_,rfl⟩
 have HG:=hid hg
 rw [← hg]
 clear hg hW2 hb2 hbx hP hok hw hsk hfr hto hpo
 obtain⟨a0,a1,a2,a3,a4,a5,a6,a7,a8,a9⟩:=z0d k od po lp ln lcp tp tn tcp wp wn wcp sk fr to q HX2.out
 go_enter Tryd.func50,Tryd.ntmps50
 by_cases t1:sk<s
 case neg =>
  have dt1:decide (sk<s)=false:=decide_eq_false (by omega)
  have HF:Hid (res=false):=hid (by rw [HG.out];rw [decide_eq_false (show ¬ sk<s by exact t1)];simp)
  go_wp2_with fail
  go_ret
  rw [HW2.out]
  exact⟨by rw [HF.out];rfl,HB2.out.trans (HBI.out.mono HB2.out.size)⟩
 have dt1:decide (sk<s)=true:=decide_eq_true (by omega)
 by_cases t2:fr<w
 case neg =>
  have dt2:decide (fr<w)=false:=decide_eq_false (by omega)
  have HF:Hid (res=false):=hid (by rw [HG.out];rw [decide_eq_false (show ¬ fr<w by exact t2)];simp)
  go_wp2_with fail
  go_ret
  rw [HW2.out]
  exact⟨by rw [HF.out];rfl,HB2.out.trans (HBI.out.mono HB2.out.size)⟩
 have dt2:decide (fr<w)=true:=decide_eq_true (by omega)
 by_cases t3:to<w
 case neg =>
  have dt3:decide (to<w)=false:=decide_eq_false (by omega)
  have HF:Hid (res=false):=hid (by rw [HG.out];rw [decide_eq_false (show ¬ to<w by exact t3)];simp)
  go_wp2_with fail
  go_ret
  rw [HW2.out]
  exact⟨by rw [HF.out];rfl,HB2.out.trans (HBI.out.mono HB2.out.size)⟩
 have dt3:decide (to<w)=true:=decide_eq_true (by omega)
 by_cases t4:fr≠to
 case neg =>
  have dt4:(fr != to)=false:=by simpa using t4
  have HF:Hid (res=false):=hid (by rw [HG.out];rw [decide_eq_false (show ¬ fr≠to by exact t4)];simp)
  go_wp2_with fail
  go_ret
  rw [HW2.out]
  exact⟨by rw [HF.out];rfl,HB2.out.trans (HBI.out.mono HB2.out.size)⟩
 have dt4:(fr != to)=true:=by simpa using t4
 by_cases t5:1≤q
 case neg =>
  have dt5:decide (1≤q)=false:=decide_eq_false (by omega)
  have HF:Hid (res=false):=hid (by rw [HG.out];rw [decide_eq_false (show ¬ 1≤q by exact t5)];simp)
  go_wp2_with fail
  go_ret
  rw [HW2.out]
  exact⟨by rw [HF.out];rfl,HB2.out.trans (HBI.out.mono HB2.out.size)⟩
 have dt5:decide (1≤q)=true:=decide_eq_true (by omega)
 have HF:Hid (res=true):=hid (by rw [HG.out,decide_eq_true t1,decide_eq_true t2,decide_eq_true t3,decide_eq_true t4,decide_eq_true t5];rfl)
 go_wp2_with fail
 go_ret
 rw [HW2.out]
 exact⟨by rw [HF.out];rfl,HB2.out.trans (HBI.out.mono HB2.out.size)⟩
end Go.Proofs.YtclbkfpbdidaiaaDoor
