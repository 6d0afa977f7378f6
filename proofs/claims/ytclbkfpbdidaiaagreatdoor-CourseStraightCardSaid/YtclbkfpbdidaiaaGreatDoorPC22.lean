import Derived.Test.YtclbkfpbdidaiaaGreatDoorPC21
namespace Go.Proofs.YtclbkfpbdidaiaaGreatDoor
open Go.Lib (hid)
set_option maxHeartbeats 8000000
open Go.RowKit Go.ChangeShapes Go.WideShapes
set_option linter.unusedVariables false
set_option maxRecDepth 10000
theorem rcover_any (k od po:Int) (lp:Option Addr) (ln lcp:Nat) (tp:Option Addr) (tn tcp:Nat) (wp:Option Addr) (wn wcp:Nat) (sk fr to q:Int) (L:List Ln) (T:List Tk) (M:List Ln) (W:World) (hP:PgM W lp ln lcp L tp tn tcp T wp wn wcp M) (hL:∀ x∈L,Lnok x) (hT:∀ x∈T,Tkok x) (hM:∀ x∈M,Lnok x) (h1:ln≤1000∧tn≤1000∧wn≤1000) :
 Calls Tryz.prog 37 #[.agg #[.int .u8 k,.int .u32 od,.int .u8 po,.slice lp ln lcp,.slice tp tn tcp,.slice wp wn wcp,.int .u8 sk,.int .u8 fr,.int .u8 to,.int .i64 q]] W fun e w'=>e=.returned (.bool (z2i T M L))∧Below W.heap.size W w':=by
 have hb1:Below W.heap.size W (W.alloc (.cells #[.int .u8 k,.int .u32 od,.int .u8 po,.slice lp ln lcp,.slice tp tn tcp,.slice wp wn wcp,.int .u8 sk,.int .u8 fr,.int .u8 to,.int .i64 q] 26)):=(Below.refl _ _).alloc (Nat.le_refl _) _
 have HB1:=hid hb1
 have HP:=hid (hP.later hb1)
 have HX:=hid (z0c W (.cells #[.int .u8 k,.int .u32 od,.int .u8 po,.slice lp ln lcp,.slice tp tn tcp,.slice wp wn wcp,.int .u8 sk,.int .u8 fr,.int .u8 to,.int .i64 q] 26))
 have HA:=hid fun (s:Int) w (h:PgM w lp ln lcp L tp tn tcp T wp wn wcp M)=>z7u tp tn tcp T wp wn wcp M s w h.t h.o hT hM h1.2.1 h1.2.2
 have HBB:=hid fun (s:Int) w (h:PgM w lp ln lcp L tp tn tcp T wp wn wcp M)=>z7u none 0 0 [] lp ln lcp L s w (SlG.empty w) h.l (fun x hx=>by cases hx) hL (by omega) h1.1
 clear hP hL hT hM h1 hb1
 go_enter Tryz.func37,Tryz.ntmps37
 go_wp2_with fail
 generalize W.alloc (.cells #[.int .u8 k,.int .u32 od,.int .u8 po,.slice lp ln lcp,.slice tp tn tcp,.slice wp wn wcp,.int .u8 sk,.int .u8 fr,.int .u8 to,.int .i64 q] 26)=W1 at *
 go_loopw [3] (fun i wr=>∃ j:Nat,j≤4∧i=.int .i64 j∧Hid (Below W1.heap.size W1 wr)∧Hid (∀ i,i<j→z3y T M L i=true)) (fun i _=>4-(Go.RowKit.intOf i).toNat)
 case atStart=>exact⟨0,by omega,rfl,hid (Below.refl _ _),hid fun i hi=>by omega⟩
 case round =>
  obtain⟨j,hj,rfl,HB,HE⟩:=hrel
  by_cases hlt:j<4
  case neg =>
   obtain rfl:j=4:=by omega
   have HF:=hid (cover_true T M L HE.out)
   go_wp2_with fail
   go_ret
   exact⟨by rw [HF.out];rfl,HB1.out.trans (HB.out.mono HB1.out.size)⟩
  have hlt':(j:Int)<4:=by omega
  have hwj:IntKind.u8.wrap (j:Int)=j:=IntWalk.u8_in _ (by omega)
  obtain⟨_,_,_,a3,a4,a5,_,_,_,_⟩:=z0d k od po lp ln lcp tp tn tcp wp wn wcp sk fr to q (z0b HX.out HB.out)
  have hca:=HA.out (j:Int) wr (HP.out.later HB.out)
  have HFA:=hid (cover_false T M L j hlt)
  have hcv:z3y T M L j=(okB (z1c T M j) && okB (z1c [] L j) && decide (z1c T M j=z1c [] L j)):=rfl
  have HCV:=hid hcv
  clear hcv
  generalize hz1:z1c T M (j:Int)=z1 at *
  generalize hz2:z1c [] L (j:Int)=z2 at *
  go_wp2_with fail
  refine hca.mono ?_
  rintro e w2 ⟨rfl,h2⟩
  have HB2:=hid (HB.out.trans (h2.mono HB.out.size))
  have hcb:=HBB.out (j:Int) w2 (HP.out.later HB2.out)
  rw [hz2] at hcb
  clear hca h2 a3 a4 a5
  obtain⟨_,_,_,a3,a4,a5,_,_,_,_⟩:=z0d k od po lp ln lcp tp tn tcp wp wn wcp sk fr to q (z0b HX.out HB2.out)
  go_wp2_with fail
  refine hcb.mono ?_
  rintro e w3 ⟨rfl,h3⟩
  have HB3:=hid (HB2.out.trans (h3.mono HB2.out.size))
  clear hcb h3 a3 a4 a5 hz1 hz2
  cases o1:okB z1 with
  | false =>
   have HF:=hid (HFA.out (by rw [HCV.out,o1];rfl))
   go_wp2_with fail
   go_ret
   exact⟨by rw [HF.out];rfl,HB1.out.trans (HB3.out.mono HB1.out.size)⟩
  | true =>
   cases o2:okB z2 with
   | false =>
    have HF:=hid (HFA.out (by rw [HCV.out,o1,o2];rfl))
    go_wp2_with fail
    go_ret
    exact⟨by rw [HF.out];rfl,HB1.out.trans (HB3.out.mono HB1.out.size)⟩
   | true =>
    have v1:val z1=z1:=z6t _ ((z3x _).1 o1)
    have v2:val z2=z2:=z6t _ ((z3x _).1 o2)
    by_cases hz:z1=z2
    · have hd:(z1 != z2)=false:=by simpa using hz
      have HT:Hid (z3y T M L j=true):=hid (by rw [HCV.out,o1,o2,decide_eq_true hz];rfl)
      clear hz
      go_wp2_with fail
      go_roundw
      case rel =>
       refine⟨j+1,by omega,by go_num,HB3,hid fun i hi=>?_⟩
       by_cases e:i=j
       · subst e;exact HT.out
       · exact HE.out i (by omega)
      case measure=>simp [Go.RowKit.intOf];omega
    · have hd:(z1 != z2)=true:=by simpa using hz
      have HF:=hid (HFA.out (by rw [HCV.out,o1,o2,decide_eq_false hz];rfl))
      clear hz
      go_wp2_with fail
      go_ret
      exact⟨by rw [HF.out];rfl,HB1.out.trans (HB3.out.mono HB1.out.size)⟩
theorem ask1 (s w od po:Int) (L:List Ln) (T:List Tk) (M:List Ln) (sk fr to q:Int):askP s w ⟨1,od,po,L,T,M,sk,fr,to,q⟩=(decide (od≠0) && decide (po≤1) && decide (1≤L.length) && z0q s L && z0s s w od T && z0q s M && z2i T M L && (decide (po=0) || decide (M.length=0))):=rfl
theorem qof1 (od po:Int) (L:List Ln) (T:List Tk) (M:List Ln) (sk fr to q:Int):qofP ⟨1,od,po,L,T,M,sk,fr,to,q⟩=⟨1,od,po,L,T,M,0,0,0,0⟩:=rfl
theorem rgood1 (s w:Int) (od po:Int) (lp:Option Addr) (ln lcp:Nat) (tp:Option Addr) (tn tcp:Nat) (wp:Option Addr) (wn wcp:Nat) (sk fr to q:Int) (L:List Ln) (T:List Tk) (M:List Ln) (W:World) (hs:z0m s w=true) (hP:PgM W lp ln lcp L tp tn tcp T wp wn wcp M) (hok:Pgok ⟨1,od,po,L,T,M,sk,fr,to,q⟩) (h1:ln≤1000∧tn≤1000∧wn≤1000) :
 Calls Tryz.prog 8 #[.int .i64 s,.int .i64 w,.agg #[.int .u8 1,.int .u32 od,.int .u8 po,.slice lp ln lcp,.slice tp tn tcp,.slice wp wn wcp,.int .u8 sk,.int .u8 fr,.int .u8 to,.int .i64 q]] W fun e w'=>e=.returned (.bool (z0l s w ⟨1,od,po,L,T,M,sk,fr,to,q⟩))∧Below W.heap.size W w':=by
 have hg:z0l s w ⟨1,od,po,L,T,M,sk,fr,to,q⟩=((decide (od≠0) && decide (po≤1) && decide (1≤L.length) && z0q s L && z0s s w od T && z0q s M && z2i T M L && (decide (po=0) || decide (M.length=0))) && decide ((⟨1,od,po,L,T,M,sk,fr,to,q⟩:Pg)=⟨1,od,po,L,T,M,0,0,0,0⟩)):=by
  show (z0m s w && askP s w ⟨1,od,po,L,T,M,sk,fr,to,q⟩ && decide ((⟨1,od,po,L,T,M,sk,fr,to,q⟩:Pg)=qofP ⟨1,od,po,L,T,M,sk,fr,to,q⟩))=_
  rw [hs,Bool.true_and,ask1,qof1]
 have hs4:1≤s∧s≤4∧1≤w∧w≤4:=by
  unfold z0m at hs
  simp only [Bool.and_eq_true,decide_eq_true_eq] at hs
  omega
 obtain⟨W2,hW2,b0,b1,hb⟩:=z2o W #[.int .u8 1,.int .u32 od,.int .u8 po,.slice lp ln lcp,.slice tp tn tcp,.slice wp wn wcp,.int .u8 sk,.int .u8 fr,.int .u8 to,.int .i64 q] #[.int .u8 1,.int .u32 od,.int .u8 po,.slice lp ln lcp,.slice tp tn tcp,.slice wp wn wcp,.int .u8 0,.int .u8 0,.int .u8 0,.int .i64 0]
 have HW:=hid hW2
 have HB:=hid hb
 have HX:=hid b0
 have HY:=hid b1
 have HP:=hid (hP.later hb)
 have HLL:=hid hP.l.len
 have HLT:=hid hP.t.len
 have HLM:=hid hP.o.len
 have hsk:0≤sk∧sk≤255:=hok.sku
 have hfr:0≤fr∧fr≤255:=hok.frm
 have hto:0≤to∧to≤255:=hok.to
 have hpo:0≤po∧po≤255:=hok.policy
 have HLI:=hid fun w' (h:Below W2.heap.size W2 w')=>z7v s lp ln lcp L w' (HP.out.later h).l hok.lines h1.1
 have HTA:=hid fun w' (h:Below W2.heap.size W2 w')=>z5y s w 1 od po lp ln lcp tp tn tcp wp wn wcp sk fr to q T w' (HP.out.later h).t hok.takes h1.2.1
 have HLM2:=hid fun w' (h:Below W2.heap.size W2 w')=>z7v s wp wn wcp M w' (HP.out.later h).o hok.owes h1.2.2
 have HCV:=hid fun w' (h:Below W2.heap.size W2 w')=>rcover_any 1 od po lp ln lcp tp tn tcp wp wn wcp sk fr to q L T M w' (HP.out.later h) hok.lines hok.takes hok.owes h1
 have HSA:=hid fun w' (h:Below W2.heap.size W2 w')=>z7t 1 od po lp ln lcp tp tn tcp wp wn wcp sk fr to q 1 od po lp ln lcp tp tn tcp wp wn wcp 0 0 0 0 L T M L T M w' (HP.out.later h) ⟨(HP.out.later h).l,(HP.out.later h).t,(HP.out.later h).o⟩ h1 ⟨h1.1,h1.2.1,h1.2.2⟩
 have HC:=hid fun w' (h:Below W2.heap.size W2 w')=>z0d 1 od po lp ln lcp tp tn tcp wp wn wcp sk fr to q (z0b HX.out h)
 have HD:=hid fun w' (h:Below W2.heap.size W2 w')=>z0d 1 od po lp ln lcp tp tn tcp wp wn wcp 0 0 0 0 (z0b HY.out h)
 have y1:decide (s<1)=false:=decide_eq_false (by omega)
 have y2:decide (4<s)=false:=decide_eq_false (by omega)
 have y3:decide (w<1)=false:=decide_eq_false (by omega)
 have y4:decide (4<w)=false:=decide_eq_false (by omega)
 have x6:IntKind.i64.wrap sk=sk:=IntWalk.i64_in _ (by omega)
 have x7:IntKind.i64.wrap fr=fr:=IntWalk.i64_in _ (by omega)
 have x8:IntKind.i64.wrap to=to:=IntWalk.i64_in _ (by omega)
 have HG:=hid hg
 have H1:=hid h1
 clear hg hs hs4 hW2 b0 b1 hb hP hok hsk hfr hto hpo
 by_cases t0:od≠0
 case neg =>
  have f0:(od != 0)=false:=by simpa using t0
  have HF:Hid (z0l s w ⟨1,od,po,L,T,M,sk,fr,to,q⟩=false):=hid (by rw [HG.out];rw [decide_eq_false t0];simp)
  go_enter Tryz.func8,Tryz.ntmps8
  go_wp2_with fail
  go_ret
  rw [HW.out]
  exact⟨by rw [HF.out];rfl,HB.out.trans ((Below.refl _ _).mono HB.out.size)⟩
 have f0:(od != 0)=true:=by simpa using t0
 by_cases t1:po≤1
 case neg =>
  have f1:decide (po≤1)=false:=decide_eq_false t1
  have HF:Hid (z0l s w ⟨1,od,po,L,T,M,sk,fr,to,q⟩=false):=hid (by rw [HG.out];rw [decide_eq_false t1];simp)
  go_enter Tryz.func8,Tryz.ntmps8
  go_wp2_with fail
  go_ret
  rw [HW.out]
  exact⟨by rw [HF.out];rfl,HB.out.trans ((Below.refl _ _).mono HB.out.size)⟩
 have f1:decide (po≤1)=true:=decide_eq_true t1
 by_cases t2:1≤ln
 case neg =>
  have f2:decide (0<(ln:Int))=false:=decide_eq_false (by omega)
  have f2n:decide (0<ln)=false:=decide_eq_false (by omega)
  have HF:Hid (z0l s w ⟨1,od,po,L,T,M,sk,fr,to,q⟩=false):=hid (by rw [HG.out];rw [decide_eq_false (show ¬ 1≤L.length by rw [HLL.out];exact t2)];simp)
  go_enter Tryz.func8,Tryz.ntmps8
  go_wp2_with fail
  go_ret
  rw [HW.out]
  exact⟨by rw [HF.out];rfl,HB.out.trans ((Below.refl _ _).mono HB.out.size)⟩
 have f2:decide (0<(ln:Int))=true:=decide_eq_true (by omega)
 have f2n:decide (0<ln)=true:=decide_eq_true (by omega)
 obtain⟨a0,a1,a2,a3,a4,a5,a6,a7,a8,a9⟩:=HC.out W2 (Below.refl _ _)
 go_enter Tryz.func8,Tryz.ntmps8
 go_wp2_with fail
 rw [HW.out]
 have hc0:=HLI.out W2 (Below.refl _ _)
 refine hc0.mono ?_
 rintro e w0 ⟨rfl,hb0⟩
 have HB0:Hid (Below W2.heap.size W2 w0):=hid (hb0)
 clear hc0 hb0 a0 a1 a2 a3 a4 a5 a6 a7 a8 a9
 obtain⟨a0,a1,a2,a3,a4,a5,a6,a7,a8,a9⟩:=HC.out w0 HB0.out
 cases t3:z0q s L
 case false =>
  have HF:Hid (z0l s w ⟨1,od,po,L,T,M,sk,fr,to,q⟩=false):=hid (by rw [HG.out];rw [t3];simp)
  go_wp2_with fail
  go_ret
  exact⟨by rw [HF.out];rfl,HB.out.trans (HB0.out.mono HB.out.size)⟩
 go_wp2_with fail
 have hc1:=HTA.out w0 HB0.out
 refine hc1.mono ?_
 rintro e w1 ⟨rfl,hb1⟩
 have HB1:Hid (Below W2.heap.size W2 w1):=hid (HB0.out.trans (hb1.mono HB0.out.size))
 clear hc1 hb1 a0 a1 a2 a3 a4 a5 a6 a7 a8 a9
 obtain⟨a0,a1,a2,a3,a4,a5,a6,a7,a8,a9⟩:=HC.out w1 HB1.out
 cases t4:z0s s w od T
 case false =>
  have HF:Hid (z0l s w ⟨1,od,po,L,T,M,sk,fr,to,q⟩=false):=hid (by rw [HG.out];rw [t4];simp)
  go_wp2_with fail
  go_ret
  exact⟨by rw [HF.out];rfl,HB.out.trans (HB1.out.mono HB.out.size)⟩
 go_wp2_with fail
 have hc2:=HLM2.out w1 HB1.out
 refine hc2.mono ?_
 rintro e w2 ⟨rfl,hb2⟩
 have HB2:Hid (Below W2.heap.size W2 w2):=hid (HB1.out.trans (hb2.mono HB1.out.size))
 clear hc2 hb2 a0 a1 a2 a3 a4 a5 a6 a7 a8 a9
 obtain⟨a0,a1,a2,a3,a4,a5,a6,a7,a8,a9⟩:=HC.out w2 HB2.out
 cases t5:z0q s M
 case false =>
  have HF:Hid (z0l s w ⟨1,od,po,L,T,M,sk,fr,to,q⟩=false):=hid (by rw [HG.out];rw [t5];simp)
  go_wp2_with fail
  go_ret
  exact⟨by rw [HF.out];rfl,HB.out.trans (HB2.out.mono HB.out.size)⟩
 go_wp2_with fail
 have hc3:=HCV.out w2 HB2.out
 refine hc3.mono ?_
 rintro e w3 ⟨rfl,hb3⟩
 have HB3:Hid (Below W2.heap.size W2 w3):=hid (HB2.out.trans (hb3.mono HB2.out.size))
 clear hc3 hb3 a0 a1 a2 a3 a4 a5 a6 a7 a8 a9
 obtain⟨a0,a1,a2,a3,a4,a5,a6,a7,a8,a9⟩:=HC.out w3 HB3.out
 cases t6:z2i T M L
 case false =>
  have HF:Hid (z0l s w ⟨1,od,po,L,T,M,sk,fr,to,q⟩=false):=hid (by rw [HG.out];rw [t6];simp)
  go_wp2_with fail
  go_ret
  exact⟨by rw [HF.out];rfl,HB.out.trans (HB3.out.mono HB.out.size)⟩
 have HO:Hid ((po=0∨wn=0)∨¬ (po=0∨wn=0)):=hid (Classical.em _)
 by_cases g0:po=0
 case neg =>
  have f8:(po==0)=false:=by simpa using g0
  by_cases g1:wn=0
  case neg =>
   have f9:((wn:Int)==0)=false:=by simp;omega
   have f9n:(wn==0)=false:=by simpa using g1
   have HF:Hid (z0l s w ⟨1,od,po,L,T,M,sk,fr,to,q⟩=false):=hid (by rw [HG.out];rw [decide_eq_false g0,decide_eq_false (show ¬ M.length=0 by rw [HLM.out];exact g1)];simp)
   go_wp2_with fail
   go_ret
   exact⟨by rw [HF.out];rfl,HB.out.trans (HB3.out.mono HB.out.size)⟩
  have f9:((wn:Int)==0)=true:=by simp;omega
  have f9n:(wn==0)=true:=by simpa using g1
  have HOR:Hid ((decide (po=0) || decide (M.length=0))=true):=hid (by rw [decide_eq_true (show M.length=0 by rw [HLM.out];exact g1)];simp)
  clear g0 g1
  have HF:Hid (z0l s w ⟨1,od,po,L,T,M,sk,fr,to,q⟩=decide ((⟨1,od,po,L,T,M,sk,fr,to,q⟩:Pg)=⟨1,od,po,L,T,M,0,0,0,0⟩)):=hid (by rw [HG.out,decide_eq_true t0,decide_eq_true t1,decide_eq_true (show 1≤L.length by rw [HLL.out];exact t2),t3,t4,t5,t6,HOR.out];simp)
  clear HG
  generalize decide ((⟨1,od,po,L,T,M,sk,fr,to,q⟩:Pg)=⟨1,od,po,L,T,M,0,0,0,0⟩)=bb at *
  obtain⟨b0,b1,b2,b3,b4,b5,b6,b7,b8,b9⟩:=HD.out w3 HB3.out
  go_wp2_with fail
  refine (HSA.out w3 HB3.out).mono ?_
  rintro e w9 ⟨rfl,hb9⟩
  have HB9:=hid (HB3.out.trans (hb9.mono HB3.out.size))
  clear hb9 a0 a1 a2 a3 a4 a5 a6 a7 a8 a9 b0 b1 b2 b3 b4 b5 b6 b7 b8 b9
  go_wp2_with fail
  go_ret
  exact⟨by rw [HF.out];rfl,HB.out.trans (HB9.out.mono HB.out.size)⟩
 have f8:(po==0)=true:=by simpa using g0
 have HOR:Hid ((decide (po=0) || decide (M.length=0))=true):=hid (by rw [decide_eq_true g0];rfl)
 clear g0
 have HF:Hid (z0l s w ⟨1,od,po,L,T,M,sk,fr,to,q⟩=decide ((⟨1,od,po,L,T,M,sk,fr,to,q⟩:Pg)=⟨1,od,po,L,T,M,0,0,0,0⟩)):=hid (by rw [HG.out,decide_eq_true t0,decide_eq_true t1,decide_eq_true (show 1≤L.length by rw [HLL.out];exact t2),t3,t4,t5,t6,HOR.out];simp)
 clear HG
 generalize decide ((⟨1,od,po,L,T,M,sk,fr,to,q⟩:Pg)=⟨1,od,po,L,T,M,0,0,0,0⟩)=bb at *
 obtain⟨b0,b1,b2,b3,b4,b5,b6,b7,b8,b9⟩:=HD.out w3 HB3.out
 go_wp2_with fail
 refine (HSA.out w3 HB3.out).mono ?_
 rintro e w9 ⟨rfl,hb9⟩
 have HB9:=hid (HB3.out.trans (hb9.mono HB3.out.size))
 clear hb9 a0 a1 a2 a3 a4 a5 a6 a7 a8 a9 b0 b1 b2 b3 b4 b5 b6 b7 b8 b9
 go_wp2_with fail
 go_ret
 exact⟨by rw [HF.out];rfl,HB.out.trans (HB9.out.mono HB.out.size)⟩
theorem ask2 (s w od po:Int) (L:List Ln) (T:List Tk) (M:List Ln) (sk fr to q:Int):askP s w ⟨2,od,po,L,T,M,sk,fr,to,q⟩=(decide (od≠0) && z0s s w od T && z0q s M && decide (1≤T.length+M.length)):=rfl
theorem qof2 (od po:Int) (L:List Ln) (T:List Tk) (M:List Ln) (sk fr to q:Int):qofP ⟨2,od,po,L,T,M,sk,fr,to,q⟩=⟨2,od,0,[],T,M,0,0,0,0⟩:=rfl
theorem rgood2 (s w:Int) (od po:Int) (lp:Option Addr) (ln lcp:Nat) (tp:Option Addr) (tn tcp:Nat) (wp:Option Addr) (wn wcp:Nat) (sk fr to q:Int) (L:List Ln) (T:List Tk) (M:List Ln) (W:World) (hs:z0m s w=true) (hP:PgM W lp ln lcp L tp tn tcp T wp wn wcp M) (hok:Pgok ⟨2,od,po,L,T,M,sk,fr,to,q⟩) (h1:ln≤1000∧tn≤1000∧wn≤1000) :
 Calls Tryz.prog 8 #[.int .i64 s,.int .i64 w,.agg #[.int .u8 2,.int .u32 od,.int .u8 po,.slice lp ln lcp,.slice tp tn tcp,.slice wp wn wcp,.int .u8 sk,.int .u8 fr,.int .u8 to,.int .i64 q]] W fun e w'=>e=.returned (.bool (z0l s w ⟨2,od,po,L,T,M,sk,fr,to,q⟩))∧Below W.heap.size W w':=by
 have hg:z0l s w ⟨2,od,po,L,T,M,sk,fr,to,q⟩=((decide (od≠0) && z0s s w od T && z0q s M && decide (1≤T.length+M.length)) && decide ((⟨2,od,po,L,T,M,sk,fr,to,q⟩:Pg)=⟨2,od,0,[],T,M,0,0,0,0⟩)):=by
  show (z0m s w && askP s w ⟨2,od,po,L,T,M,sk,fr,to,q⟩ && decide ((⟨2,od,po,L,T,M,sk,fr,to,q⟩:Pg)=qofP ⟨2,od,po,L,T,M,sk,fr,to,q⟩))=_
  rw [hs,Bool.true_and,ask2,qof2]
 have hs4:1≤s∧s≤4∧1≤w∧w≤4:=by
  unfold z0m at hs
  simp only [Bool.and_eq_true,decide_eq_true_eq] at hs
  omega
 obtain⟨W2,hW2,b0,b1,hb⟩:=z2o W #[.int .u8 2,.int .u32 od,.int .u8 po,.slice lp ln lcp,.slice tp tn tcp,.slice wp wn wcp,.int .u8 sk,.int .u8 fr,.int .u8 to,.int .i64 q] #[.int .u8 2,.int .u32 od,.int .u8 0,.slice none 0 0,.slice tp tn tcp,.slice wp wn wcp,.int .u8 0,.int .u8 0,.int .u8 0,.int .i64 0]
 have HW:=hid hW2
 have HB:=hid hb
 have HX:=hid b0
 have HY:=hid b1
 have HP:=hid (hP.later hb)
 have HLL:=hid hP.l.len
 have HLT:=hid hP.t.len
 have HLM:=hid hP.o.len
 have hsk:0≤sk∧sk≤255:=hok.sku
 have hfr:0≤fr∧fr≤255:=hok.frm
 have hto:0≤to∧to≤255:=hok.to
 have hpo:0≤po∧po≤255:=hok.policy
 have HTA:=hid fun w' (h:Below W2.heap.size W2 w')=>z5y s w 2 od po lp ln lcp tp tn tcp wp wn wcp sk fr to q T w' (HP.out.later h).t hok.takes h1.2.1
 have HLM2:=hid fun w' (h:Below W2.heap.size W2 w')=>z7v s wp wn wcp M w' (HP.out.later h).o hok.owes h1.2.2
 have HSA:=hid fun w' (h:Below W2.heap.size W2 w')=>z7t 2 od po lp ln lcp tp tn tcp wp wn wcp sk fr to q 2 od 0 none 0 0 tp tn tcp wp wn wcp 0 0 0 0 L T M [] T M w' (HP.out.later h) ⟨SlG.empty _,(HP.out.later h).t,(HP.out.later h).o⟩ h1 ⟨by omega,h1.2.1,h1.2.2⟩
 have HC:=hid fun w' (h:Below W2.heap.size W2 w')=>z0d 2 od po lp ln lcp tp tn tcp wp wn wcp sk fr to q (z0b HX.out h)
 have HD:=hid fun w' (h:Below W2.heap.size W2 w')=>z0d 2 od 0 none 0 0 tp tn tcp wp wn wcp 0 0 0 0 (z0b HY.out h)
 have y1:decide (s<1)=false:=decide_eq_false (by omega)
 have y2:decide (4<s)=false:=decide_eq_false (by omega)
 have y3:decide (w<1)=false:=decide_eq_false (by omega)
 have y4:decide (4<w)=false:=decide_eq_false (by omega)
 have x6:IntKind.i64.wrap sk=sk:=IntWalk.i64_in _ (by omega)
 have x7:IntKind.i64.wrap fr=fr:=IntWalk.i64_in _ (by omega)
 have x8:IntKind.i64.wrap to=to:=IntWalk.i64_in _ (by omega)
 have HG:=hid hg
 have H1:=hid h1
 clear hg hs hs4 hW2 b0 b1 hb hP hok hsk hfr hto hpo
 by_cases t0:od≠0
 case neg =>
  have f0:(od != 0)=false:=by simpa using t0
  have HF:Hid (z0l s w ⟨2,od,po,L,T,M,sk,fr,to,q⟩=false):=hid (by rw [HG.out];rw [decide_eq_false t0];simp)
  go_enter Tryz.func8,Tryz.ntmps8
  go_wp2_with fail
  go_ret
  rw [HW.out]
  exact⟨by rw [HF.out];rfl,HB.out.trans ((Below.refl _ _).mono HB.out.size)⟩
 have f0:(od != 0)=true:=by simpa using t0
 obtain⟨a0,a1,a2,a3,a4,a5,a6,a7,a8,a9⟩:=HC.out W2 (Below.refl _ _)
 go_enter Tryz.func8,Tryz.ntmps8
 go_wp2_with fail
 rw [HW.out]
 have hc0:=HTA.out W2 (Below.refl _ _)
 refine hc0.mono ?_
 rintro e w0 ⟨rfl,hb0⟩
 have HB0:Hid (Below W2.heap.size W2 w0):=hid (hb0)
 clear hc0 hb0 a0 a1 a2 a3 a4 a5 a6 a7 a8 a9
 obtain⟨a0,a1,a2,a3,a4,a5,a6,a7,a8,a9⟩:=HC.out w0 HB0.out
 cases t1:z0s s w od T
 case false =>
  have HF:Hid (z0l s w ⟨2,od,po,L,T,M,sk,fr,to,q⟩=false):=hid (by rw [HG.out];rw [t1];simp)
  go_wp2_with fail
  go_ret
  exact⟨by rw [HF.out];rfl,HB.out.trans (HB0.out.mono HB.out.size)⟩
 go_wp2_with fail
 have hc1:=HLM2.out w0 HB0.out
 refine hc1.mono ?_
 rintro e w1 ⟨rfl,hb1⟩
 have HB1:Hid (Below W2.heap.size W2 w1):=hid (HB0.out.trans (hb1.mono HB0.out.size))
 clear hc1 hb1 a0 a1 a2 a3 a4 a5 a6 a7 a8 a9
 obtain⟨a0,a1,a2,a3,a4,a5,a6,a7,a8,a9⟩:=HC.out w1 HB1.out
 cases t2:z0q s M
 case false =>
  have HF:Hid (z0l s w ⟨2,od,po,L,T,M,sk,fr,to,q⟩=false):=hid (by rw [HG.out];rw [t2];simp)
  go_wp2_with fail
  go_ret
  exact⟨by rw [HF.out];rfl,HB.out.trans (HB1.out.mono HB.out.size)⟩
 have hw:IntKind.i64.wrap ((tn:Int)+(wn:Int))=(tn:Int)+(wn:Int):=IntWalk.i64_in _ (by have:=H1.out;omega)
 by_cases g0:1≤tn+wn
 case neg =>
  have f8:decide (0<(tn:Int)+(wn:Int))=false:=decide_eq_false (by omega)
  have f8n:decide (0<tn+wn)=false:=decide_eq_false (by omega)
  have HF:Hid (z0l s w ⟨2,od,po,L,T,M,sk,fr,to,q⟩=false):=hid (by rw [HG.out];rw [decide_eq_false (show ¬ 1≤T.length+M.length by rw [HLT.out,HLM.out];exact g0)];simp)
  go_wp2_with fail
  go_ret
  exact⟨by rw [HF.out];rfl,HB.out.trans (HB1.out.mono HB.out.size)⟩
 have f8:decide (0<(tn:Int)+(wn:Int))=true:=decide_eq_true (by omega)
 have f8n:decide (0<tn+wn)=true:=decide_eq_true (by omega)
 have HOR:Hid (decide (1≤T.length+M.length)=true):=hid (decide_eq_true (by rw [HLT.out,HLM.out];exact g0))
 clear g0
 have HF:Hid (z0l s w ⟨2,od,po,L,T,M,sk,fr,to,q⟩=decide ((⟨2,od,po,L,T,M,sk,fr,to,q⟩:Pg)=⟨2,od,0,[],T,M,0,0,0,0⟩)):=hid (by rw [HG.out,decide_eq_true t0,t1,t2,HOR.out];simp)
 clear HG
 generalize decide ((⟨2,od,po,L,T,M,sk,fr,to,q⟩:Pg)=⟨2,od,0,[],T,M,0,0,0,0⟩)=bb at *
 obtain⟨b0,b1,b2,b3,b4,b5,b6,b7,b8,b9⟩:=HD.out w1 HB1.out
 go_wp2_with fail
 refine (HSA.out w1 HB1.out).mono ?_
 rintro e w9 ⟨rfl,hb9⟩
 have HB9:=hid (HB1.out.trans (hb9.mono HB1.out.size))
 clear hb9 a0 a1 a2 a3 a4 a5 a6 a7 a8 a9 b0 b1 b2 b3 b4 b5 b6 b7 b8 b9
 go_wp2_with fail
 go_ret
 exact⟨by rw [HF.out];rfl,HB.out.trans (HB9.out.mono HB.out.size)⟩
theorem ask3 (s w od po:Int) (L:List Ln) (T:List Tk) (M:List Ln) (sk fr to q:Int):askP s w ⟨3,od,po,L,T,M,sk,fr,to,q⟩=(decide (od≠0) && z0s s w od T && decide (1≤T.length)):=rfl
theorem qof3 (od po:Int) (L:List Ln) (T:List Tk) (M:List Ln) (sk fr to q:Int):qofP ⟨3,od,po,L,T,M,sk,fr,to,q⟩=⟨3,od,0,[],T,[],0,0,0,0⟩:=rfl
theorem rgood3 (s w:Int) (od po:Int) (lp:Option Addr) (ln lcp:Nat) (tp:Option Addr) (tn tcp:Nat) (wp:Option Addr) (wn wcp:Nat) (sk fr to q:Int) (L:List Ln) (T:List Tk) (M:List Ln) (W:World) (hs:z0m s w=true) (hP:PgM W lp ln lcp L tp tn tcp T wp wn wcp M) (hok:Pgok ⟨3,od,po,L,T,M,sk,fr,to,q⟩) (h1:ln≤1000∧tn≤1000∧wn≤1000) :
 Calls Tryz.prog 8 #[.int .i64 s,.int .i64 w,.agg #[.int .u8 3,.int .u32 od,.int .u8 po,.slice lp ln lcp,.slice tp tn tcp,.slice wp wn wcp,.int .u8 sk,.int .u8 fr,.int .u8 to,.int .i64 q]] W fun e w'=>e=.returned (.bool (z0l s w ⟨3,od,po,L,T,M,sk,fr,to,q⟩))∧Below W.heap.size W w':=by
 have hg:z0l s w ⟨3,od,po,L,T,M,sk,fr,to,q⟩=((decide (od≠0) && z0s s w od T && decide (1≤T.length)) && decide ((⟨3,od,po,L,T,M,sk,fr,to,q⟩:Pg)=⟨3,od,0,[],T,[],0,0,0,0⟩)):=by
  show (z0m s w && askP s w ⟨3,od,po,L,T,M,sk,fr,to,q⟩ && decide ((⟨3,od,po,L,T,M,sk,fr,to,q⟩:Pg)=qofP ⟨3,od,po,L,T,M,sk,fr,to,q⟩))=_
  rw [hs,Bool.true_and,ask3,qof3]
 have hs4:1≤s∧s≤4∧1≤w∧w≤4:=by
  unfold z0m at hs
  simp only [Bool.and_eq_true,decide_eq_true_eq] at hs
  omega
 obtain⟨W2,hW2,b0,b1,hb⟩:=z2o W #[.int .u8 3,.int .u32 od,.int .u8 po,.slice lp ln lcp,.slice tp tn tcp,.slice wp wn wcp,.int .u8 sk,.int .u8 fr,.int .u8 to,.int .i64 q] #[.int .u8 3,.int .u32 od,.int .u8 0,.slice none 0 0,.slice tp tn tcp,.slice none 0 0,.int .u8 0,.int .u8 0,.int .u8 0,.int .i64 0]
 have HW:=hid hW2
 have HB:=hid hb
 have HX:=hid b0
 have HY:=hid b1
 have HP:=hid (hP.later hb)
 have HLL:=hid hP.l.len
 have HLT:=hid hP.t.len
 have HLM:=hid hP.o.len
 have hsk:0≤sk∧sk≤255:=hok.sku
 have hfr:0≤fr∧fr≤255:=hok.frm
 have hto:0≤to∧to≤255:=hok.to
 have hpo:0≤po∧po≤255:=hok.policy
 have HTA:=hid fun w' (h:Below W2.heap.size W2 w')=>z5y s w 3 od po lp ln lcp tp tn tcp wp wn wcp sk fr to q T w' (HP.out.later h).t hok.takes h1.2.1
 have HSA:=hid fun w' (h:Below W2.heap.size W2 w')=>z7t 3 od po lp ln lcp tp tn tcp wp wn wcp sk fr to q 3 od 0 none 0 0 tp tn tcp none 0 0 0 0 0 0 L T M [] T [] w' (HP.out.later h) ⟨SlG.empty _,(HP.out.later h).t,SlG.empty _⟩ h1 ⟨by omega,h1.2.1,by omega⟩
 have HC:=hid fun w' (h:Below W2.heap.size W2 w')=>z0d 3 od po lp ln lcp tp tn tcp wp wn wcp sk fr to q (z0b HX.out h)
 have HD:=hid fun w' (h:Below W2.heap.size W2 w')=>z0d 3 od 0 none 0 0 tp tn tcp none 0 0 0 0 0 0 (z0b HY.out h)
 have y1:decide (s<1)=false:=decide_eq_false (by omega)
 have y2:decide (4<s)=false:=decide_eq_false (by omega)
 have y3:decide (w<1)=false:=decide_eq_false (by omega)
 have y4:decide (4<w)=false:=decide_eq_false (by omega)
 have x6:IntKind.i64.wrap sk=sk:=IntWalk.i64_in _ (by omega)
 have x7:IntKind.i64.wrap fr=fr:=IntWalk.i64_in _ (by omega)
 have x8:IntKind.i64.wrap to=to:=IntWalk.i64_in _ (by omega)
 have HG:=hid hg
 have H1:=hid h1
 clear hg hs hs4 hW2 b0 b1 hb hP hok hsk hfr hto hpo
 by_cases t0:od≠0
 case neg =>
  have f0:(od != 0)=false:=by simpa using t0
  have HF:Hid (z0l s w ⟨3,od,po,L,T,M,sk,fr,to,q⟩=false):=hid (by rw [HG.out];rw [decide_eq_false t0];simp)
  go_enter Tryz.func8,Tryz.ntmps8
  go_wp2_with fail
  go_ret
  rw [HW.out]
  exact⟨by rw [HF.out];rfl,HB.out.trans ((Below.refl _ _).mono HB.out.size)⟩
 have f0:(od != 0)=true:=by simpa using t0
 obtain⟨a0,a1,a2,a3,a4,a5,a6,a7,a8,a9⟩:=HC.out W2 (Below.refl _ _)
 go_enter Tryz.func8,Tryz.ntmps8
 go_wp2_with fail
 rw [HW.out]
 have hc0:=HTA.out W2 (Below.refl _ _)
 refine hc0.mono ?_
 rintro e w0 ⟨rfl,hb0⟩
 have HB0:Hid (Below W2.heap.size W2 w0):=hid (hb0)
 clear hc0 hb0 a0 a1 a2 a3 a4 a5 a6 a7 a8 a9
 obtain⟨a0,a1,a2,a3,a4,a5,a6,a7,a8,a9⟩:=HC.out w0 HB0.out
 cases t1:z0s s w od T
 case false =>
  have HF:Hid (z0l s w ⟨3,od,po,L,T,M,sk,fr,to,q⟩=false):=hid (by rw [HG.out];rw [t1];simp)
  go_wp2_with fail
  go_ret
  exact⟨by rw [HF.out];rfl,HB.out.trans (HB0.out.mono HB.out.size)⟩
 by_cases t2:1≤tn
 case neg =>
  have f2:decide (0<(tn:Int))=false:=decide_eq_false (by omega)
  have f2n:decide (0<tn)=false:=decide_eq_false (by omega)
  have HF:Hid (z0l s w ⟨3,od,po,L,T,M,sk,fr,to,q⟩=false):=hid (by rw [HG.out];rw [decide_eq_false (show ¬ 1≤T.length by rw [HLT.out];exact t2)];simp)
  go_wp2_with fail
  go_ret
  exact⟨by rw [HF.out];rfl,HB.out.trans (HB0.out.mono HB.out.size)⟩
 have f2:decide (0<(tn:Int))=true:=decide_eq_true (by omega)
 have f2n:decide (0<tn)=true:=decide_eq_true (by omega)
 have HF:Hid (z0l s w ⟨3,od,po,L,T,M,sk,fr,to,q⟩=decide ((⟨3,od,po,L,T,M,sk,fr,to,q⟩:Pg)=⟨3,od,0,[],T,[],0,0,0,0⟩)):=hid (by rw [HG.out,decide_eq_true t0,t1,decide_eq_true (show 1≤T.length by rw [HLT.out];exact t2)];simp)
 clear HG
 generalize decide ((⟨3,od,po,L,T,M,sk,fr,to,q⟩:Pg)=⟨3,od,0,[],T,[],0,0,0,0⟩)=bb at *
 obtain⟨b0,b1,b2,b3,b4,b5,b6,b7,b8,b9⟩:=HD.out w0 HB0.out
 go_wp2_with fail
 refine (HSA.out w0 HB0.out).mono ?_
 rintro e w9 ⟨rfl,hb9⟩
 have HB9:=hid (HB0.out.trans (hb9.mono HB0.out.size))
 clear hb9 a0 a1 a2 a3 a4 a5 a6 a7 a8 a9 b0 b1 b2 b3 b4 b5 b6 b7 b8 b9
 go_wp2_with fail
 go_ret
 exact⟨by rw [HF.out];rfl,HB.out.trans (HB9.out.mono HB.out.size)⟩
theorem ask4 (s w od po:Int) (L:List Ln) (T:List Tk) (M:List Ln) (sk fr to q:Int):askP s w ⟨4,od,po,L,T,M,sk,fr,to,q⟩=(decide (od≠0) && z0s s w od T && decide (1≤T.length)):=rfl
theorem qof4 (od po:Int) (L:List Ln) (T:List Tk) (M:List Ln) (sk fr to q:Int):qofP ⟨4,od,po,L,T,M,sk,fr,to,q⟩=⟨4,od,0,[],T,[],0,0,0,0⟩:=rfl
theorem rgood4 (s w:Int) (od po:Int) (lp:Option Addr) (ln lcp:Nat) (tp:Option Addr) (tn tcp:Nat) (wp:Option Addr) (wn wcp:Nat) (sk fr to q:Int) (L:List Ln) (T:List Tk) (M:List Ln) (W:World) (hs:z0m s w=true) (hP:PgM W lp ln lcp L tp tn tcp T wp wn wcp M) (hok:Pgok ⟨4,od,po,L,T,M,sk,fr,to,q⟩) (h1:ln≤1000∧tn≤1000∧wn≤1000) :
 Calls Tryz.prog 8 #[.int .i64 s,.int .i64 w,.agg #[.int .u8 4,.int .u32 od,.int .u8 po,.slice lp ln lcp,.slice tp tn tcp,.slice wp wn wcp,.int .u8 sk,.int .u8 fr,.int .u8 to,.int .i64 q]] W fun e w'=>e=.returned (.bool (z0l s w ⟨4,od,po,L,T,M,sk,fr,to,q⟩))∧Below W.heap.size W w':=by
 have hg:z0l s w ⟨4,od,po,L,T,M,sk,fr,to,q⟩=((decide (od≠0) && z0s s w od T && decide (1≤T.length)) && decide ((⟨4,od,po,L,T,M,sk,fr,to,q⟩:Pg)=⟨4,od,0,[],T,[],0,0,0,0⟩)):=by
  show (z0m s w && askP s w ⟨4,od,po,L,T,M,sk,fr,to,q⟩ && decide ((⟨4,od,po,L,T,M,sk,fr,to,q⟩:Pg)=qofP ⟨4,od,po,L,T,M,sk,fr,to,q⟩))=_
  rw [hs,Bool.true_and,ask4,qof4]
 have hs4:1≤s∧s≤4∧1≤w∧w≤4:=by
  unfold z0m at hs
  simp only [Bool.and_eq_true,decide_eq_true_eq] at hs
  omega
 obtain⟨W2,hW2,b0,b1,hb⟩:=z2o W #[.int .u8 4,.int .u32 od,.int .u8 po,.slice lp ln lcp,.slice tp tn tcp,.slice wp wn wcp,.int .u8 sk,.int .u8 fr,.int .u8 to,.int .i64 q] #[.int .u8 4,.int .u32 od,.int .u8 0,.slice none 0 0,.slice tp tn tcp,.slice none 0 0,.int .u8 0,.int .u8 0,.int .u8 0,.int .i64 0]
 have HW:=hid hW2
 have HB:=hid hb
 have HX:=hid b0
 have HY:=hid b1
 have HP:=hid (hP.later hb)
 have HLL:=hid hP.l.len
 have HLT:=hid hP.t.len
 have HLM:=hid hP.o.len
 have hsk:0≤sk∧sk≤255:=hok.sku
 have hfr:0≤fr∧fr≤255:=hok.frm
 have hto:0≤to∧to≤255:=hok.to
 have hpo:0≤po∧po≤255:=hok.policy
 have HTA:=hid fun w' (h:Below W2.heap.size W2 w')=>z5y s w 4 od po lp ln lcp tp tn tcp wp wn wcp sk fr to q T w' (HP.out.later h).t hok.takes h1.2.1
 have HSA:=hid fun w' (h:Below W2.heap.size W2 w')=>z7t 4 od po lp ln lcp tp tn tcp wp wn wcp sk fr to q 4 od 0 none 0 0 tp tn tcp none 0 0 0 0 0 0 L T M [] T [] w' (HP.out.later h) ⟨SlG.empty _,(HP.out.later h).t,SlG.empty _⟩ h1 ⟨by omega,h1.2.1,by omega⟩
 have HC:=hid fun w' (h:Below W2.heap.size W2 w')=>z0d 4 od po lp ln lcp tp tn tcp wp wn wcp sk fr to q (z0b HX.out h)
 have HD:=hid fun w' (h:Below W2.heap.size W2 w')=>z0d 4 od 0 none 0 0 tp tn tcp none 0 0 0 0 0 0 (z0b HY.out h)
 have y1:decide (s<1)=false:=decide_eq_false (by omega)
 have y2:decide (4<s)=false:=decide_eq_false (by omega)
 have y3:decide (w<1)=false:=decide_eq_false (by omega)
 have y4:decide (4<w)=false:=decide_eq_false (by omega)
 have x6:IntKind.i64.wrap sk=sk:=IntWalk.i64_in _ (by omega)
 have x7:IntKind.i64.wrap fr=fr:=IntWalk.i64_in _ (by omega)
 have x8:IntKind.i64.wrap to=to:=IntWalk.i64_in _ (by omega)
 have HG:=hid hg
 have H1:=hid h1
 clear hg hs hs4 hW2 b0 b1 hb hP hok hsk hfr hto hpo
 by_cases t0:od≠0
 case neg =>
  have f0:(od != 0)=false:=by simpa using t0
  have HF:Hid (z0l s w ⟨4,od,po,L,T,M,sk,fr,to,q⟩=false):=hid (by rw [HG.out];rw [decide_eq_false t0];simp)
  go_enter Tryz.func8,Tryz.ntmps8
  go_wp2_with fail
  go_ret
  rw [HW.out]
  exact⟨by rw [HF.out];rfl,HB.out.trans ((Below.refl _ _).mono HB.out.size)⟩
 have f0:(od != 0)=true:=by simpa using t0
 obtain⟨a0,a1,a2,a3,a4,a5,a6,a7,a8,a9⟩:=HC.out W2 (Below.refl _ _)
 go_enter Tryz.func8,Tryz.ntmps8
 go_wp2_with fail
 rw [HW.out]
 have hc0:=HTA.out W2 (Below.refl _ _)
 refine hc0.mono ?_
 rintro e w0 ⟨rfl,hb0⟩
 have HB0:Hid (Below W2.heap.size W2 w0):=hid (hb0)
 clear hc0 hb0 a0 a1 a2 a3 a4 a5 a6 a7 a8 a9
 obtain⟨a0,a1,a2,a3,a4,a5,a6,a7,a8,a9⟩:=HC.out w0 HB0.out
 cases t1:z0s s w od T
 case false =>
  have HF:Hid (z0l s w ⟨4,od,po,L,T,M,sk,fr,to,q⟩=false):=hid (by rw [HG.out];rw [t1];simp)
  go_wp2_with fail
  go_ret
  exact⟨by rw [HF.out];rfl,HB.out.trans (HB0.out.mono HB.out.size)⟩
 by_cases t2:1≤tn
 case neg =>
  have f2:decide (0<(tn:Int))=false:=decide_eq_false (by omega)
  have f2n:decide (0<tn)=false:=decide_eq_false (by omega)
  have HF:Hid (z0l s w ⟨4,od,po,L,T,M,sk,fr,to,q⟩=false):=hid (by rw [HG.out];rw [decide_eq_false (show ¬ 1≤T.length by rw [HLT.out];exact t2)];simp)
  go_wp2_with fail
  go_ret
  exact⟨by rw [HF.out];rfl,HB.out.trans (HB0.out.mono HB.out.size)⟩
 have f2:decide (0<(tn:Int))=true:=decide_eq_true (by omega)
 have f2n:decide (0<tn)=true:=decide_eq_true (by omega)
 have HF:Hid (z0l s w ⟨4,od,po,L,T,M,sk,fr,to,q⟩=decide ((⟨4,od,po,L,T,M,sk,fr,to,q⟩:Pg)=⟨4,od,0,[],T,[],0,0,0,0⟩)):=hid (by rw [HG.out,decide_eq_true t0,t1,decide_eq_true (show 1≤T.length by rw [HLT.out];exact t2)];simp)
 clear HG
 generalize decide ((⟨4,od,po,L,T,M,sk,fr,to,q⟩:Pg)=⟨4,od,0,[],T,[],0,0,0,0⟩)=bb at *
 obtain⟨b0,b1,b2,b3,b4,b5,b6,b7,b8,b9⟩:=HD.out w0 HB0.out
 go_wp2_with fail
 refine (HSA.out w0 HB0.out).mono ?_
 rintro e w9 ⟨rfl,hb9⟩
 have HB9:=hid (HB0.out.trans (hb9.mono HB0.out.size))
 clear hb9 a0 a1 a2 a3 a4 a5 a6 a7 a8 a9 b0 b1 b2 b3 b4 b5 b6 b7 b8 b9
 go_wp2_with fail
 go_ret
 exact⟨by rw [HF.out];rfl,HB.out.trans (HB9.out.mono HB.out.size)⟩
theorem ask5 (s w od po:Int) (L:List Ln) (T:List Tk) (M:List Ln) (sk fr to q:Int):askP s w ⟨5,od,po,L,T,M,sk,fr,to,q⟩=(decide (sk<s) && decide (to<w) && decide (1≤q) && z2c sk to q T):=rfl
theorem qof5 (od po:Int) (L:List Ln) (T:List Tk) (M:List Ln) (sk fr to q:Int):qofP ⟨5,od,po,L,T,M,sk,fr,to,q⟩=⟨5,0,0,[],T,[],sk,0,to,q⟩:=rfl
theorem rgood5 (s w:Int) (od po:Int) (lp:Option Addr) (ln lcp:Nat) (tp:Option Addr) (tn tcp:Nat) (wp:Option Addr) (wn wcp:Nat) (sk fr to q:Int) (L:List Ln) (T:List Tk) (M:List Ln) (W:World) (hs:z0m s w=true) (hP:PgM W lp ln lcp L tp tn tcp T wp wn wcp M) (hok:Pgok ⟨5,od,po,L,T,M,sk,fr,to,q⟩) (h1:ln≤1000∧tn≤1000∧wn≤1000) :
 Calls Tryz.prog 8 #[.int .i64 s,.int .i64 w,.agg #[.int .u8 5,.int .u32 od,.int .u8 po,.slice lp ln lcp,.slice tp tn tcp,.slice wp wn wcp,.int .u8 sk,.int .u8 fr,.int .u8 to,.int .i64 q]] W fun e w'=>e=.returned (.bool (z0l s w ⟨5,od,po,L,T,M,sk,fr,to,q⟩))∧Below W.heap.size W w':=by
 have hg:z0l s w ⟨5,od,po,L,T,M,sk,fr,to,q⟩=((decide (sk<s) && decide (to<w) && decide (1≤q) && z2c sk to q T) && decide ((⟨5,od,po,L,T,M,sk,fr,to,q⟩:Pg)=⟨5,0,0,[],T,[],sk,0,to,q⟩)):=by
  show (z0m s w && askP s w ⟨5,od,po,L,T,M,sk,fr,to,q⟩ && decide ((⟨5,od,po,L,T,M,sk,fr,to,q⟩:Pg)=qofP ⟨5,od,po,L,T,M,sk,fr,to,q⟩))=_
  rw [hs,Bool.true_and,ask5,qof5]
 have hs4:1≤s∧s≤4∧1≤w∧w≤4:=by
  unfold z0m at hs
  simp only [Bool.and_eq_true,decide_eq_true_eq] at hs
  omega
 obtain⟨W2,hW2,b0,b1,hb⟩:=z2o W #[.int .u8 5,.int .u32 od,.int .u8 po,.slice lp ln lcp,.slice tp tn tcp,.slice wp wn wcp,.int .u8 sk,.int .u8 fr,.int .u8 to,.int .i64 q] #[.int .u8 5,.int .u32 0,.int .u8 0,.slice none 0 0,.slice tp tn tcp,.slice none 0 0,.int .u8 sk,.int .u8 0,.int .u8 to,.int .i64 q]
 have HW:=hid hW2
 have HB:=hid hb
 have HX:=hid b0
 have HY:=hid b1
 have HP:=hid (hP.later hb)
 have HLL:=hid hP.l.len
 have HLT:=hid hP.t.len
 have HLM:=hid hP.o.len
 have hsk:0≤sk∧sk≤255:=hok.sku
 have hfr:0≤fr∧fr≤255:=hok.frm
 have hto:0≤to∧to≤255:=hok.to
 have hpo:0≤po∧po≤255:=hok.policy
 have HFI:=hid fun w' (h:Below W2.heap.size W2 w')=>rfills_any 5 od po lp ln lcp tp tn tcp wp wn wcp sk fr to q T w' (HP.out.later h).t hok.takes h1.2.1
 have HSA:=hid fun w' (h:Below W2.heap.size W2 w')=>z7t 5 od po lp ln lcp tp tn tcp wp wn wcp sk fr to q 5 0 0 none 0 0 tp tn tcp none 0 0 sk 0 to q L T M [] T [] w' (HP.out.later h) ⟨SlG.empty _,(HP.out.later h).t,SlG.empty _⟩ h1 ⟨by omega,h1.2.1,by omega⟩
 have HC:=hid fun w' (h:Below W2.heap.size W2 w')=>z0d 5 od po lp ln lcp tp tn tcp wp wn wcp sk fr to q (z0b HX.out h)
 have HD:=hid fun w' (h:Below W2.heap.size W2 w')=>z0d 5 0 0 none 0 0 tp tn tcp none 0 0 sk 0 to q (z0b HY.out h)
 have y1:decide (s<1)=false:=decide_eq_false (by omega)
 have y2:decide (4<s)=false:=decide_eq_false (by omega)
 have y3:decide (w<1)=false:=decide_eq_false (by omega)
 have y4:decide (4<w)=false:=decide_eq_false (by omega)
 have x6:IntKind.i64.wrap sk=sk:=IntWalk.i64_in _ (by omega)
 have x7:IntKind.i64.wrap fr=fr:=IntWalk.i64_in _ (by omega)
 have x8:IntKind.i64.wrap to=to:=IntWalk.i64_in _ (by omega)
 have HG:=hid hg
 have H1:=hid h1
 clear hg hs hs4 hW2 b0 b1 hb hP hok hsk hfr hto hpo
 by_cases t0:sk<s
 case neg =>
  have f0:decide (sk<s)=false:=decide_eq_false t0
  have HF:Hid (z0l s w ⟨5,od,po,L,T,M,sk,fr,to,q⟩=false):=hid (by rw [HG.out];rw [decide_eq_false t0];simp)
  go_enter Tryz.func8,Tryz.ntmps8
  go_wp2_with fail
  go_ret
  rw [HW.out]
  exact⟨by rw [HF.out];rfl,HB.out.trans ((Below.refl _ _).mono HB.out.size)⟩
 have f0:decide (sk<s)=true:=decide_eq_true t0
 by_cases t1:to<w
 case neg =>
  have f1:decide (to<w)=false:=decide_eq_false t1
  have HF:Hid (z0l s w ⟨5,od,po,L,T,M,sk,fr,to,q⟩=false):=hid (by rw [HG.out];rw [decide_eq_false t1];simp)
  go_enter Tryz.func8,Tryz.ntmps8
  go_wp2_with fail
  go_ret
  rw [HW.out]
  exact⟨by rw [HF.out];rfl,HB.out.trans ((Below.refl _ _).mono HB.out.size)⟩
 have f1:decide (to<w)=true:=decide_eq_true t1
 by_cases t2:1≤q
 case neg =>
  have f2:decide (1≤q)=false:=decide_eq_false t2
  have HF:Hid (z0l s w ⟨5,od,po,L,T,M,sk,fr,to,q⟩=false):=hid (by rw [HG.out];rw [decide_eq_false t2];simp)
  go_enter Tryz.func8,Tryz.ntmps8
  go_wp2_with fail
  go_ret
  rw [HW.out]
  exact⟨by rw [HF.out];rfl,HB.out.trans ((Below.refl _ _).mono HB.out.size)⟩
 have f2:decide (1≤q)=true:=decide_eq_true t2
 obtain⟨a0,a1,a2,a3,a4,a5,a6,a7,a8,a9⟩:=HC.out W2 (Below.refl _ _)
 go_enter Tryz.func8,Tryz.ntmps8
 go_wp2_with fail
 rw [HW.out]
 have hc0:=HFI.out W2 (Below.refl _ _)
 refine hc0.mono ?_
 rintro e w0 ⟨rfl,hb0⟩
 have HB0:Hid (Below W2.heap.size W2 w0):=hid (hb0)
 clear hc0 hb0 a0 a1 a2 a3 a4 a5 a6 a7 a8 a9
 obtain⟨a0,a1,a2,a3,a4,a5,a6,a7,a8,a9⟩:=HC.out w0 HB0.out
 cases t3:z2c sk to q T
 case false =>
  have HF:Hid (z0l s w ⟨5,od,po,L,T,M,sk,fr,to,q⟩=false):=hid (by rw [HG.out];rw [t3];simp)
  go_wp2_with fail
  go_ret
  exact⟨by rw [HF.out];rfl,HB.out.trans (HB0.out.mono HB.out.size)⟩
 have HF:Hid (z0l s w ⟨5,od,po,L,T,M,sk,fr,to,q⟩=decide ((⟨5,od,po,L,T,M,sk,fr,to,q⟩:Pg)=⟨5,0,0,[],T,[],sk,0,to,q⟩)):=hid (by rw [HG.out,decide_eq_true t0,decide_eq_true t1,decide_eq_true t2,t3];simp)
 clear HG
 generalize decide ((⟨5,od,po,L,T,M,sk,fr,to,q⟩:Pg)=⟨5,0,0,[],T,[],sk,0,to,q⟩)=bb at *
 obtain⟨b0,b1,b2,b3,b4,b5,b6,b7,b8,b9⟩:=HD.out w0 HB0.out
 go_wp2_with fail
 refine (HSA.out w0 HB0.out).mono ?_
 rintro e w9 ⟨rfl,hb9⟩
 have HB9:=hid (HB0.out.trans (hb9.mono HB0.out.size))
 clear hb9 a0 a1 a2 a3 a4 a5 a6 a7 a8 a9 b0 b1 b2 b3 b4 b5 b6 b7 b8 b9
 go_wp2_with fail
 go_ret
 exact⟨by rw [HF.out];rfl,HB.out.trans (HB9.out.mono HB.out.size)⟩
theorem ask6 (s w od po:Int) (L:List Ln) (T:List Tk) (M:List Ln) (sk fr to q:Int):askP s w ⟨6,od,po,L,T,M,sk,fr,to,q⟩=(decide (sk<s) && decide (fr<w) && decide (to<w) && decide (fr≠to) && decide (1≤q)):=rfl
theorem qof6 (od po:Int) (L:List Ln) (T:List Tk) (M:List Ln) (sk fr to q:Int):qofP ⟨6,od,po,L,T,M,sk,fr,to,q⟩=⟨6,0,0,[],[],[],sk,fr,to,q⟩:=rfl
theorem rgood6 (s w:Int) (od po:Int) (lp:Option Addr) (ln lcp:Nat) (tp:Option Addr) (tn tcp:Nat) (wp:Option Addr) (wn wcp:Nat) (sk fr to q:Int) (L:List Ln) (T:List Tk) (M:List Ln) (W:World) (hs:z0m s w=true) (hP:PgM W lp ln lcp L tp tn tcp T wp wn wcp M) (hok:Pgok ⟨6,od,po,L,T,M,sk,fr,to,q⟩) (h1:ln≤1000∧tn≤1000∧wn≤1000) :
 Calls Tryz.prog 8 #[.int .i64 s,.int .i64 w,.agg #[.int .u8 6,.int .u32 od,.int .u8 po,.slice lp ln lcp,.slice tp tn tcp,.slice wp wn wcp,.int .u8 sk,.int .u8 fr,.int .u8 to,.int .i64 q]] W fun e w'=>e=.returned (.bool (z0l s w ⟨6,od,po,L,T,M,sk,fr,to,q⟩))∧Below W.heap.size W w':=by
 have hg:z0l s w ⟨6,od,po,L,T,M,sk,fr,to,q⟩=((decide (sk<s) && decide (fr<w) && decide (to<w) && decide (fr≠to) && decide (1≤q)) && decide ((⟨6,od,po,L,T,M,sk,fr,to,q⟩:Pg)=⟨6,0,0,[],[],[],sk,fr,to,q⟩)):=by
  show (z0m s w && askP s w ⟨6,od,po,L,T,M,sk,fr,to,q⟩ && decide ((⟨6,od,po,L,T,M,sk,fr,to,q⟩:Pg)=qofP ⟨6,od,po,L,T,M,sk,fr,to,q⟩))=_
  rw [hs,Bool.true_and,ask6,qof6]
 have hs4:1≤s∧s≤4∧1≤w∧w≤4:=by
  unfold z0m at hs
  simp only [Bool.and_eq_true,decide_eq_true_eq] at hs
  omega
 obtain⟨W2,hW2,b0,b1,hb⟩:=z2o W #[.int .u8 6,.int .u32 od,.int .u8 po,.slice lp ln lcp,.slice tp tn tcp,.slice wp wn wcp,.int .u8 sk,.int .u8 fr,.int .u8 to,.int .i64 q] #[.int .u8 6,.int .u32 0,.int .u8 0,.slice none 0 0,.slice none 0 0,.slice none 0 0,.int .u8 sk,.int .u8 fr,.int .u8 to,.int .i64 q]
 have HW:=hid hW2
 have HB:=hid hb
 have HX:=hid b0
 have HY:=hid b1
 have HP:=hid (hP.later hb)
 have HLL:=hid hP.l.len
 have HLT:=hid hP.t.len
 have HLM:=hid hP.o.len
 have hsk:0≤sk∧sk≤255:=hok.sku
 have hfr:0≤fr∧fr≤255:=hok.frm
 have hto:0≤to∧to≤255:=hok.to
 have hpo:0≤po∧po≤255:=hok.policy
 have HSA:=hid fun w' (h:Below W2.heap.size W2 w')=>z7t 6 od po lp ln lcp tp tn tcp wp wn wcp sk fr to q 6 0 0 none 0 0 none 0 0 none 0 0 sk fr to q L T M [] [] [] w' (HP.out.later h) ⟨SlG.empty _,SlG.empty _,SlG.empty _⟩ h1 ⟨by omega,by omega,by omega⟩
 have HC:=hid fun w' (h:Below W2.heap.size W2 w')=>z0d 6 od po lp ln lcp tp tn tcp wp wn wcp sk fr to q (z0b HX.out h)
 have HD:=hid fun w' (h:Below W2.heap.size W2 w')=>z0d 6 0 0 none 0 0 none 0 0 none 0 0 sk fr to q (z0b HY.out h)
 have y1:decide (s<1)=false:=decide_eq_false (by omega)
 have y2:decide (4<s)=false:=decide_eq_false (by omega)
 have y3:decide (w<1)=false:=decide_eq_false (by omega)
 have y4:decide (4<w)=false:=decide_eq_false (by omega)
 have x6:IntKind.i64.wrap sk=sk:=IntWalk.i64_in _ (by omega)
 have x7:IntKind.i64.wrap fr=fr:=IntWalk.i64_in _ (by omega)
 have x8:IntKind.i64.wrap to=to:=IntWalk.i64_in _ (by omega)
 have HG:=hid hg
 have H1:=hid h1
 clear hg hs hs4 hW2 b0 b1 hb hP hok hsk hfr hto hpo
 by_cases t0:sk<s
 case neg =>
  have f0:decide (sk<s)=false:=decide_eq_false t0
  have HF:Hid (z0l s w ⟨6,od,po,L,T,M,sk,fr,to,q⟩=false):=hid (by rw [HG.out];rw [decide_eq_false t0];simp)
  go_enter Tryz.func8,Tryz.ntmps8
  go_wp2_with fail
  go_ret
  rw [HW.out]
  exact⟨by rw [HF.out];rfl,HB.out.trans ((Below.refl _ _).mono HB.out.size)⟩
 have f0:decide (sk<s)=true:=decide_eq_true t0
 by_cases t1:fr<w
 case neg =>
  have f1:decide (fr<w)=false:=decide_eq_false t1
  have HF:Hid (z0l s w ⟨6,od,po,L,T,M,sk,fr,to,q⟩=false):=hid (by rw [HG.out];rw [decide_eq_false t1];simp)
  go_enter Tryz.func8,Tryz.ntmps8
  go_wp2_with fail
  go_ret
  rw [HW.out]
  exact⟨by rw [HF.out];rfl,HB.out.trans ((Below.refl _ _).mono HB.out.size)⟩
 have f1:decide (fr<w)=true:=decide_eq_true t1
 by_cases t2:to<w
 case neg =>
  have f2:decide (to<w)=false:=decide_eq_false t2
  have HF:Hid (z0l s w ⟨6,od,po,L,T,M,sk,fr,to,q⟩=false):=hid (by rw [HG.out];rw [decide_eq_false t2];simp)
  go_enter Tryz.func8,Tryz.ntmps8
  go_wp2_with fail
  go_ret
  rw [HW.out]
  exact⟨by rw [HF.out];rfl,HB.out.trans ((Below.refl _ _).mono HB.out.size)⟩
 have f2:decide (to<w)=true:=decide_eq_true t2
 by_cases t3:fr≠to
 case neg =>
  have f3:(fr != to)=false:=by simpa using t3
  have HF:Hid (z0l s w ⟨6,od,po,L,T,M,sk,fr,to,q⟩=false):=hid (by rw [HG.out];rw [decide_eq_false t3];simp)
  go_enter Tryz.func8,Tryz.ntmps8
  go_wp2_with fail
  go_ret
  rw [HW.out]
  exact⟨by rw [HF.out];rfl,HB.out.trans ((Below.refl _ _).mono HB.out.size)⟩
 have f3:(fr != to)=true:=by simpa using t3
 by_cases t4:1≤q
 case neg =>
  have f4:decide (1≤q)=false:=decide_eq_false t4
  have HF:Hid (z0l s w ⟨6,od,po,L,T,M,sk,fr,to,q⟩=false):=hid (by rw [HG.out];rw [decide_eq_false t4];simp)
  go_enter Tryz.func8,Tryz.ntmps8
  go_wp2_with fail
  go_ret
  rw [HW.out]
  exact⟨by rw [HF.out];rfl,HB.out.trans ((Below.refl _ _).mono HB.out.size)⟩
 have f4:decide (1≤q)=true:=decide_eq_true t4
 have HF:Hid (z0l s w ⟨6,od,po,L,T,M,sk,fr,to,q⟩=decide ((⟨6,od,po,L,T,M,sk,fr,to,q⟩:Pg)=⟨6,0,0,[],[],[],sk,fr,to,q⟩)):=hid (by rw [HG.out,decide_eq_true t0,decide_eq_true t1,decide_eq_true t2,decide_eq_true t3,decide_eq_true t4];simp)
 clear HG
 generalize decide ((⟨6,od,po,L,T,M,sk,fr,to,q⟩:Pg)=⟨6,0,0,[],[],[],sk,fr,to,q⟩)=bb at *
 obtain⟨a0,a1,a2,a3,a4,a5,a6,a7,a8,a9⟩:=HC.out W2 (Below.refl _ _)
 obtain⟨b0,b1,b2,b3,b4,b5,b6,b7,b8,b9⟩:=HD.out W2 (Below.refl _ _)
 go_enter Tryz.func8,Tryz.ntmps8
 go_wp2_with fail
 rw [HW.out]
 refine (HSA.out W2 (Below.refl _ _)).mono ?_
 rintro e w9 ⟨rfl,hb9⟩
 have HB9:=hid hb9
 clear hb9 a0 a1 a2 a3 a4 a5 a6 a7 a8 a9 b0 b1 b2 b3 b4 b5 b6 b7 b8 b9
 go_wp2_with fail
 go_ret
 exact⟨by rw [HF.out];rfl,HB.out.trans (HB9.out.mono HB.out.size)⟩
theorem z1s {s w:Int} {P:Pg} (h:z0m s w=false):z0l s w P=false:=by unfold z0l;rw [h];rfl
theorem z6e {s w:Int} {P:Pg} (h:P.kind≠1∧P.kind≠2∧P.kind≠3∧P.kind≠4∧P.kind≠5∧P.kind≠6):z0l s w P=false:=by
 unfold z0l askP
 rw [if_neg h.1,if_neg h.2.1,if_neg (by omega),if_neg h.2.2.2.2.1,if_neg h.2.2.2.2.2,Bool.and_false];rfl
theorem rgood_p (s w:Int) (k od po:Int) (lp:Option Addr) (ln lcp:Nat) (tp:Option Addr) (tn tcp:Nat) (wp:Option Addr) (wn wcp:Nat) (sk fr to q:Int) (L:List Ln) (T:List Tk) (M:List Ln) (W:World) (hP:PgM W lp ln lcp L tp tn tcp T wp wn wcp M) (hok:Pgok ⟨k,od,po,L,T,M,sk,fr,to,q⟩) (h1:ln≤1000∧tn≤1000∧wn≤1000) :
 Calls Tryz.prog 8 #[.int .i64 s,.int .i64 w,.agg #[.int .u8 k,.int .u32 od,.int .u8 po,.slice lp ln lcp,.slice tp tn tcp,.slice wp wn wcp,.int .u8 sk,.int .u8 fr,.int .u8 to,.int .i64 q]] W fun e w'=>e=.returned (.bool (z0l s w ⟨k,od,po,L,T,M,sk,fr,to,q⟩))∧Below W.heap.size W w':=by
 have hb1:Below W.heap.size W (W.alloc (.cells #[.int .u8 k,.int .u32 od,.int .u8 po,.slice lp ln lcp,.slice tp tn tcp,.slice wp wn wcp,.int .u8 sk,.int .u8 fr,.int .u8 to,.int .i64 q] 26)):=(Below.refl _ _).alloc (Nat.le_refl _) _
 have HB:=hid hb1
 clear hb1
 by_cases y1:s<1
 · have HF:=hid (z1s (P:=⟨k,od,po,L,T,M,sk,fr,to,q⟩) (show z0m s w=false by unfold z0m;simp;omega))
   clear hP hok
   go_enter Tryz.func8,Tryz.ntmps8
   go_wp2_with fail
   go_ret
   exact⟨by rw [HF.out];rfl,HB.out⟩
 by_cases y2:4<s
 · have HF:=hid (z1s (P:=⟨k,od,po,L,T,M,sk,fr,to,q⟩) (show z0m s w=false by unfold z0m;simp;omega))
   clear hP hok
   go_enter Tryz.func8,Tryz.ntmps8
   go_wp2_with fail
   go_ret
   exact⟨by rw [HF.out];rfl,HB.out⟩
 by_cases y3:w<1
 · have HF:=hid (z1s (P:=⟨k,od,po,L,T,M,sk,fr,to,q⟩) (show z0m s w=false by unfold z0m;simp;omega))
   clear hP hok
   go_enter Tryz.func8,Tryz.ntmps8
   go_wp2_with fail
   go_ret
   exact⟨by rw [HF.out];rfl,HB.out⟩
 by_cases y4:4<w
 · have HF:=hid (z1s (P:=⟨k,od,po,L,T,M,sk,fr,to,q⟩) (show z0m s w=false by unfold z0m;simp;omega))
   clear hP hok
   go_enter Tryz.func8,Tryz.ntmps8
   go_wp2_with fail
   go_ret
   exact⟨by rw [HF.out];rfl,HB.out⟩
 have hs:z0m s w=true:=by unfold z0m;simp;omega
 by_cases k1:k=1
 · subst k1
   exact rgood1 s w od po lp ln lcp tp tn tcp wp wn wcp sk fr to q L T M W hs hP hok h1
 by_cases k2:k=2
 · subst k2
   exact rgood2 s w od po lp ln lcp tp tn tcp wp wn wcp sk fr to q L T M W hs hP hok h1
 by_cases k3:k=3
 · subst k3
   exact rgood3 s w od po lp ln lcp tp tn tcp wp wn wcp sk fr to q L T M W hs hP hok h1
 by_cases k4:k=4
 · subst k4
   exact rgood4 s w od po lp ln lcp tp tn tcp wp wn wcp sk fr to q L T M W hs hP hok h1
 by_cases k5:k=5
 · subst k5
   exact rgood5 s w od po lp ln lcp tp tn tcp wp wn wcp sk fr to q L T M W hs hP hok h1
 by_cases k6:k=6
 · subst k6
   exact rgood6 s w od po lp ln lcp tp tn tcp wp wn wcp sk fr to q L T M W hs hP hok h1
 have HF:=hid (z6e (s:=s) (w:=w) (P:=⟨k,od,po,L,T,M,sk,fr,to,q⟩) ⟨k1,k2,k3,k4,k5,k6⟩)
 have e1:(k==1)=false:=by simpa using k1
 have e2:(k==2)=false:=by simpa using k2
 have e3:(k==3)=false:=by simpa using k3
 have e4:(k==4)=false:=by simpa using k4
 have e5:(k==5)=false:=by simpa using k5
 have e6:(k==6)=false:=by simpa using k6
 obtain⟨W2,hW2,_,_,hb⟩:=z2o W #[.int .u8 k,.int .u32 od,.int .u8 po,.slice lp ln lcp,.slice tp tn tcp,.slice wp wn wcp,.int .u8 sk,.int .u8 fr,.int .u8 to,.int .i64 q] #[.int .u8 k,.int .u32 0,.int .u8 0,.slice none 0 0,.slice tp tn tcp,.slice none 0 0,.int .u8 0,.int .u8 0,.int .u8 0,.int .i64 0]
 have HW:=hid hW2
 have HB2:=hid hb
 clear hP hok k1 k2 k3 k4 k5 k6 hs hW2 hb
 go_enter Tryz.func8,Tryz.ntmps8
 go_wp2_with fail
 go_ret
 rw [HW.out]
 exact⟨by rw [HF.out];rfl,HB2.out⟩
theorem of_laid {W:World} (h:laidMetH Tryz.prog Rows.courseStraightRow.laid W):Words W:=by
 rw [MakeChecks.laidMetH_plain _ _ _ (by kernel_rfl)] at h
 obtain⟨ps,⟨g',t',cs,fuel,p,q,hg',ht',hvar,hd,_,_⟩,_⟩:=h
 obtain rfl:=Option.some.inj (gWords.symm.trans hg')
 obtain rfl:=Option.some.inj (tWords.symm.trans ht')
 unfold Words
 rw [hvar,← cells_of_strs (zs:=wordsL) Tryz.underlying194 Tryz.underlying9 (by kernel_rfl) (by kernel_rfl) hd]
theorem door_met (os:Os) (args:Array Value):laidMetH Tryz.prog Rows.courseStraightRow.laid ((World.doorLaid Tryz.prog 400 os).forCall (fun _ _=>0) ⟨#[],args,[]⟩).memory :=
 laidMetH_of_parts3 (fuel:=8) (laidMet_of_run' 8 (by kernel_rfl) (by kernel_rfl)) (by kernel_rfl) (by kernel_rfl)
end Go.Proofs.YtclbkfpbdidaiaaGreatDoor
