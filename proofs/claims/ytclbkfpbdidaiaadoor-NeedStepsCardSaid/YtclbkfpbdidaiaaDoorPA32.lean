import Derived.Test.YtclbkfpbdidaiaaDoorPA31
namespace Go.Proofs.YtclbkfpbdidaiaaDoor
open Go.Lib (hid)
set_option maxHeartbeats 8000000
open Go.RowKit Go.ChangeShapes Go.WideShapes
set_option linter.unusedVariables false
set_option linter.unusedSimpArgs false
set_option maxRecDepth 10000
theorem fills_long {sk to q:Int} {T:List Tk} (h:¬ T.length≤12):z1x sk to q T=false:=by
 unfold z1x
 rw [decide_eq_false h]
 simp
theorem alike_take {o:Int} {T:List Tk} {j:Nat} (hj:j≤T.length):alikeB o (T.take j)=!((List.range j).all fun k=>decide ((T.getD k tk0).1≠o)):=by
 have hl:(T.take j).length=j:=by rw [List.length_take];omega
 have hg:∀ k,k<j→(T.take j).getD k tk0=T.getD k tk0:=fun k hk=>by rw [List.getD,List.getD,List.getElem?_take,if_pos hk]
 cases hc:(List.range j).all fun k=>decide ((T.getD k tk0).1≠o) with
 | true =>
  refine alike_miss fun k hk=>?_
  rw [hl] at hk
  have:=List.all_eq_true.1 hc k (List.mem_range.2 hk)
  rw [hg k hk]
  simpa using this
 | false =>
  rw [List.all_eq_false] at hc
  obtain⟨k,hk,h⟩:=hc
  have hk:=List.mem_range.1 hk
  refine alike_hit (j:=k) (by omega) ?_
  rw [hg k hk]
  simpa using h
theorem fills_end {sk to q:Int} {T:List Tk} (h:∀ j,j<T.length→fillAt sk to T j=true) (hl:T.length≤12):z1x sk to q T=(okB (z1a (allT T)) && decide (z1a (allT T)≤q)):=by
 have hs:∀ x∈T,x.2.1=sk:=fun x hx=>by
  obtain⟨j,hj,rfl⟩:=mem_getD tk0 hx
  have:=h j hj
  rw [fillAt_eq,Bool.and_eq_true] at this
  have h1:=this.1
  unfold fiA at h1
  simp only [Bool.and_eq_true,decide_eq_true_eq] at h1
  exact h1.1.1.2
 rw [fills_true sk to q T h,named_all T sk hs,decide_eq_true hl,Bool.true_and]
theorem goodrestock_any (s w:Int) (k od po:Int) (lp:Option Addr) (ln lcp:Nat) (tp:Option Addr) (tn tcp:Nat) (wp:Option Addr) (wn wcp:Nat) (sk fr to q:Int) (L:List Ln) (T:List Tk) (M:List Ln) (W:World) (hw:Words W) (hP:PgM W lp ln lcp L tp tn tcp T wp wn wcp M) (hok:Pgok ⟨k,od,po,L,T,M,sk,fr,to,q⟩) (h1:1≤s) (h4:s≤4) (hw1:1≤w) (hw4:w≤4) (hn:ln≤400∧tn≤400∧wn≤400) :
 Calls Tryd.prog 49 #[.int .i64 s,.int .i64 w,.agg #[.int .u8 k,.int .u32 od,.int .u8 po,.slice lp ln lcp,.slice tp tn tcp,.slice wp wn wcp,.int .u8 sk,.int .u8 fr,.int .u8 to,.int .i64 q]] W fun e w'=>e=.returned (.bool (decide (sk<s) && decide (to<w) && decide (1≤q) && z1x sk to q T))∧Below W.heap.size W w':=by
 obtain⟨W2,hW2,hbx,hb2⟩:∃ W2,W.alloc (.cells #[.int .u8 k,.int .u32 od,.int .u8 po,.slice lp ln lcp,.slice tp tn tcp,.slice wp wn wcp,.int .u8 sk,.int .u8 fr,.int .u8 to,.int .i64 q] 33)=W2∧W2.heap[W.heap.size]?=some (.cells #[.int .u8 k,.int .u32 od,.int .u8 po,.slice lp ln lcp,.slice tp tn tcp,.slice wp wn wcp,.int .u8 sk,.int .u8 fr,.int .u8 to,.int .i64 q] 33 (0,0))∧Below W.heap.size W W2:=⟨_,rfl,z0b W _,(Below.refl _ _).alloc (Nat.le_refl _) _⟩
 have HW2:=hid hW2
 have HB2:=hid hb2
 have HX2:=hid hbx
 have HP2:=hid (hP.later hb2)
 have HV2:=hid (hw.later hb2)
 have HBI:Hid (Below W2.heap.size W2 W2):=hid (Below.refl _ _)
 have HLL:=hid hP.l.len
 have HLT:=hid hP.t.len
 have HLM:=hid hP.o.len
 have HOK:=hid hok
 obtain⟨hn1,hn2,hn3⟩:=hn
 have hsk:0≤sk∧sk≤255:=hok.sku
 have hfr:0≤fr∧fr≤255:=hok.frm
 have hto:0≤to∧to≤255:=hok.to
 have hpo:0≤po∧po≤255:=hok.policy
 have x6:IntKind.i64.wrap sk=sk:=IntWalk.i64_in _ (by omega)
 have x7:IntKind.i64.wrap fr=fr:=IntWalk.i64_in _ (by omega)
 have x8:IntKind.i64.wrap to=to:=IntWalk.i64_in _ (by omega)
 obtain⟨res,hg⟩:∃ res,res=(decide (sk<s) && decide (to<w) && decide (1≤q) && z1x sk to q T):=⟨_,rfl⟩
 have HG:=hid hg
 rw [← hg]
 clear hg hW2 hb2 hbx hP hok hw hsk hfr hto hpo
 obtain⟨a0,a1,a2,a3,a4,a5,a6,a7,a8,a9⟩:=z0d k od po lp ln lcp tp tn tcp wp wn wcp sk fr to q HX2.out
 go_enter Tryd.func49,Tryd.ntmps49
 by_cases t1:sk<s
 case neg =>
  have dt1:decide (s≤sk)=true:=decide_eq_true (by omega)
  have HF:Hid (res=false):=hid (by rw [HG.out];rw [decide_eq_false t1];simp)
  go_wp2_with fail
  go_ret
  rw [HW2.out]
  exact⟨by rw [HF.out];rfl,HB2.out.trans (HBI.out.mono HB2.out.size)⟩
 have dt1:decide (s≤sk)=false:=decide_eq_false (by omega)
 by_cases t2:to<w
 case neg =>
  have dt2:decide (w≤to)=true:=decide_eq_true (by omega)
  have HF:Hid (res=false):=hid (by rw [HG.out];rw [decide_eq_false t2];simp)
  go_wp2_with fail
  go_ret
  rw [HW2.out]
  exact⟨by rw [HF.out];rfl,HB2.out.trans (HBI.out.mono HB2.out.size)⟩
 have dt2:decide (w≤to)=false:=decide_eq_false (by omega)
 by_cases t3:1≤q
 case neg =>
  have dt3:decide (q<1)=true:=decide_eq_true (by omega)
  have HF:Hid (res=false):=hid (by rw [HG.out];rw [decide_eq_false t3];simp)
  go_wp2_with fail
  go_ret
  rw [HW2.out]
  exact⟨by rw [HF.out];rfl,HB2.out.trans (HBI.out.mono HB2.out.size)⟩
 have dt3:decide (q<1)=false:=decide_eq_false (by omega)
 by_cases t4:tn≤12
 case neg =>
  have d4:decide ((12:Int)<tn)=true:=decide_eq_true (by omega)
  have HF:Hid (res=false):=hid (by rw [HG.out,fills_long (by rw [HLT.out];exact t4)];simp)
  go_wp2_with fail
  go_ret
  rw [HW2.out]
  exact⟨by rw [HF.out];rfl,HB2.out⟩
 have d4:decide ((12:Int)<tn)=false:=decide_eq_false (by omega)
 have HR:Hid (res=z1x sk to q T):=hid (by rw [HG.out,decide_eq_true t1,decide_eq_true t2,decide_eq_true t3];rfl)
 have HFA:=hid fun j (hj:j<tn)=>fills_false sk to q T j (by rw [HLT.out];exact hj)
 have HT2:=hid HP2.out.t
 have hcap:=HT2.out.cap
 have HOT:=hid HOK.out.takes
 have HEN:Hid ((∀ j,j<tn→fillAt sk to T j=true)→z1x sk to q T=(okB (z1a (allT T)) && decide (z1a (allT T)≤q))):=hid fun h=>fills_end (fun j hj=>h j (by rw [← HLT.out];exact hj)) (by rw [HLT.out];exact t4)
 clear HP2 HOK HG
 clear a0 a1 a2 a3 a4 a5 a6 a7 a8 a9
 obtain⟨a0,a1,a2,a3,a4,a5,a6,a7,a8,a9⟩:=z0d k od po lp ln lcp tp tn tcp wp wn wcp sk fr to q HX2.out
 go_wp2_with fail
 rw [HW2.out]
 clear a0 a1 a2 a3 a4 a5 a6 a7 a8 a9
 go_loopw [37] (fun i wr=>∃ j:Nat,j≤tn∧i=.int .i64 j∧Hid (Below W2.heap.size W2 wr)∧Hid (∀ i,i<j→fillAt sk to T i=true)) (fun i _=>tn-(Go.RowKit.intOf i).toNat)
 case atStart=>exact⟨0,Nat.zero_le _,rfl,hid (Below.refl _ _),hid fun i hi=>by omega⟩
 case round =>
  obtain⟨j,hj,rfl,HB0,HE⟩:=hrel
  by_cases hlt:j<tn
  case neg =>
   obtain rfl:tn=j:=by omega
   have HF:=hid (HR.out.trans (HEN.out HE.out))
   obtain⟨a0,a1,a2,a3,a4,a5,a6,a7,a8,a9⟩:=z0d k od po lp ln lcp tp tn tcp wp wn wcp sk fr to q (z0c HX2.out HB0.out)
   go_wp2_with fail
   refine (together_any tp tn tcp T wr (HT2.out.later HB0.out) HOT.out (by omega)).mono ?_
   rintro e w3 ⟨rfl,hb3⟩
   have HB3:=hid (HB0.out.trans (hb3.mono HB0.out.size))
   clear hb3 a0 a1 a2 a3 a4 a5 a6 a7 a8 a9
   obtain⟨a0,a1,a2,a3,a4,a5,a6,a7,a8,a9⟩:=z0d k od po lp ln lcp tp tn tcp wp wn wcp sk fr to q (z0c HX2.out HB3.out)
   generalize z1a (allT T)=zz at *
   cases hb:okB zz with
   | false =>
    rw [hb] at HF
    go_wp2_with fail
    go_ret
    exact⟨by rw [HF.out];rfl,HB2.out.trans (HB3.out.mono HB2.out.size)⟩
   | true =>
    rw [hb] at HF
    have hv2:val zz=zz:=val_in _ ((okB_iff _).1 hb)
    rw [hv2]
    clear hv2
    go_wp2_with fail
    go_ret
    exact⟨by rw [HF.out];simp,HB2.out.trans (HB3.out.mono HB2.out.size)⟩
  have hlt':(j:Int)<tn:=by omega
  obtain⟨b,off,rfl,_,k0,k1,k2,k3⟩:=z1m (HT2.out.later HB0.out) hlt
  have HFJ:=hid fun h=>HR.out.trans (HFA.out j hlt h)
  have hat:=fillAt_eq sk to T j
  have HTK:=hid ((HT2.out.later HB0.out).take j hj)
  have HAK:=hid fun o=>alike_take (o:=o) (T:=T) (j:=j) (by rw [HLT.out];exact hj)
  obtain⟨a0,a1,a2,a3,a4,a5,a6,a7,a8,a9⟩:=z0d _ _ _ _ _ _ _ _ _ _ _ _ _ _ _ _ (z0c HX2.out HB0.out)
  generalize T.getD j tk0=x at *
  obtain⟨o,a,r,z⟩:=x
  dsimp only at k0 k1 k2 k3 hat
  have HAT:=hid hat
  have hbox:(wr.alloc (.cells #[.int .u32 o,.int .u8 a,.int .u8 r,.int .i64 z] 89)).heap[wr.heap.size]?=some (.cells #[.int .u32 o,.int .u8 a,.int .u8 r,.int .i64 z] 89 (0,0)):=z0b wr _
  have hbb:Below wr.heap.size wr (wr.alloc (.cells #[.int .u32 o,.int .u8 a,.int .u8 r,.int .i64 z] 89)):=(Below.refl _ _).alloc (Nat.le_refl _) _
  have HBX:=hid hbox
  have HBB:=hid hbb
  have HB:=hid (HB0.out.trans (hbb.mono HB0.out.size))
  clear hat hbox hbb
  obtain⟨c0,c1,c2,c3,c4,c5,c6,c7,c8,c9⟩:=z0d _ _ _ _ _ _ _ _ _ _ _ _ _ _ _ _ (z0c HX2.out HB.out)
  by_cases u1:o=0
  case pos =>
   have e1:(o==0)=true:=by simpa using u1
   have HF:=hid (HFJ.out (by rw [HAT.out,show fiA sk to (o,a,r,z)=false from by unfold fiA;simp [u1]];rfl))
   clear u1
   go_wp2_with fail
   go_ret
   exact⟨by rw [HF.out];rfl,HB2.out.trans (HB.out.mono HB2.out.size)⟩
  have e1:(o==0)=false:=by simpa using u1
  by_cases u2:a=sk
  case neg =>
   have e2:(a != sk)=true:=by simpa using u2
   have HF:=hid (HFJ.out (by rw [HAT.out,show fiA sk to (o,a,r,z)=false from by unfold fiA;simp [u2]];rfl))
   go_wp2_with fail
   go_ret
   exact⟨by rw [HF.out];rfl,HB2.out.trans (HB.out.mono HB2.out.size)⟩
  have e2:(a != sk)=false:=by simpa using u2
  have U2:=hid u2
  clear u2
  by_cases u3:r=to
  case neg =>
   have e3:(r != to)=true:=by simpa using u3
   have HF:=hid (HFJ.out (by rw [HAT.out,show fiA sk to (o,a,r,z)=false from by unfold fiA;simp [u3]];rfl))
   go_wp2_with fail
   go_ret
   exact⟨by rw [HF.out];rfl,HB2.out.trans (HB.out.mono HB2.out.size)⟩
  have e3:(r != to)=false:=by simpa using u3
  have U3:=hid u3
  clear u3
  by_cases u4:1≤z
  case neg =>
   have e4:decide (z<1)=true:=decide_eq_true (by omega)
   have HF:=hid (HFJ.out (by rw [HAT.out,show fiA sk to (o,a,r,z)=false from by unfold fiA;simp [u4]];rfl))
   go_wp2_with fail
   go_ret
   exact⟨by rw [HF.out];rfl,HB2.out.trans (HB.out.mono HB2.out.size)⟩
  have e4:decide (z<1)=false:=decide_eq_false (by omega)
  have HFI:Hid (fiA sk to (o,a,r,z)=true):=hid (by unfold fiA;rw [decide_eq_true u1,decide_eq_true U2.out,decide_eq_true U3.out,decide_eq_true u4];rfl)
  have HCL:=hid (contains_alike wr.heap.size o (some ⟨b,off,none⟩) j tcp (T.take j) (wr.alloc (.cells #[.int .u32 o,.int .u8 a,.int .u8 r,.int .i64 z] 89)) (HTK.out.later HBB.out) (z0a HBX.out rfl) (by omega))
  have HAL:=hid (HAK.out o)
  generalize alikeB o (T.take j)=al at *
  go_wp2_with fail
  refine HCL.out.mono ?_
  rintro e w3 ⟨rfl,hb3⟩
  have HB3:=hid (HB.out.trans (hb3.mono HB.out.size))
  clear hb3 c0 c1 c2 c3 c4 c5 c6 c7 c8 c9 a0 a1 a2 a3 a4 a5 a6 a7 a8 a9
  cases al with
  | true =>
   have HF:=hid (HFJ.out (by
    rw [HAT.out,HFI.out,Bool.true_and]
    have:=HAL.out
    simp only [Bool.true_eq,Bool.not_eq_true'] at this
    exact this))
   go_wp2_with fail
   go_ret
   exact⟨by rw [HF.out];rfl,HB2.out.trans (HB3.out.mono HB2.out.size)⟩
  | false =>
   have HT1:Hid (fillAt sk to T j=true):=hid (by
    rw [HAT.out,HFI.out,Bool.true_and]
    have:=HAL.out
    simp only [Bool.false_eq,Bool.not_eq_false'] at this
    exact this)
   go_wp2_with fail
   go_roundw
   case rel =>
    refine⟨j+1,by omega,by go_num,HB3,hid fun i hi=>?_⟩
    by_cases e:i=j
    · subst e;exact HT1.out
    · exact HE.out i (by omega)
   case measure=>simp [Go.RowKit.intOf];omega
theorem good1_p (s w:Int) (od po:Int) (lp:Option Addr) (ln lcp:Nat) (tp:Option Addr) (tn tcp:Nat) (wp:Option Addr) (wn wcp:Nat) (sk fr to q:Int) (L:List Ln) (T:List Tk) (M:List Ln) (W:World) (hs:z0o s w=true) (hw:Words W) (hP:PgM W lp ln lcp L tp tn tcp T wp wn wcp M) (hok:Pgok ⟨1,od,po,L,T,M,sk,fr,to,q⟩) (h1:ln≤400∧tn≤400∧wn≤400) :
 Calls Tryd.prog 24 #[.int .i64 s,.int .i64 w,.agg #[.int .u8 1,.int .u32 od,.int .u8 po,.slice lp ln lcp,.slice tp tn tcp,.slice wp wn wcp,.int .u8 sk,.int .u8 fr,.int .u8 to,.int .i64 q]] W fun e w'=>e=.returned (.bool (z0s s w ⟨1,od,po,L,T,M,sk,fr,to,q⟩))∧Below W.heap.size W w':=by
 have hg:z0s s w ⟨1,od,po,L,T,M,sk,fr,to,q⟩=((decide (od≠0) && decide (po≤1) && decide (1≤L.length) && z0l s L && z0p s w od T && z0l s M && coverB T M L && (decide (po=0) || decide (M.length=0))) && decide ((⟨1,od,po,L,T,M,sk,fr,to,q⟩:Pg)=⟨1,od,po,L,T,M,0,0,0,0⟩)):=by
  unfold z0s
  rw [hs,Bool.true_and,ask1,qof1]
 have hs4:1≤s∧s≤4∧1≤w∧w≤4:=by
  unfold z0o at hs
  simp only [Bool.and_eq_true,decide_eq_true_eq] at hs
  omega
 obtain⟨hs1,hs2,hs3,hs4⟩:=hs4
 have h2:ln≤1000∧tn≤1000∧wn≤1000:=⟨by omega,by omega,by omega⟩
 obtain⟨W2,hW2,hbx,hb2⟩:∃ W2,W.alloc (.cells #[.int .u8 1,.int .u32 od,.int .u8 po,.slice lp ln lcp,.slice tp tn tcp,.slice wp wn wcp,.int .u8 sk,.int .u8 fr,.int .u8 to,.int .i64 q] 33)=W2∧W2.heap[W.heap.size]?=some (.cells #[.int .u8 1,.int .u32 od,.int .u8 po,.slice lp ln lcp,.slice tp tn tcp,.slice wp wn wcp,.int .u8 sk,.int .u8 fr,.int .u8 to,.int .i64 q] 33 (0,0))∧Below W.heap.size W W2:=⟨_,rfl,z0b W _,(Below.refl _ _).alloc (Nat.le_refl _) _⟩
 have HW2:=hid hW2
 have HB2:=hid hb2
 have HX2:=hid hbx
 have hj:∀ w',Below W2.heap.size W2 w'→_:=fun w' h=>just_p 1 od po lp ln lcp tp tn tcp wp wn wcp sk fr to q 0 od po lp ln lcp tp tn tcp wp wn wcp 0 0 0 0 L T M L T M w' ((hP.later hb2).later h) (have hP:=(hP.later hb2).later h;hP) h2 h2
 have hq:∀ w',Below W2.heap.size W2 w'→_:=fun w' h=>goodplace_any s w 1 od po lp ln lcp tp tn tcp wp wn wcp sk fr to q L T M w' ((hw.later hb2).later h) ((hP.later hb2).later h) hok hs1 hs2 hs3 hs4 h1
 rw [hg]
 generalize (decide (od≠0) && decide (po≤1) && decide (1≤L.length) && z0l s L && z0p s w od T && z0l s M && coverB T M L && (decide (po=0) || decide (M.length=0)))=ex at *
 generalize decide ((⟨1,od,po,L,T,M,sk,fr,to,q⟩:Pg)=⟨1,od,po,L,T,M,0,0,0,0⟩)=dd at *
 have HJ:=hid hj
 have HQ:=hid hq
 have y1:decide (s<1)=false:=decide_eq_false (by omega)
 have y2:decide (4<s)=false:=decide_eq_false (by omega)
 have y3:decide (w<1)=false:=decide_eq_false (by omega)
 have y4:decide (4<w)=false:=decide_eq_false (by omega)
 clear hg hW2 hb2 hbx hj hq hP hok hw hs h1 h2
 obtain⟨a0,a1,a2,a3,a4,a5,a6,a7,a8,a9⟩:=z0d 1 od po lp ln lcp tp tn tcp wp wn wcp sk fr to q HX2.out
 go_enter Tryd.func24,Tryd.ntmps24
 go_wp2_with fail
 rw [HW2.out]
 refine (HJ.out W2 (Below.refl _ _)).mono ?_
 rintro e w0 ⟨rfl,hb⟩
 have HB3:=hid hb
 clear hb a0 a1 a2 a3 a4 a5 a6 a7 a8 a9
 obtain⟨a0,a1,a2,a3,a4,a5,a6,a7,a8,a9⟩:=z0d 1 od po lp ln lcp tp tn tcp wp wn wcp sk fr to q (z0c HX2.out HB3.out)
 cases dd with
 | false =>
  go_wp2_with fail
  go_ret
  exact⟨by rw [Bool.and_false];rfl,HB2.out.trans (HB3.out.mono HB2.out.size)⟩
 | true =>
  go_wp2_with fail
  refine (HQ.out w0 HB3.out).mono ?_
  rintro e w1 ⟨rfl,hb⟩
  have HB4:=hid (HB3.out.trans (hb.mono HB3.out.size))
  clear hb a0 a1 a2 a3 a4 a5 a6 a7 a8 a9
  go_wp2_with fail
  go_ret
  exact⟨by rw [Bool.and_true];rfl,HB2.out.trans (HB4.out.mono HB2.out.size)⟩
theorem good2_p (s w:Int) (od po:Int) (lp:Option Addr) (ln lcp:Nat) (tp:Option Addr) (tn tcp:Nat) (wp:Option Addr) (wn wcp:Nat) (sk fr to q:Int) (L:List Ln) (T:List Tk) (M:List Ln) (W:World) (hs:z0o s w=true) (hw:Words W) (hP:PgM W lp ln lcp L tp tn tcp T wp wn wcp M) (hok:Pgok ⟨2,od,po,L,T,M,sk,fr,to,q⟩) (h1:ln≤400∧tn≤400∧wn≤400) :
 Calls Tryd.prog 24 #[.int .i64 s,.int .i64 w,.agg #[.int .u8 2,.int .u32 od,.int .u8 po,.slice lp ln lcp,.slice tp tn tcp,.slice wp wn wcp,.int .u8 sk,.int .u8 fr,.int .u8 to,.int .i64 q]] W fun e w'=>e=.returned (.bool (z0s s w ⟨2,od,po,L,T,M,sk,fr,to,q⟩))∧Below W.heap.size W w':=by
 have hg:z0s s w ⟨2,od,po,L,T,M,sk,fr,to,q⟩=((decide (od≠0) && z0p s w od T && z0l s M && decide (1≤T.length+M.length)) && decide ((⟨2,od,po,L,T,M,sk,fr,to,q⟩:Pg)=⟨2,od,0,[],T,M,0,0,0,0⟩)):=by
  unfold z0s
  rw [hs,Bool.true_and,ask2,qof2]
 have hs4:1≤s∧s≤4∧1≤w∧w≤4:=by
  unfold z0o at hs
  simp only [Bool.and_eq_true,decide_eq_true_eq] at hs
  omega
 obtain⟨hs1,hs2,hs3,hs4⟩:=hs4
 have h2:ln≤1000∧tn≤1000∧wn≤1000:=⟨by omega,by omega,by omega⟩
 obtain⟨W2,hW2,hbx,hb2⟩:∃ W2,W.alloc (.cells #[.int .u8 2,.int .u32 od,.int .u8 po,.slice lp ln lcp,.slice tp tn tcp,.slice wp wn wcp,.int .u8 sk,.int .u8 fr,.int .u8 to,.int .i64 q] 33)=W2∧W2.heap[W.heap.size]?=some (.cells #[.int .u8 2,.int .u32 od,.int .u8 po,.slice lp ln lcp,.slice tp tn tcp,.slice wp wn wcp,.int .u8 sk,.int .u8 fr,.int .u8 to,.int .i64 q] 33 (0,0))∧Below W.heap.size W W2:=⟨_,rfl,z0b W _,(Below.refl _ _).alloc (Nat.le_refl _) _⟩
 have HW2:=hid hW2
 have HB2:=hid hb2
 have HX2:=hid hbx
 have hj:∀ w',Below W2.heap.size W2 w'→_:=fun w' h=>just_p 2 od po lp ln lcp tp tn tcp wp wn wcp sk fr to q 0 od 0 none 0 0 tp tn tcp wp wn wcp 0 0 0 0 L T M [] T M w' ((hP.later hb2).later h) (have hP:=(hP.later hb2).later h;⟨SlG.empty _,hP.t,hP.o⟩) h2 ⟨by omega,h2.2.1,h2.2.2⟩
 have hq:∀ w',Below W2.heap.size W2 w'→_:=fun w' h=>goodcancel_any s w 2 od po lp ln lcp tp tn tcp wp wn wcp sk fr to q L T M w' ((hw.later hb2).later h) ((hP.later hb2).later h) hok hs1 hs2 hs3 hs4 h1
 rw [hg]
 generalize (decide (od≠0) && z0p s w od T && z0l s M && decide (1≤T.length+M.length))=ex at *
 generalize decide ((⟨2,od,po,L,T,M,sk,fr,to,q⟩:Pg)=⟨2,od,0,[],T,M,0,0,0,0⟩)=dd at *
 have HJ:=hid hj
 have HQ:=hid hq
 have y1:decide (s<1)=false:=decide_eq_false (by omega)
 have y2:decide (4<s)=false:=decide_eq_false (by omega)
 have y3:decide (w<1)=false:=decide_eq_false (by omega)
 have y4:decide (4<w)=false:=decide_eq_false (by omega)
 clear hg hW2 hb2 hbx hj hq hP hok hw hs h1 h2
 obtain⟨a0,a1,a2,a3,a4,a5,a6,a7,a8,a9⟩:=z0d 2 od po lp ln lcp tp tn tcp wp wn wcp sk fr to q HX2.out
 go_enter Tryd.func24,Tryd.ntmps24
 go_wp2_with fail
 rw [HW2.out]
 refine (HJ.out W2 (Below.refl _ _)).mono ?_
 rintro e w0 ⟨rfl,hb⟩
 have HB3:=hid hb
 clear hb a0 a1 a2 a3 a4 a5 a6 a7 a8 a9
 obtain⟨a0,a1,a2,a3,a4,a5,a6,a7,a8,a9⟩:=z0d 2 od po lp ln lcp tp tn tcp wp wn wcp sk fr to q (z0c HX2.out HB3.out)
 cases dd with
 | false =>
  go_wp2_with fail
  go_ret
  exact⟨by rw [Bool.and_false];rfl,HB2.out.trans (HB3.out.mono HB2.out.size)⟩
 | true =>
  go_wp2_with fail
  refine (HQ.out w0 HB3.out).mono ?_
  rintro e w1 ⟨rfl,hb⟩
  have HB4:=hid (HB3.out.trans (hb.mono HB3.out.size))
  clear hb a0 a1 a2 a3 a4 a5 a6 a7 a8 a9
  go_wp2_with fail
  go_ret
  exact⟨by rw [Bool.and_true];rfl,HB2.out.trans (HB4.out.mono HB2.out.size)⟩
theorem good3_p (s w:Int) (od po:Int) (lp:Option Addr) (ln lcp:Nat) (tp:Option Addr) (tn tcp:Nat) (wp:Option Addr) (wn wcp:Nat) (sk fr to q:Int) (L:List Ln) (T:List Tk) (M:List Ln) (W:World) (hs:z0o s w=true) (hw:Words W) (hP:PgM W lp ln lcp L tp tn tcp T wp wn wcp M) (hok:Pgok ⟨3,od,po,L,T,M,sk,fr,to,q⟩) (h1:ln≤400∧tn≤400∧wn≤400) :
 Calls Tryd.prog 24 #[.int .i64 s,.int .i64 w,.agg #[.int .u8 3,.int .u32 od,.int .u8 po,.slice lp ln lcp,.slice tp tn tcp,.slice wp wn wcp,.int .u8 sk,.int .u8 fr,.int .u8 to,.int .i64 q]] W fun e w'=>e=.returned (.bool (z0s s w ⟨3,od,po,L,T,M,sk,fr,to,q⟩))∧Below W.heap.size W w':=by
 have hg:z0s s w ⟨3,od,po,L,T,M,sk,fr,to,q⟩=((decide (od≠0) && z0p s w od T && decide (1≤T.length)) && decide ((⟨3,od,po,L,T,M,sk,fr,to,q⟩:Pg)=⟨3,od,0,[],T,[],0,0,0,0⟩)):=by
  unfold z0s
  rw [hs,Bool.true_and,ask3,qof3]
 have hs4:1≤s∧s≤4∧1≤w∧w≤4:=by
  unfold z0o at hs
  simp only [Bool.and_eq_true,decide_eq_true_eq] at hs
  omega
 obtain⟨hs1,hs2,hs3,hs4⟩:=hs4
 have h2:ln≤1000∧tn≤1000∧wn≤1000:=⟨by omega,by omega,by omega⟩
 obtain⟨W2,hW2,hbx,hb2⟩:∃ W2,W.alloc (.cells #[.int .u8 3,.int .u32 od,.int .u8 po,.slice lp ln lcp,.slice tp tn tcp,.slice wp wn wcp,.int .u8 sk,.int .u8 fr,.int .u8 to,.int .i64 q] 33)=W2∧W2.heap[W.heap.size]?=some (.cells #[.int .u8 3,.int .u32 od,.int .u8 po,.slice lp ln lcp,.slice tp tn tcp,.slice wp wn wcp,.int .u8 sk,.int .u8 fr,.int .u8 to,.int .i64 q] 33 (0,0))∧Below W.heap.size W W2:=⟨_,rfl,z0b W _,(Below.refl _ _).alloc (Nat.le_refl _) _⟩
 have HW2:=hid hW2
 have HB2:=hid hb2
 have HX2:=hid hbx
 have hj:∀ w',Below W2.heap.size W2 w'→_:=fun w' h=>just_p 3 od po lp ln lcp tp tn tcp wp wn wcp sk fr to q 0 od 0 none 0 0 tp tn tcp none 0 0 0 0 0 0 L T M [] T [] w' ((hP.later hb2).later h) (have hP:=(hP.later hb2).later h;⟨SlG.empty _,hP.t,SlG.empty _⟩) h2 ⟨by omega,h2.2.1,by omega⟩
 have hq:∀ w',Below W2.heap.size W2 w'→_:=fun w' h=>goodmove_any s w 3 od po lp ln lcp tp tn tcp wp wn wcp sk fr to q L T M w' ((hw.later hb2).later h) ((hP.later hb2).later h) hok hs1 hs2 hs3 hs4 h1
 rw [hg]
 generalize (decide (od≠0) && z0p s w od T && decide (1≤T.length))=ex at *
 generalize decide ((⟨3,od,po,L,T,M,sk,fr,to,q⟩:Pg)=⟨3,od,0,[],T,[],0,0,0,0⟩)=dd at *
 have HJ:=hid hj
 have HQ:=hid hq
 have y1:decide (s<1)=false:=decide_eq_false (by omega)
 have y2:decide (4<s)=false:=decide_eq_false (by omega)
 have y3:decide (w<1)=false:=decide_eq_false (by omega)
 have y4:decide (4<w)=false:=decide_eq_false (by omega)
 clear hg hW2 hb2 hbx hj hq hP hok hw hs h1 h2
 obtain⟨a0,a1,a2,a3,a4,a5,a6,a7,a8,a9⟩:=z0d 3 od po lp ln lcp tp tn tcp wp wn wcp sk fr to q HX2.out
 go_enter Tryd.func24,Tryd.ntmps24
 go_wp2_with fail
 rw [HW2.out]
 refine (HJ.out W2 (Below.refl _ _)).mono ?_
 rintro e w0 ⟨rfl,hb⟩
 have HB3:=hid hb
 clear hb a0 a1 a2 a3 a4 a5 a6 a7 a8 a9
 obtain⟨a0,a1,a2,a3,a4,a5,a6,a7,a8,a9⟩:=z0d 3 od po lp ln lcp tp tn tcp wp wn wcp sk fr to q (z0c HX2.out HB3.out)
 cases dd with
 | false =>
  go_wp2_with fail
  go_ret
  exact⟨by rw [Bool.and_false];rfl,HB2.out.trans (HB3.out.mono HB2.out.size)⟩
 | true =>
  go_wp2_with fail
  refine (HQ.out w0 HB3.out).mono ?_
  rintro e w1 ⟨rfl,hb⟩
  have HB4:=hid (HB3.out.trans (hb.mono HB3.out.size))
  clear hb a0 a1 a2 a3 a4 a5 a6 a7 a8 a9
  go_wp2_with fail
  go_ret
  exact⟨by rw [Bool.and_true];rfl,HB2.out.trans (HB4.out.mono HB2.out.size)⟩
theorem good4_p (s w:Int) (od po:Int) (lp:Option Addr) (ln lcp:Nat) (tp:Option Addr) (tn tcp:Nat) (wp:Option Addr) (wn wcp:Nat) (sk fr to q:Int) (L:List Ln) (T:List Tk) (M:List Ln) (W:World) (hs:z0o s w=true) (hw:Words W) (hP:PgM W lp ln lcp L tp tn tcp T wp wn wcp M) (hok:Pgok ⟨4,od,po,L,T,M,sk,fr,to,q⟩) (h1:ln≤400∧tn≤400∧wn≤400) :
 Calls Tryd.prog 24 #[.int .i64 s,.int .i64 w,.agg #[.int .u8 4,.int .u32 od,.int .u8 po,.slice lp ln lcp,.slice tp tn tcp,.slice wp wn wcp,.int .u8 sk,.int .u8 fr,.int .u8 to,.int .i64 q]] W fun e w'=>e=.returned (.bool (z0s s w ⟨4,od,po,L,T,M,sk,fr,to,q⟩))∧Below W.heap.size W w':=by
 have hg:z0s s w ⟨4,od,po,L,T,M,sk,fr,to,q⟩=((decide (od≠0) && z0p s w od T && decide (1≤T.length)) && decide ((⟨4,od,po,L,T,M,sk,fr,to,q⟩:Pg)=⟨4,od,0,[],T,[],0,0,0,0⟩)):=by
  unfold z0s
  rw [hs,Bool.true_and,ask4,qof4]
 have hs4:1≤s∧s≤4∧1≤w∧w≤4:=by
  unfold z0o at hs
  simp only [Bool.and_eq_true,decide_eq_true_eq] at hs
  omega
 obtain⟨hs1,hs2,hs3,hs4⟩:=hs4
 have h2:ln≤1000∧tn≤1000∧wn≤1000:=⟨by omega,by omega,by omega⟩
 obtain⟨W2,hW2,hbx,hb2⟩:∃ W2,W.alloc (.cells #[.int .u8 4,.int .u32 od,.int .u8 po,.slice lp ln lcp,.slice tp tn tcp,.slice wp wn wcp,.int .u8 sk,.int .u8 fr,.int .u8 to,.int .i64 q] 33)=W2∧W2.heap[W.heap.size]?=some (.cells #[.int .u8 4,.int .u32 od,.int .u8 po,.slice lp ln lcp,.slice tp tn tcp,.slice wp wn wcp,.int .u8 sk,.int .u8 fr,.int .u8 to,.int .i64 q] 33 (0,0))∧Below W.heap.size W W2:=⟨_,rfl,z0b W _,(Below.refl _ _).alloc (Nat.le_refl _) _⟩
 have HW2:=hid hW2
 have HB2:=hid hb2
 have HX2:=hid hbx
 have hj:∀ w',Below W2.heap.size W2 w'→_:=fun w' h=>just_p 4 od po lp ln lcp tp tn tcp wp wn wcp sk fr to q 0 od 0 none 0 0 tp tn tcp none 0 0 0 0 0 0 L T M [] T [] w' ((hP.later hb2).later h) (have hP:=(hP.later hb2).later h;⟨SlG.empty _,hP.t,SlG.empty _⟩) h2 ⟨by omega,h2.2.1,by omega⟩
 have hq:∀ w',Below W2.heap.size W2 w'→_:=fun w' h=>goodmove_any s w 4 od po lp ln lcp tp tn tcp wp wn wcp sk fr to q L T M w' ((hw.later hb2).later h) ((hP.later hb2).later h) hok hs1 hs2 hs3 hs4 h1
 rw [hg]
 generalize (decide (od≠0) && z0p s w od T && decide (1≤T.length))=ex at *
 generalize decide ((⟨4,od,po,L,T,M,sk,fr,to,q⟩:Pg)=⟨4,od,0,[],T,[],0,0,0,0⟩)=dd at *
 have HJ:=hid hj
 have HQ:=hid hq
 have y1:decide (s<1)=false:=decide_eq_false (by omega)
 have y2:decide (4<s)=false:=decide_eq_false (by omega)
 have y3:decide (w<1)=false:=decide_eq_false (by omega)
 have y4:decide (4<w)=false:=decide_eq_false (by omega)
 clear hg hW2 hb2 hbx hj hq hP hok hw hs h1 h2
 obtain⟨a0,a1,a2,a3,a4,a5,a6,a7,a8,a9⟩:=z0d 4 od po lp ln lcp tp tn tcp wp wn wcp sk fr to q HX2.out
 go_enter Tryd.func24,Tryd.ntmps24
 go_wp2_with fail
 rw [HW2.out]
 refine (HJ.out W2 (Below.refl _ _)).mono ?_
 rintro e w0 ⟨rfl,hb⟩
 have HB3:=hid hb
 clear hb a0 a1 a2 a3 a4 a5 a6 a7 a8 a9
 obtain⟨a0,a1,a2,a3,a4,a5,a6,a7,a8,a9⟩:=z0d 4 od po lp ln lcp tp tn tcp wp wn wcp sk fr to q (z0c HX2.out HB3.out)
 cases dd with
 | false =>
  go_wp2_with fail
  go_ret
  exact⟨by rw [Bool.and_false];rfl,HB2.out.trans (HB3.out.mono HB2.out.size)⟩
 | true =>
  go_wp2_with fail
  refine (HQ.out w0 HB3.out).mono ?_
  rintro e w1 ⟨rfl,hb⟩
  have HB4:=hid (HB3.out.trans (hb.mono HB3.out.size))
  clear hb a0 a1 a2 a3 a4 a5 a6 a7 a8 a9
  go_wp2_with fail
  go_ret
  exact⟨by rw [Bool.and_true];rfl,HB2.out.trans (HB4.out.mono HB2.out.size)⟩
theorem good5_p (s w:Int) (od po:Int) (lp:Option Addr) (ln lcp:Nat) (tp:Option Addr) (tn tcp:Nat) (wp:Option Addr) (wn wcp:Nat) (sk fr to q:Int) (L:List Ln) (T:List Tk) (M:List Ln) (W:World) (hs:z0o s w=true) (hw:Words W) (hP:PgM W lp ln lcp L tp tn tcp T wp wn wcp M) (hok:Pgok ⟨5,od,po,L,T,M,sk,fr,to,q⟩) (h1:ln≤400∧tn≤400∧wn≤400) :
 Calls Tryd.prog 24 #[.int .i64 s,.int .i64 w,.agg #[.int .u8 5,.int .u32 od,.int .u8 po,.slice lp ln lcp,.slice tp tn tcp,.slice wp wn wcp,.int .u8 sk,.int .u8 fr,.int .u8 to,.int .i64 q]] W fun e w'=>e=.returned (.bool (z0s s w ⟨5,od,po,L,T,M,sk,fr,to,q⟩))∧Below W.heap.size W w':=by
 have hg:z0s s w ⟨5,od,po,L,T,M,sk,fr,to,q⟩=((decide (sk<s) && decide (to<w) && decide (1≤q) && z1x sk to q T) && decide ((⟨5,od,po,L,T,M,sk,fr,to,q⟩:Pg)=⟨5,0,0,[],T,[],sk,0,to,q⟩)):=by
  unfold z0s
  rw [hs,Bool.true_and,ask5,qof5]
 have hs4:1≤s∧s≤4∧1≤w∧w≤4:=by
  unfold z0o at hs
  simp only [Bool.and_eq_true,decide_eq_true_eq] at hs
  omega
 obtain⟨hs1,hs2,hs3,hs4⟩:=hs4
 have h2:ln≤1000∧tn≤1000∧wn≤1000:=⟨by omega,by omega,by omega⟩
 obtain⟨W2,hW2,hbx,hb2⟩:∃ W2,W.alloc (.cells #[.int .u8 5,.int .u32 od,.int .u8 po,.slice lp ln lcp,.slice tp tn tcp,.slice wp wn wcp,.int .u8 sk,.int .u8 fr,.int .u8 to,.int .i64 q] 33)=W2∧W2.heap[W.heap.size]?=some (.cells #[.int .u8 5,.int .u32 od,.int .u8 po,.slice lp ln lcp,.slice tp tn tcp,.slice wp wn wcp,.int .u8 sk,.int .u8 fr,.int .u8 to,.int .i64 q] 33 (0,0))∧Below W.heap.size W W2:=⟨_,rfl,z0b W _,(Below.refl _ _).alloc (Nat.le_refl _) _⟩
 have HW2:=hid hW2
 have HB2:=hid hb2
 have HX2:=hid hbx
 have hj:∀ w',Below W2.heap.size W2 w'→_:=fun w' h=>just_p 5 od po lp ln lcp tp tn tcp wp wn wcp sk fr to q 0 0 0 none 0 0 tp tn tcp none 0 0 sk 0 to q L T M [] T [] w' ((hP.later hb2).later h) (have hP:=(hP.later hb2).later h;⟨SlG.empty _,hP.t,SlG.empty _⟩) h2 ⟨by omega,h2.2.1,by omega⟩
 have hq:∀ w',Below W2.heap.size W2 w'→_:=fun w' h=>goodrestock_any s w 5 od po lp ln lcp tp tn tcp wp wn wcp sk fr to q L T M w' ((hw.later hb2).later h) ((hP.later hb2).later h) hok hs1 hs2 hs3 hs4 h1
 rw [hg]
 generalize (decide (sk<s) && decide (to<w) && decide (1≤q) && z1x sk to q T)=ex at *
 generalize decide ((⟨5,od,po,L,T,M,sk,fr,to,q⟩:Pg)=⟨5,0,0,[],T,[],sk,0,to,q⟩)=dd at *
 have HJ:=hid hj
 have HQ:=hid hq
 have y1:decide (s<1)=false:=decide_eq_false (by omega)
 have y2:decide (4<s)=false:=decide_eq_false (by omega)
 have y3:decide (w<1)=false:=decide_eq_false (by omega)
 have y4:decide (4<w)=false:=decide_eq_false (by omega)
 clear hg hW2 hb2 hbx hj hq hP hok hw hs h1 h2
 obtain⟨a0,a1,a2,a3,a4,a5,a6,a7,a8,a9⟩:=z0d 5 od po lp ln lcp tp tn tcp wp wn wcp sk fr to q HX2.out
 go_enter Tryd.func24,Tryd.ntmps24
 go_wp2_with fail
 rw [HW2.out]
 refine (HJ.out W2 (Below.refl _ _)).mono ?_
 rintro e w0 ⟨rfl,hb⟩
 have HB3:=hid hb
 clear hb a0 a1 a2 a3 a4 a5 a6 a7 a8 a9
 obtain⟨a0,a1,a2,a3,a4,a5,a6,a7,a8,a9⟩:=z0d 5 od po lp ln lcp tp tn tcp wp wn wcp sk fr to q (z0c HX2.out HB3.out)
 cases dd with
 | false =>
  go_wp2_with fail
  go_ret
  exact⟨by rw [Bool.and_false];rfl,HB2.out.trans (HB3.out.mono HB2.out.size)⟩
 | true =>
  go_wp2_with fail
  refine (HQ.out w0 HB3.out).mono ?_
  rintro e w1 ⟨rfl,hb⟩
  have HB4:=hid (HB3.out.trans (hb.mono HB3.out.size))
  clear hb a0 a1 a2 a3 a4 a5 a6 a7 a8 a9
  go_wp2_with fail
  go_ret
  exact⟨by rw [Bool.and_true];rfl,HB2.out.trans (HB4.out.mono HB2.out.size)⟩
theorem good6_p (s w:Int) (od po:Int) (lp:Option Addr) (ln lcp:Nat) (tp:Option Addr) (tn tcp:Nat) (wp:Option Addr) (wn wcp:Nat) (sk fr to q:Int) (L:List Ln) (T:List Tk) (M:List Ln) (W:World) (hs:z0o s w=true) (hw:Words W) (hP:PgM W lp ln lcp L tp tn tcp T wp wn wcp M) (hok:Pgok ⟨6,od,po,L,T,M,sk,fr,to,q⟩) (h1:ln≤400∧tn≤400∧wn≤400) :
 Calls Tryd.prog 24 #[.int .i64 s,.int .i64 w,.agg #[.int .u8 6,.int .u32 od,.int .u8 po,.slice lp ln lcp,.slice tp tn tcp,.slice wp wn wcp,.int .u8 sk,.int .u8 fr,.int .u8 to,.int .i64 q]] W fun e w'=>e=.returned (.bool (z0s s w ⟨6,od,po,L,T,M,sk,fr,to,q⟩))∧Below W.heap.size W w':=by
 have hg:z0s s w ⟨6,od,po,L,T,M,sk,fr,to,q⟩=((decide (sk<s) && decide (fr<w) && decide (to<w) && decide (fr≠to) && decide (1≤q)) && decide ((⟨6,od,po,L,T,M,sk,fr,to,q⟩:Pg)=⟨6,0,0,[],[],[],sk,fr,to,q⟩)):=by
  unfold z0s
  rw [hs,Bool.true_and,ask6,qof6]
 have hs4:1≤s∧s≤4∧1≤w∧w≤4:=by
  unfold z0o at hs
  simp only [Bool.and_eq_true,decide_eq_true_eq] at hs
  omega
 obtain⟨hs1,hs2,hs3,hs4⟩:=hs4
 have h2:ln≤1000∧tn≤1000∧wn≤1000:=⟨by omega,by omega,by omega⟩
 obtain⟨W2,hW2,hbx,hb2⟩:∃ W2,W.alloc (.cells #[.int .u8 6,.int .u32 od,.int .u8 po,.slice lp ln lcp,.slice tp tn tcp,.slice wp wn wcp,.int .u8 sk,.int .u8 fr,.int .u8 to,.int .i64 q] 33)=W2∧W2.heap[W.heap.size]?=some (.cells #[.int .u8 6,.int .u32 od,.int .u8 po,.slice lp ln lcp,.slice tp tn tcp,.slice wp wn wcp,.int .u8 sk,.int .u8 fr,.int .u8 to,.int .i64 q] 33 (0,0))∧Below W.heap.size W W2:=⟨_,rfl,z0b W _,(Below.refl _ _).alloc (Nat.le_refl _) _⟩
 have HW2:=hid hW2
 have HB2:=hid hb2
 have HX2:=hid hbx
 have hj:∀ w',Below W2.heap.size W2 w'→_:=fun w' h=>just_p 6 od po lp ln lcp tp tn tcp wp wn wcp sk fr to q 0 0 0 none 0 0 none 0 0 none 0 0 sk fr to q L T M [] [] [] w' ((hP.later hb2).later h) (have hP:=(hP.later hb2).later h;⟨SlG.empty _,SlG.empty _,SlG.empty _⟩) h2 ⟨by omega,by omega,by omega⟩
 have hq:∀ w',Below W2.heap.size W2 w'→_:=fun w' h=>goodtransfer_any s w 6 od po lp ln lcp tp tn tcp wp wn wcp sk fr to q L T M w' ((hw.later hb2).later h) ((hP.later hb2).later h) hok hs1 hs2 hs3 hs4 h1
 rw [hg]
 generalize (decide (sk<s) && decide (fr<w) && decide (to<w) && decide (fr≠to) && decide (1≤q))=ex at *
 generalize decide ((⟨6,od,po,L,T,M,sk,fr,to,q⟩:Pg)=⟨6,0,0,[],[],[],sk,fr,to,q⟩)=dd at *
 have HJ:=hid hj
 have HQ:=hid hq
 have y1:decide (s<1)=false:=decide_eq_false (by omega)
 have y2:decide (4<s)=false:=decide_eq_false (by omega)
 have y3:decide (w<1)=false:=decide_eq_false (by omega)
 have y4:decide (4<w)=false:=decide_eq_false (by omega)
 clear hg hW2 hb2 hbx hj hq hP hok hw hs h1 h2
 obtain⟨a0,a1,a2,a3,a4,a5,a6,a7,a8,a9⟩:=z0d 6 od po lp ln lcp tp tn tcp wp wn wcp sk fr to q HX2.out
 go_enter Tryd.func24,Tryd.ntmps24
 go_wp2_with fail
 rw [HW2.out]
 refine (HJ.out W2 (Below.refl _ _)).mono ?_
 rintro e w0 ⟨rfl,hb⟩
 have HB3:=hid hb
 clear hb a0 a1 a2 a3 a4 a5 a6 a7 a8 a9
 obtain⟨a0,a1,a2,a3,a4,a5,a6,a7,a8,a9⟩:=z0d 6 od po lp ln lcp tp tn tcp wp wn wcp sk fr to q (z0c HX2.out HB3.out)
 cases dd with
 | false =>
  go_wp2_with fail
  go_ret
  exact⟨by rw [Bool.and_false];rfl,HB2.out.trans (HB3.out.mono HB2.out.size)⟩
 | true =>
  go_wp2_with fail
  refine (HQ.out w0 HB3.out).mono ?_
  rintro e w1 ⟨rfl,hb⟩
  have HB4:=hid (HB3.out.trans (hb.mono HB3.out.size))
  clear hb a0 a1 a2 a3 a4 a5 a6 a7 a8 a9
  go_wp2_with fail
  go_ret
  exact⟨by rw [Bool.and_true];rfl,HB2.out.trans (HB4.out.mono HB2.out.size)⟩
theorem good_p (s w:Int) (k od po:Int) (lp:Option Addr) (ln lcp:Nat) (tp:Option Addr) (tn tcp:Nat) (wp:Option Addr) (wn wcp:Nat) (sk fr to q:Int) (L:List Ln) (T:List Tk) (M:List Ln) (W:World) (hw:Words W) (hP:PgM W lp ln lcp L tp tn tcp T wp wn wcp M) (hok:Pgok ⟨k,od,po,L,T,M,sk,fr,to,q⟩) (h1:ln≤400∧tn≤400∧wn≤400) :
 Calls Tryd.prog 24 #[.int .i64 s,.int .i64 w,.agg #[.int .u8 k,.int .u32 od,.int .u8 po,.slice lp ln lcp,.slice tp tn tcp,.slice wp wn wcp,.int .u8 sk,.int .u8 fr,.int .u8 to,.int .i64 q]] W fun e w'=>e=.returned (.bool (z0s s w ⟨k,od,po,L,T,M,sk,fr,to,q⟩))∧Below W.heap.size W w':=by
 have hb1:Below W.heap.size W (W.alloc (.cells #[.int .u8 k,.int .u32 od,.int .u8 po,.slice lp ln lcp,.slice tp tn tcp,.slice wp wn wcp,.int .u8 sk,.int .u8 fr,.int .u8 to,.int .i64 q] 33)):=(Below.refl _ _).alloc (Nat.le_refl _) _
 have HB:=hid hb1
 clear hb1
 by_cases y1:s<1
 · have HF:=hid (goodP_unsized (P:=⟨k,od,po,L,T,M,sk,fr,to,q⟩) (show z0o s w=false by unfold z0o;simp;omega))
   have z1:decide (s<1)=true:=decide_eq_true y1
   clear hP hok hw
   go_enter Tryd.func24,Tryd.ntmps24
   go_wp2_with fail
   go_ret
   exact⟨by rw [HF.out];rfl,HB.out⟩
 have z1:decide (s<1)=false:=decide_eq_false y1
 by_cases y2:4<s
 · have HF:=hid (goodP_unsized (P:=⟨k,od,po,L,T,M,sk,fr,to,q⟩) (show z0o s w=false by unfold z0o;simp;omega))
   have z2:decide (4<s)=true:=decide_eq_true y2
   clear hP hok hw
   go_enter Tryd.func24,Tryd.ntmps24
   go_wp2_with fail
   go_ret
   exact⟨by rw [HF.out];rfl,HB.out⟩
 have z2:decide (4<s)=false:=decide_eq_false y2
 by_cases y3:w<1
 · have HF:=hid (goodP_unsized (P:=⟨k,od,po,L,T,M,sk,fr,to,q⟩) (show z0o s w=false by unfold z0o;simp;omega))
   have z3:decide (w<1)=true:=decide_eq_true y3
   clear hP hok hw
   go_enter Tryd.func24,Tryd.ntmps24
   go_wp2_with fail
   go_ret
   exact⟨by rw [HF.out];rfl,HB.out⟩
 have z3:decide (w<1)=false:=decide_eq_false y3
 by_cases y4:4<w
 · have HF:=hid (goodP_unsized (P:=⟨k,od,po,L,T,M,sk,fr,to,q⟩) (show z0o s w=false by unfold z0o;simp;omega))
   have z4:decide (4<w)=true:=decide_eq_true y4
   clear hP hok hw
   go_enter Tryd.func24,Tryd.ntmps24
   go_wp2_with fail
   go_ret
   exact⟨by rw [HF.out];rfl,HB.out⟩
 have z4:decide (4<w)=false:=decide_eq_false y4
 have hs:z0o s w=true:=by unfold z0o;simp;omega
 by_cases k1:k=1
 · subst k1
   exact good1_p s w od po lp ln lcp tp tn tcp wp wn wcp sk fr to q L T M W hs hw hP hok h1
 by_cases k2:k=2
 · subst k2
   exact good2_p s w od po lp ln lcp tp tn tcp wp wn wcp sk fr to q L T M W hs hw hP hok h1
 by_cases k3:k=3
 · subst k3
   exact good3_p s w od po lp ln lcp tp tn tcp wp wn wcp sk fr to q L T M W hs hw hP hok h1
 by_cases k4:k=4
 · subst k4
   exact good4_p s w od po lp ln lcp tp tn tcp wp wn wcp sk fr to q L T M W hs hw hP hok h1
 by_cases k5:k=5
 · subst k5
   exact good5_p s w od po lp ln lcp tp tn tcp wp wn wcp sk fr to q L T M W hs hw hP hok h1
 by_cases k6:k=6
 · subst k6
   exact good6_p s w od po lp ln lcp tp tn tcp wp wn wcp sk fr to q L T M W hs hw hP hok h1
 have HF:=hid (goodP_kind (s:=s) (w:=w) (P:=⟨k,od,po,L,T,M,sk,fr,to,q⟩) ⟨k1,k2,k3,k4,k5,k6⟩)
 have e1:(k==1)=false:=by simpa using k1
 have e2:(k==2)=false:=by simpa using k2
 have e3:(k==3)=false:=by simpa using k3
 have e4:(k==4)=false:=by simpa using k4
 have e5:(k==5)=false:=by simpa using k5
 have e6:(k==6)=false:=by simpa using k6
 clear hP hok hw k1 k2 k3 k4 k5 k6 hs
 go_enter Tryd.func24,Tryd.ntmps24
 go_wp2_with fail
 go_ret
 exact⟨by rw [HF.out];rfl,HB.out⟩
end Go.Proofs.YtclbkfpbdidaiaaDoor
