import Derived.Test.YtclbkfpbdidaiaaGreatDoorPC99
import Derived.Test.YtclbkfpbdidaiaaGreatDoorPC24
namespace Go.Proofs.YtclbkfpbdidaiaaGreatDoor
open Go.Lib (hid)
set_option maxHeartbeats 8000000
open Go.RowKit Go.ChangeShapes Go.WideShapes
set_option linter.unusedVariables false
set_option linter.unusedSimpArgs false
set_option maxRecDepth 10000
theorem fills_long {sk to q:Int} {T:List Tk} (h:¬ T.length≤12):z2c sk to q T=false:=by
 unfold z2c
 rw [decide_eq_false h]
 simp
theorem alike_take {o:Int} {T:List Tk} {j:Nat} (hj:j≤T.length):z6k o (T.take j)=!((List.range j).all fun k=>decide ((T.getD k tk0).1≠o)):=by
 have hl:(T.take j).length=j:=by rw [List.length_take];omega
 have hg:∀ k,k<j→(T.take j).getD k tk0=T.getD k tk0:=fun k hk=>by rw [List.getD,List.getD,List.getElem?_take,if_pos hk]
 cases hc:(List.range j).all fun k=>decide ((T.getD k tk0).1≠o) with
 | true =>
  refine alike_miss fun k hk=>?_
  rw [hl] at hk
  have:=List.all_eq_true.1 hc k (List.mem_range.2 hk)
  rw [hg k hk]
  simpa using this
 | false =>
  rw [List.all_eq_false] at hc
  obtain⟨k,hk,h⟩:=hc
  have hk:=List.mem_range.1 hk
  refine alike_hit (j:=k) (by omega) ?_
  rw [hg k hk]
  simpa using h
theorem fills_end {sk to q:Int} {T:List Tk} (h:∀ j,j<T.length→z4f sk to T j=true) (hl:T.length≤12):z2c sk to q T=(okB (z1h (allT T)) && decide (z1h (allT T)≤q)):=by
 have hs:∀ x∈T,x.2.1=sk:=fun x hx=>by
  obtain⟨j,hj,rfl⟩:=z3t tk0 hx
  have:=h j hj
  rw [z9d,Bool.and_eq_true] at this
  have h1:=this.1
  unfold fiA at h1
  simp only [Bool.and_eq_true,decide_eq_true_eq] at h1
  exact h1.1.1.2
 rw [fills_true sk to q T h,z8y T sk hs,decide_eq_true hl,Bool.true_and]
theorem goodrestock_any (s w:Int) (k od po:Int) (lp:Option Addr) (ln lcp:Nat) (tp:Option Addr) (tn tcp:Nat) (wp:Option Addr) (wn wcp:Nat) (sk fr to q:Int) (L:List Ln) (T:List Tk) (M:List Ln) (W:World) (hw:Words W) (hP:PgM W lp ln lcp L tp tn tcp T wp wn wcp M) (hok:Pgok ⟨k,od,po,L,T,M,sk,fr,to,q⟩) (h1:1≤s) (h4:s≤4) (hw1:1≤w) (hw4:w≤4) (hn:ln≤400∧tn≤400∧wn≤400) :
 Calls Tryz.prog 111 #[.int .i64 s,.int .i64 w,.agg #[.int .u8 k,.int .u32 od,.int .u8 po,.slice lp ln lcp,.slice tp tn tcp,.slice wp wn wcp,.int .u8 sk,.int .u8 fr,.int .u8 to,.int .i64 q]] W fun e w'=>e=.returned (.bool (decide (sk<s) && decide (to<w) && decide (1≤q) && z2c sk to q T))∧Below W.heap.size W w':=by
 obtain⟨W2,hW2,hbx,hb2⟩:∃ W2,W.alloc (.cells #[.int .u8 k,.int .u32 od,.int .u8 po,.slice lp ln lcp,.slice tp tn tcp,.slice wp wn wcp,.int .u8 sk,.int .u8 fr,.int .u8 to,.int .i64 q] 26)=W2∧W2.heap[W.heap.size]?=some (.cells #[.int .u8 k,.int .u32 od,.int .u8 po,.slice lp ln lcp,.slice tp tn tcp,.slice wp wn wcp,.int .u8 sk,.int .u8 fr,.int .u8 to,.int .i64 q] 26 (0,0))∧Below W.heap.size W W2:=⟨_,rfl,z0c W _,(Below.refl _ _).alloc (Nat.le_refl _) _⟩
 have HW2:=hid hW2
 have HB2:=hid hb2
 have HX2:=hid hbx
 have HP2:=hid (hP.later hb2)
 have HV2:=hid (hw.later hb2)
 have HBI:Hid (Below W2.heap.size W2 W2):=hid (Below.refl _ _)
 have HLL:=hid hP.l.len
 have HLT:=hid hP.t.len
 have HLM:=hid hP.o.len
 have HOK:=hid hok
 obtain⟨hn1,hn2,hn3⟩:=hn
 have hsk:0≤sk∧sk≤255:=hok.sku
 have hfr:0≤fr∧fr≤255:=hok.frm
 have hto:0≤to∧to≤255:=hok.to
 have hpo:0≤po∧po≤255:=hok.policy
 have x6:IntKind.i64.wrap sk=sk:=IntWalk.i64_in _ (by omega)
 have x7:IntKind.i64.wrap fr=fr:=IntWalk.i64_in _ (by omega)
 have x8:IntKind.i64.wrap to=to:=IntWalk.i64_in _ (by omega)
 obtain⟨res,hg⟩:∃ res,res=(decide (sk<s) && decide (to<w) && decide (1≤q) && z2c sk to q T):=⟨_,rfl⟩
 have HG:=hid hg
 rw [← hg]
 clear hg hW2 hb2 hbx hP hok hw hsk hfr hto hpo
 obtain⟨a0,a1,a2,a3,a4,a5,a6,a7,a8,a9⟩:=z0d k od po lp ln lcp tp tn tcp wp wn wcp sk fr to q HX2.out
 go_enter Tryz.func111,Tryz.ntmps111
 by_cases t1:sk<s
 case neg =>
  have dt1:decide (s≤sk)=true:=decide_eq_true (by omega)
  have HF:Hid (res=false):=hid (by rw [HG.out];rw [decide_eq_false t1];simp)
  go_wp2_with fail
  go_ret
  rw [HW2.out]
  exact⟨by rw [HF.out];rfl,HB2.out.trans (HBI.out.mono HB2.out.size)⟩
 have dt1:decide (s≤sk)=false:=decide_eq_false (by omega)
 by_cases t2:to<w
 case neg =>
  have dt2:decide (w≤to)=true:=decide_eq_true (by omega)
  have HF:Hid (res=false):=hid (by rw [HG.out];rw [decide_eq_false t2];simp)
  go_wp2_with fail
  go_ret
  rw [HW2.out]
  exact⟨by rw [HF.out];rfl,HB2.out.trans (HBI.out.mono HB2.out.size)⟩
 have dt2:decide (w≤to)=false:=decide_eq_false (by omega)
 by_cases t3:1≤q
 case neg =>
  have dt3:decide (q<1)=true:=decide_eq_true (by omega)
  have HF:Hid (res=false):=hid (by rw [HG.out];rw [decide_eq_false t3];simp)
  go_wp2_with fail
  go_ret
  rw [HW2.out]
  exact⟨by rw [HF.out];rfl,HB2.out.trans (HBI.out.mono HB2.out.size)⟩
 have dt3:decide (q<1)=false:=decide_eq_false (by omega)
 by_cases t4:tn≤12
 case neg =>
  have d4:decide ((12:Int)<tn)=true:=decide_eq_true (by omega)
  have HF:Hid (res=false):=hid (by rw [HG.out,fills_long (by rw [HLT.out];exact t4)];simp)
  go_wp2_with fail
  go_ret
  rw [HW2.out]
  exact⟨by rw [HF.out];rfl,HB2.out⟩
 have d4:decide ((12:Int)<tn)=false:=decide_eq_false (by omega)
 have HR:Hid (res=z2c sk to q T):=hid (by rw [HG.out,decide_eq_true t1,decide_eq_true t2,decide_eq_true t3];rfl)
 have HFA:=hid fun j (hj:j<tn)=>fills_false sk to q T j (by rw [HLT.out];exact hj)
 have HT2:=hid HP2.out.t
 have hcap:=HT2.out.cap
 have HOT:=hid HOK.out.takes
 have HEN:Hid ((∀ j,j<tn→z4f sk to T j=true)→z2c sk to q T=(okB (z1h (allT T)) && decide (z1h (allT T)≤q))):=hid fun h=>fills_end (fun j hj=>h j (by rw [← HLT.out];exact hj)) (by rw [HLT.out];exact t4)
 clear HP2 HOK HG
 clear a0 a1 a2 a3 a4 a5 a6 a7 a8 a9
 obtain⟨a0,a1,a2,a3,a4,a5,a6,a7,a8,a9⟩:=z0d k od po lp ln lcp tp tn tcp wp wn wcp sk fr to q HX2.out
 go_wp2_with fail
 rw [HW2.out]
 clear a0 a1 a2 a3 a4 a5 a6 a7 a8 a9
 go_loopw [37] (fun i wr=>∃ j:Nat,j≤tn∧i=.int .i64 j∧Hid (Below W2.heap.size W2 wr)∧Hid (∀ i,i<j→z4f sk to T i=true)) (fun i _=>tn-(Go.RowKit.intOf i).toNat)
 case atStart=>exact⟨0,Nat.zero_le _,rfl,hid (Below.refl _ _),hid fun i hi=>by omega⟩
 case round =>
  obtain⟨j,hj,rfl,HB0,HE⟩:=hrel
  by_cases hlt:j<tn
  case neg =>
   obtain rfl:tn=j:=by omega
   have HF:=hid (HR.out.trans (HEN.out HE.out))
   obtain⟨a0,a1,a2,a3,a4,a5,a6,a7,a8,a9⟩:=z0d k od po lp ln lcp tp tn tcp wp wn wcp sk fr to q (z0b HX2.out HB0.out)
   go_wp2_with fail
   refine (together_any tp tn tcp T wr (HT2.out.later HB0.out) HOT.out (by omega)).mono ?_
   rintro e w3 ⟨rfl,hb3⟩
   have HB3:=hid (HB0.out.trans (hb3.mono HB0.out.size))
   clear hb3 a0 a1 a2 a3 a4 a5 a6 a7 a8 a9
   obtain⟨a0,a1,a2,a3,a4,a5,a6,a7,a8,a9⟩:=z0d k od po lp ln lcp tp tn tcp wp wn wcp sk fr to q (z0b HX2.out HB3.out)
   generalize z1h (allT T)=zz at *
   cases hb:okB zz with
   | false =>
    rw [hb] at HF
    go_wp2_with fail
    go_ret
    exact⟨by rw [HF.out];rfl,HB2.out.trans (HB3.out.mono HB2.out.size)⟩
   | true =>
    rw [hb] at HF
    have hv2:val zz=zz:=z6t _ ((z3x _).1 hb)
    rw [hv2]
    clear hv2
    go_wp2_with fail
    go_ret
    exact⟨by rw [HF.out];simp,HB2.out.trans (HB3.out.mono HB2.out.size)⟩
  have hlt':(j:Int)<tn:=by omega
  obtain⟨b,off,rfl,_,k0,k1,k2,k3⟩:=z1g (HT2.out.later HB0.out) hlt
  have HFJ:=hid fun h=>HR.out.trans (HFA.out j hlt h)
  have hat:=z9d sk to T j
  have HTK:=hid ((HT2.out.later HB0.out).take j hj)
  have HAK:=hid fun o=>alike_take (o:=o) (T:=T) (j:=j) (by rw [HLT.out];exact hj)
  obtain⟨a0,a1,a2,a3,a4,a5,a6,a7,a8,a9⟩:=z0d _ _ _ _ _ _ _ _ _ _ _ _ _ _ _ _ (z0b HX2.out HB0.out)
  generalize T.getD j tk0=x at *
  obtain⟨o,a,r,z⟩:=x
  dsimp only at k0 k1 k2 k3 hat
  have HAT:=hid hat
  have hbox:(wr.alloc (.cells #[.int .u32 o,.int .u8 a,.int .u8 r,.int .i64 z] 73)).heap[wr.heap.size]?=some (.cells #[.int .u32 o,.int .u8 a,.int .u8 r,.int .i64 z] 73 (0,0)):=z0c wr _
  have hbb:Below wr.heap.size wr (wr.alloc (.cells #[.int .u32 o,.int .u8 a,.int .u8 r,.int .i64 z] 73)):=(Below.refl _ _).alloc (Nat.le_refl _) _
  have HBX:=hid hbox
  have HBB:=hid hbb
  have HB:=hid (HB0.out.trans (hbb.mono HB0.out.size))
  clear hat hbox hbb
  obtain⟨c0,c1,c2,c3,c4,c5,c6,c7,c8,c9⟩:=z0d _ _ _ _ _ _ _ _ _ _ _ _ _ _ _ _ (z0b HX2.out HB.out)
  by_cases u1:o=0
  case pos =>
   have e1:(o==0)=true:=by simpa using u1
   have HF:=hid (HFJ.out (by rw [HAT.out,show fiA sk to (o,a,r,z)=false from by unfold fiA;simp [u1]];rfl))
   clear u1
   go_wp2_with fail
   go_ret
   exact⟨by rw [HF.out];rfl,HB2.out.trans (HB.out.mono HB2.out.size)⟩
  have e1:(o==0)=false:=by simpa using u1
  by_cases u2:a=sk
  case neg =>
   have e2:(a != sk)=true:=by simpa using u2
   have HF:=hid (HFJ.out (by rw [HAT.out,show fiA sk to (o,a,r,z)=false from by unfold fiA;simp [u2]];rfl))
   go_wp2_with fail
   go_ret
   exact⟨by rw [HF.out];rfl,HB2.out.trans (HB.out.mono HB2.out.size)⟩
  have e2:(a != sk)=false:=by simpa using u2
  have U2:=hid u2
  clear u2
  by_cases u3:r=to
  case neg =>
   have e3:(r != to)=true:=by simpa using u3
   have HF:=hid (HFJ.out (by rw [HAT.out,show fiA sk to (o,a,r,z)=false from by unfold fiA;simp [u3]];rfl))
   go_wp2_with fail
   go_ret
   exact⟨by rw [HF.out];rfl,HB2.out.trans (HB.out.mono HB2.out.size)⟩
  have e3:(r != to)=false:=by simpa using u3
  have U3:=hid u3
  clear u3
  by_cases u4:1≤z
  case neg =>
   have e4:decide (z<1)=true:=decide_eq_true (by omega)
   have HF:=hid (HFJ.out (by rw [HAT.out,show fiA sk to (o,a,r,z)=false from by unfold fiA;simp [u4]];rfl))
   go_wp2_with fail
   go_ret
   exact⟨by rw [HF.out];rfl,HB2.out.trans (HB.out.mono HB2.out.size)⟩
  have e4:decide (z<1)=false:=decide_eq_false (by omega)
  have HFI:Hid (fiA sk to (o,a,r,z)=true):=hid (by unfold fiA;rw [decide_eq_true u1,decide_eq_true U2.out,decide_eq_true U3.out,decide_eq_true u4];rfl)
  have HCL:=hid (contains_alike wr.heap.size o (some ⟨b,off,none⟩) j tcp (T.take j) (wr.alloc (.cells #[.int .u32 o,.int .u8 a,.int .u8 r,.int .i64 z] 73)) (HTK.out.later HBB.out) (z0a HBX.out rfl) (by omega))
  have HAL:=hid (HAK.out o)
  generalize z6k o (T.take j)=al at *
  go_wp2_with fail
  refine HCL.out.mono ?_
  rintro e w3 ⟨rfl,hb3⟩
  have HB3:=hid (HB.out.trans (hb3.mono HB.out.size))
  clear hb3 c0 c1 c2 c3 c4 c5 c6 c7 c8 c9 a0 a1 a2 a3 a4 a5 a6 a7 a8 a9
  cases al with
  | true =>
   have HF:=hid (HFJ.out (by
    rw [HAT.out,HFI.out,Bool.true_and]
    have:=HAL.out
    simp only [Bool.true_eq,Bool.not_eq_true'] at this
    exact this))
   go_wp2_with fail
   go_ret
   exact⟨by rw [HF.out];rfl,HB2.out.trans (HB3.out.mono HB2.out.size)⟩
  | false =>
   have HT1:Hid (z4f sk to T j=true):=hid (by
    rw [HAT.out,HFI.out,Bool.true_and]
    have:=HAL.out
    simp only [Bool.false_eq,Bool.not_eq_false'] at this
    exact this)
   go_wp2_with fail
   go_roundw
   case rel =>
    refine⟨j+1,by omega,by go_num,HB3,hid fun i hi=>?_⟩
    by_cases e:i=j
    · subst e;exact HT1.out
    · exact HE.out i (by omega)
   case measure=>simp [Go.RowKit.intOf];omega
theorem good1_p (s w:Int) (od po:Int) (lp:Option Addr) (ln lcp:Nat) (tp:Option Addr) (tn tcp:Nat) (wp:Option Addr) (wn wcp:Nat) (sk fr to q:Int) (L:List Ln) (T:List Tk) (M:List Ln) (W:World) (hs:z0m s w=true) (hw:Words W) (hP:PgM W lp ln lcp L tp tn tcp T wp wn wcp M) (hok:Pgok ⟨1,od,po,L,T,M,sk,fr,to,q⟩) (h1:ln≤400∧tn≤400∧wn≤400) :
 Calls Tryz.prog 80 #[.int .i64 s,.int .i64 w,.agg #[.int .u8 1,.int .u32 od,.int .u8 po,.slice lp ln lcp,.slice tp tn tcp,.slice wp wn wcp,.int .u8 sk,.int .u8 fr,.int .u8 to,.int .i64 q]] W fun e w'=>e=.returned (.bool (z0l s w ⟨1,od,po,L,T,M,sk,fr,to,q⟩))∧Below W.heap.size W w':=by
 have hg:z0l s w ⟨1,od,po,L,T,M,sk,fr,to,q⟩=((decide (od≠0) && decide (po≤1) && decide (1≤L.length) && z0q s L && z0s s w od T && z0q s M && z2i T M L && (decide (po=0) || decide (M.length=0))) && decide ((⟨1,od,po,L,T,M,sk,fr,to,q⟩:Pg)=⟨1,od,po,L,T,M,0,0,0,0⟩)):=by
  unfold z0l
  rw [hs,Bool.true_and,ask1,qof1]
 have hs4:1≤s∧s≤4∧1≤w∧w≤4:=by
  unfold z0m at hs
  simp only [Bool.and_eq_true,decide_eq_true_eq] at hs
  omega
 obtain⟨hs1,hs2,hs3,hs4⟩:=hs4
 have h2:ln≤1000∧tn≤1000∧wn≤1000:=⟨by omega,by omega,by omega⟩
 obtain⟨W2,hW2,hbx,hb2⟩:∃ W2,W.alloc (.cells #[.int .u8 1,.int .u32 od,.int .u8 po,.slice lp ln lcp,.slice tp tn tcp,.slice wp wn wcp,.int .u8 sk,.int .u8 fr,.int .u8 to,.int .i64 q] 26)=W2∧W2.heap[W.heap.size]?=some (.cells #[.int .u8 1,.int .u32 od,.int .u8 po,.slice lp ln lcp,.slice tp tn tcp,.slice wp wn wcp,.int .u8 sk,.int .u8 fr,.int .u8 to,.int .i64 q] 26 (0,0))∧Below W.heap.size W W2:=⟨_,rfl,z0c W _,(Below.refl _ _).alloc (Nat.le_refl _) _⟩
 have HW2:=hid hW2
 have HB2:=hid hb2
 have HX2:=hid hbx
 have hj:∀ w',Below W2.heap.size W2 w'→_:=fun w' h=>z9m 1 od po lp ln lcp tp tn tcp wp wn wcp sk fr to q 0 od po lp ln lcp tp tn tcp wp wn wcp 0 0 0 0 L T M L T M w' ((hP.later hb2).later h) (have hP:=(hP.later hb2).later h;hP) h2 h2
 have hq:∀ w',Below W2.heap.size W2 w'→_:=fun w' h=>goodplace_any s w 1 od po lp ln lcp tp tn tcp wp wn wcp sk fr to q L T M w' ((hw.later hb2).later h) ((hP.later hb2).later h) hok hs1 hs2 hs3 hs4 h1
 rw [hg]
 generalize (decide (od≠0) && decide (po≤1) && decide (1≤L.length) && z0q s L && z0s s w od T && z0q s M && z2i T M L && (decide (po=0) || decide (M.length=0)))=ex at *
 generalize decide ((⟨1,od,po,L,T,M,sk,fr,to,q⟩:Pg)=⟨1,od,po,L,T,M,0,0,0,0⟩)=dd at *
 have HJ:=hid hj
 have HQ:=hid hq
 have y1:decide (s<1)=false:=decide_eq_false (by omega)
 have y2:decide (4<s)=false:=decide_eq_false (by omega)
 have y3:decide (w<1)=false:=decide_eq_false (by omega)
 have y4:decide (4<w)=false:=decide_eq_false (by omega)
 clear hg hW2 hb2 hbx hj hq hP hok hw hs h1 h2
 obtain⟨a0,a1,a2,a3,a4,a5,a6,a7,a8,a9⟩:=z0d 1 od po lp ln lcp tp tn tcp wp wn wcp sk fr to q HX2.out
 go_enter Tryz.func80,Tryz.ntmps80
 go_wp2_with fail
 rw [HW2.out]
 refine (HJ.out W2 (Below.refl _ _)).mono ?_
 rintro e w0 ⟨rfl,hb⟩
 have HB3:=hid hb
 clear hb a0 a1 a2 a3 a4 a5 a6 a7 a8 a9
 obtain⟨a0,a1,a2,a3,a4,a5,a6,a7,a8,a9⟩:=z0d 1 od po lp ln lcp tp tn tcp wp wn wcp sk fr to q (z0b HX2.out HB3.out)
 cases dd with
 | false =>
  go_wp2_with fail
  go_ret
  exact⟨by rw [Bool.and_false];rfl,HB2.out.trans (HB3.out.mono HB2.out.size)⟩
 | true =>
  go_wp2_with fail
  refine (HQ.out w0 HB3.out).mono ?_
  rintro e w1 ⟨rfl,hb⟩
  have HB4:=hid (HB3.out.trans (hb.mono HB3.out.size))
  clear hb a0 a1 a2 a3 a4 a5 a6 a7 a8 a9
  go_wp2_with fail
  go_ret
  exact⟨by rw [Bool.and_true];rfl,HB2.out.trans (HB4.out.mono HB2.out.size)⟩
theorem good2_p (s w:Int) (od po:Int) (lp:Option Addr) (ln lcp:Nat) (tp:Option Addr) (tn tcp:Nat) (wp:Option Addr) (wn wcp:Nat) (sk fr to q:Int) (L:List Ln) (T:List Tk) (M:List Ln) (W:World) (hs:z0m s w=true) (hw:Words W) (hP:PgM W lp ln lcp L tp tn tcp T wp wn wcp M) (hok:Pgok ⟨2,od,po,L,T,M,sk,fr,to,q⟩) (h1:ln≤400∧tn≤400∧wn≤400) :
 Calls Tryz.prog 80 #[.int .i64 s,.int .i64 w,.agg #[.int .u8 2,.int .u32 od,.int .u8 po,.slice lp ln lcp,.slice tp tn tcp,.slice wp wn wcp,.int .u8 sk,.int .u8 fr,.int .u8 to,.int .i64 q]] W fun e w'=>e=.returned (.bool (z0l s w ⟨2,od,po,L,T,M,sk,fr,to,q⟩))∧Below W.heap.size W w':=by
 have hg:z0l s w ⟨2,od,po,L,T,M,sk,fr,to,q⟩=((decide (od≠0) && z0s s w od T && z0q s M && decide (1≤T.length+M.length)) && decide ((⟨2,od,po,L,T,M,sk,fr,to,q⟩:Pg)=⟨2,od,0,[],T,M,0,0,0,0⟩)):=by
  unfold z0l
  rw [hs,Bool.true_and,ask2,qof2]
 have hs4:1≤s∧s≤4∧1≤w∧w≤4:=by
  unfold z0m at hs
  simp only [Bool.and_eq_true,decide_eq_true_eq] at hs
  omega
 obtain⟨hs1,hs2,hs3,hs4⟩:=hs4
 have h2:ln≤1000∧tn≤1000∧wn≤1000:=⟨by omega,by omega,by omega⟩
 obtain⟨W2,hW2,hbx,hb2⟩:∃ W2,W.alloc (.cells #[.int .u8 2,.int .u32 od,.int .u8 po,.slice lp ln lcp,.slice tp tn tcp,.slice wp wn wcp,.int .u8 sk,.int .u8 fr,.int .u8 to,.int .i64 q] 26)=W2∧W2.heap[W.heap.size]?=some (.cells #[.int .u8 2,.int .u32 od,.int .u8 po,.slice lp ln lcp,.slice tp tn tcp,.slice wp wn wcp,.int .u8 sk,.int .u8 fr,.int .u8 to,.int .i64 q] 26 (0,0))∧Below W.heap.size W W2:=⟨_,rfl,z0c W _,(Below.refl _ _).alloc (Nat.le_refl _) _⟩
 have HW2:=hid hW2
 have HB2:=hid hb2
 have HX2:=hid hbx
 have hj:∀ w',Below W2.heap.size W2 w'→_:=fun w' h=>z9m 2 od po lp ln lcp tp tn tcp wp wn wcp sk fr to q 0 od 0 none 0 0 tp tn tcp wp wn wcp 0 0 0 0 L T M [] T M w' ((hP.later hb2).later h) (have hP:=(hP.later hb2).later h;⟨SlG.empty _,hP.t,hP.o⟩) h2 ⟨by omega,h2.2.1,h2.2.2⟩
 have hq:∀ w',Below W2.heap.size W2 w'→_:=fun w' h=>goodcancel_any s w 2 od po lp ln lcp tp tn tcp wp wn wcp sk fr to q L T M w' ((hw.later hb2).later h) ((hP.later hb2).later h) hok hs1 hs2 hs3 hs4 h1
 rw [hg]
 generalize (decide (od≠0) && z0s s w od T && z0q s M && decide (1≤T.length+M.length))=ex at *
 generalize decide ((⟨2,od,po,L,T,M,sk,fr,to,q⟩:Pg)=⟨2,od,0,[],T,M,0,0,0,0⟩)=dd at *
 have HJ:=hid hj
 have HQ:=hid hq
 have y1:decide (s<1)=false:=decide_eq_false (by omega)
 have y2:decide (4<s)=false:=decide_eq_false (by omega)
 have y3:decide (w<1)=false:=decide_eq_false (by omega)
 have y4:decide (4<w)=false:=decide_eq_false (by omega)
 clear hg hW2 hb2 hbx hj hq hP hok hw hs h1 h2
 obtain⟨a0,a1,a2,a3,a4,a5,a6,a7,a8,a9⟩:=z0d 2 od po lp ln lcp tp tn tcp wp wn wcp sk fr to q HX2.out
 go_enter Tryz.func80,Tryz.ntmps80
 go_wp2_with fail
 rw [HW2.out]
 refine (HJ.out W2 (Below.refl _ _)).mono ?_
 rintro e w0 ⟨rfl,hb⟩
 have HB3:=hid hb
 clear hb a0 a1 a2 a3 a4 a5 a6 a7 a8 a9
 obtain⟨a0,a1,a2,a3,a4,a5,a6,a7,a8,a9⟩:=z0d 2 od po lp ln lcp tp tn tcp wp wn wcp sk fr to q (z0b HX2.out HB3.out)
 cases dd with
 | false =>
  go_wp2_with fail
  go_ret
  exact⟨by rw [Bool.and_false];rfl,HB2.out.trans (HB3.out.mono HB2.out.size)⟩
 | true =>
  go_wp2_with fail
  refine (HQ.out w0 HB3.out).mono ?_
  rintro e w1 ⟨rfl,hb⟩
  have HB4:=hid (HB3.out.trans (hb.mono HB3.out.size))
  clear hb a0 a1 a2 a3 a4 a5 a6 a7 a8 a9
  go_wp2_with fail
  go_ret
  exact⟨by rw [Bool.and_true];rfl,HB2.out.trans (HB4.out.mono HB2.out.size)⟩
theorem good3_p (s w:Int) (od po:Int) (lp:Option Addr) (ln lcp:Nat) (tp:Option Addr) (tn tcp:Nat) (wp:Option Addr) (wn wcp:Nat) (sk fr to q:Int) (L:List Ln) (T:List Tk) (M:List Ln) (W:World) (hs:z0m s w=true) (hw:Words W) (hP:PgM W lp ln lcp L tp tn tcp T wp wn wcp M) (hok:Pgok ⟨3,od,po,L,T,M,sk,fr,to,q⟩) (h1:ln≤400∧tn≤400∧wn≤400) :
 Calls Tryz.prog 80 #[.int .i64 s,.int .i64 w,.agg #[.int .u8 3,.int .u32 od,.int .u8 po,.slice lp ln lcp,.slice tp tn tcp,.slice wp wn wcp,.int .u8 sk,.int .u8 fr,.int .u8 to,.int .i64 q]] W fun e w'=>e=.returned (.bool (z0l s w ⟨3,od,po,L,T,M,sk,fr,to,q⟩))∧Below W.heap.size W w':=by
 have hg:z0l s w ⟨3,od,po,L,T,M,sk,fr,to,q⟩=((decide (od≠0) && z0s s w od T && decide (1≤T.length)) && decide ((⟨3,od,po,L,T,M,sk,fr,to,q⟩:Pg)=⟨3,od,0,[],T,[],0,0,0,0⟩)):=by
  unfold z0l
  rw [hs,Bool.true_and,ask3,qof3]
 have hs4:1≤s∧s≤4∧1≤w∧w≤4:=by
  unfold z0m at hs
  simp only [Bool.and_eq_true,decide_eq_true_eq] at hs
  omega
 obtain⟨hs1,hs2,hs3,hs4⟩:=hs4
 have h2:ln≤1000∧tn≤1000∧wn≤1000:=⟨by omega,by omega,by omega⟩
 obtain⟨W2,hW2,hbx,hb2⟩:∃ W2,W.alloc (.cells #[.int .u8 3,.int .u32 od,.int .u8 po,.slice lp ln lcp,.slice tp tn tcp,.slice wp wn wcp,.int .u8 sk,.int .u8 fr,.int .u8 to,.int .i64 q] 26)=W2∧W2.heap[W.heap.size]?=some (.cells #[.int .u8 3,.int .u32 od,.int .u8 po,.slice lp ln lcp,.slice tp tn tcp,.slice wp wn wcp,.int .u8 sk,.int .u8 fr,.int .u8 to,.int .i64 q] 26 (0,0))∧Below W.heap.size W W2:=⟨_,rfl,z0c W _,(Below.refl _ _).alloc (Nat.le_refl _) _⟩
 have HW2:=hid hW2
 have HB2:=hid hb2
 have HX2:=hid hbx
 have hj:∀ w',Below W2.heap.size W2 w'→_:=fun w' h=>z9m 3 od po lp ln lcp tp tn tcp wp wn wcp sk fr to q 0 od 0 none 0 0 tp tn tcp none 0 0 0 0 0 0 L T M [] T [] w' ((hP.later hb2).later h) (have hP:=(hP.later hb2).later h;⟨SlG.empty _,hP.t,SlG.empty _⟩) h2 ⟨by omega,h2.2.1,by omega⟩
 have hq:∀ w',Below W2.heap.size W2 w'→_:=fun w' h=>goodmove_any s w 3 od po lp ln lcp tp tn tcp wp wn wcp sk fr to q L T M w' ((hw.later hb2).later h) ((hP.later hb2).later h) hok hs1 hs2 hs3 hs4 h1
 rw [hg]
 generalize (decide (od≠0) && z0s s w od T && decide (1≤T.length))=ex at *
 generalize decide ((⟨3,od,po,L,T,M,sk,fr,to,q⟩:Pg)=⟨3,od,0,[],T,[],0,0,0,0⟩)=dd at *
 have HJ:=hid hj
 have HQ:=hid hq
 have y1:decide (s<1)=false:=decide_eq_false (by omega)
 have y2:decide (4<s)=false:=decide_eq_false (by omega)
 have y3:decide (w<1)=false:=decide_eq_false (by omega)
 have y4:decide (4<w)=false:=decide_eq_false (by omega)
 clear hg hW2 hb2 hbx hj hq hP hok hw hs h1 h2
 obtain⟨a0,a1,a2,a3,a4,a5,a6,a7,a8,a9⟩:=z0d 3 od po lp ln lcp tp tn tcp wp wn wcp sk fr to q HX2.out
 go_enter Tryz.func80,Tryz.ntmps80
 go_wp2_with fail
 rw [HW2.out]
 refine (HJ.out W2 (Below.refl _ _)).mono ?_
 rintro e w0 ⟨rfl,hb⟩
 have HB3:=hid hb
 clear hb a0 a1 a2 a3 a4 a5 a6 a7 a8 a9
 obtain⟨a0,a1,a2,a3,a4,a5,a6,a7,a8,a9⟩:=z0d 3 od po lp ln lcp tp tn tcp wp wn wcp sk fr to q (z0b HX2.out HB3.out)
 cases dd with
 | false =>
  go_wp2_with fail
  go_ret
  exact⟨by rw [Bool.and_false];rfl,HB2.out.trans (HB3.out.mono HB2.out.size)⟩
 | true =>
  go_wp2_with fail
  refine (HQ.out w0 HB3.out).mono ?_
  rintro e w1 ⟨rfl,hb⟩
  have HB4:=hid (HB3.out.trans (hb.mono HB3.out.size))
  clear hb a0 a1 a2 a3 a4 a5 a6 a7 a8 a9
  go_wp2_with fail
  go_ret
  exact⟨by rw [Bool.and_true];rfl,HB2.out.trans (HB4.out.mono HB2.out.size)⟩
theorem good4_p (s w:Int) (od po:Int) (lp:Option Addr) (ln lcp:Nat) (tp:Option Addr) (tn tcp:Nat) (wp:Option Addr) (wn wcp:Nat) (sk fr to q:Int) (L:List Ln) (T:List Tk) (M:List Ln) (W:World) (hs:z0m s w=true) (hw:Words W) (hP:PgM W lp ln lcp L tp tn tcp T wp wn wcp M) (hok:Pgok ⟨4,od,po,L,T,M,sk,fr,to,q⟩) (h1:ln≤400∧tn≤400∧wn≤400) :
 Calls Tryz.prog 80 #[.int .i64 s,.int .i64 w,.agg #[.int .u8 4,.int .u32 od,.int .u8 po,.slice lp ln lcp,.slice tp tn tcp,.slice wp wn wcp,.int .u8 sk,.int .u8 fr,.int .u8 to,.int .i64 q]] W fun e w'=>e=.returned (.bool (z0l s w ⟨4,od,po,L,T,M,sk,fr,to,q⟩))∧Below W.heap.size W w':=by
 have hg:z0l s w ⟨4,od,po,L,T,M,sk,fr,to,q⟩=((decide (od≠0) && z0s s w od T && decide (1≤T.length)) && decide ((⟨4,od,po,L,T,M,sk,fr,to,q⟩:Pg)=⟨4,od,0,[],T,[],0,0,0,0⟩)):=by
  unfold z0l
  rw [hs,Bool.true_and,ask4,qof4]
 have hs4:1≤s∧s≤4∧1≤w∧w≤4:=by
  unfold z0m at hs
  simp only [Bool.and_eq_true,decide_eq_true_eq] at hs
  omega
 obtain⟨hs1,hs2,hs3,hs4⟩:=hs4
 have h2:ln≤1000∧tn≤1000∧wn≤1000:=⟨by omega,by omega,by omega⟩
 obtain⟨W2,hW2,hbx,hb2⟩:∃ W2,W.alloc (.cells #[.int .u8 4,.int .u32 od,.int .u8 po,.slice lp ln lcp,.slice tp tn tcp,.slice wp wn wcp,.int .u8 sk,.int .u8 fr,.int .u8 to,.int .i64 q] 26)=W2∧W2.heap[W.heap.size]?=some (.cells #[.int .u8 4,.int .u32 od,.int .u8 po,.slice lp ln lcp,.slice tp tn tcp,.slice wp wn wcp,.int .u8 sk,.int .u8 fr,.int .u8 to,.int .i64 q] 26 (0,0))∧Below W.heap.size W W2:=⟨_,rfl,z0c W _,(Below.refl _ _).alloc (Nat.le_refl _) _⟩
 have HW2:=hid hW2
 have HB2:=hid hb2
 have HX2:=hid hbx
 have hj:∀ w',Below W2.heap.size W2 w'→_:=fun w' h=>z9m 4 od po lp ln lcp tp tn tcp wp wn wcp sk fr to q 0 od 0 none 0 0 tp tn tcp none 0 0 0 0 0 0 L T M [] T [] w' ((hP.later hb2).later h) (have hP:=(hP.later hb2).later h;⟨SlG.empty _,hP.t,SlG.empty _⟩) h2 ⟨by omega,h2.2.1,by omega⟩
 have hq:∀ w',Below W2.heap.size W2 w'→_:=fun w' h=>goodmove_any s w 4 od po lp ln lcp tp tn tcp wp wn wcp sk fr to q L T M w' ((hw.later hb2).later h) ((hP.later hb2).later h) hok hs1 hs2 hs3 hs4 h1
 rw [hg]
 generalize (decide (od≠0) && z0s s w od T && decide (1≤T.length))=ex at *
 generalize decide ((⟨4,od,po,L,T,M,sk,fr,to,q⟩:Pg)=⟨4,od,0,[],T,[],0,0,0,0⟩)=dd at *
 have HJ:=hid hj
 have HQ:=hid hq
 have y1:decide (s<1)=false:=decide_eq_false (by omega)
 have y2:decide (4<s)=false:=decide_eq_false (by omega)
 have y3:decide (w<1)=false:=decide_eq_false (by omega)
 have y4:decide (4<w)=false:=decide_eq_false (by omega)
 clear hg hW2 hb2 hbx hj hq hP hok hw hs h1 h2
 obtain⟨a0,a1,a2,a3,a4,a5,a6,a7,a8,a9⟩:=z0d 4 od po lp ln lcp tp tn tcp wp wn wcp sk fr to q HX2.out
 go_enter Tryz.func80,Tryz.ntmps80
 go_wp2_with fail
 rw [HW2.out]
 refine (HJ.out W2 (Below.refl _ _)).mono ?_
 rintro e w0 ⟨rfl,hb⟩
 have HB3:=hid hb
 clear hb a0 a1 a2 a3 a4 a5 a6 a7 a8 a9
 obtain⟨a0,a1,a2,a3,a4,a5,a6,a7,a8,a9⟩:=z0d 4 od po lp ln lcp tp tn tcp wp wn wcp sk fr to q (z0b HX2.out HB3.out)
 cases dd with
 | false =>
  go_wp2_with fail
  go_ret
  exact⟨by rw [Bool.and_false];rfl,HB2.out.trans (HB3.out.mono HB2.out.size)⟩
 | true =>
  go_wp2_with fail
  refine (HQ.out w0 HB3.out).mono ?_
  rintro e w1 ⟨rfl,hb⟩
  have HB4:=hid (HB3.out.trans (hb.mono HB3.out.size))
  clear hb a0 a1 a2 a3 a4 a5 a6 a7 a8 a9
  go_wp2_with fail
  go_ret
  exact⟨by rw [Bool.and_true];rfl,HB2.out.trans (HB4.out.mono HB2.out.size)⟩
theorem good5_p (s w:Int) (od po:Int) (lp:Option Addr) (ln lcp:Nat) (tp:Option Addr) (tn tcp:Nat) (wp:Option Addr) (wn wcp:Nat) (sk fr to q:Int) (L:List Ln) (T:List Tk) (M:List Ln) (W:World) (hs:z0m s w=true) (hw:Words W) (hP:PgM W lp ln lcp L tp tn tcp T wp wn wcp M) (hok:Pgok ⟨5,od,po,L,T,M,sk,fr,to,q⟩) (h1:ln≤400∧tn≤400∧wn≤400) :
 Calls Tryz.prog 80 #[.int .i64 s,.int .i64 w,.agg #[.int .u8 5,.int .u32 od,.int .u8 po,.slice lp ln lcp,.slice tp tn tcp,.slice wp wn wcp,.int .u8 sk,.int .u8 fr,.int .u8 to,.int .i64 q]] W fun e w'=>e=.returned (.bool (z0l s w ⟨5,od,po,L,T,M,sk,fr,to,q⟩))∧Below W.heap.size W w':=by
 have hg:z0l s w ⟨5,od,po,L,T,M,sk,fr,to,q⟩=((decide (sk<s) && decide (to<w) && decide (1≤q) && z2c sk to q T) && decide ((⟨5,od,po,L,T,M,sk,fr,to,q⟩:Pg)=⟨5,0,0,[],T,[],sk,0,to,q⟩)):=by
  unfold z0l
  rw [hs,Bool.true_and,ask5,qof5]
 have hs4:1≤s∧s≤4∧1≤w∧w≤4:=by
  unfold z0m at hs
  simp only [Bool.and_eq_true,decide_eq_true_eq] at hs
  omega
 obtain⟨hs1,hs2,hs3,hs4⟩:=hs4
 have h2:ln≤1000∧tn≤1000∧wn≤1000:=⟨by omega,by omega,by omega⟩
 obtain⟨W2,hW2,hbx,hb2⟩:∃ W2,W.alloc (.cells #[.int .u8 5,.int .u32 od,.int .u8 po,.slice lp ln lcp,.slice tp tn tcp,.slice wp wn wcp,.int .u8 sk,.int .u8 fr,.int .u8 to,.int .i64 q] 26)=W2∧W2.heap[W.heap.size]?=some (.cells #[.int .u8 5,.int .u32 od,.int .u8 po,.slice lp ln lcp,.slice tp tn tcp,.slice wp wn wcp,.int .u8 sk,.int .u8 fr,.int .u8 to,.int .i64 q] 26 (0,0))∧Below W.heap.size W W2:=⟨_,rfl,z0c W _,(Below.refl _ _).alloc (Nat.le_refl _) _⟩
 have HW2:=hid hW2
 have HB2:=hid hb2
 have HX2:=hid hbx
 have hj:∀ w',Below W2.heap.size W2 w'→_:=fun w' h=>z9m 5 od po lp ln lcp tp tn tcp wp wn wcp sk fr to q 0 0 0 none 0 0 tp tn tcp none 0 0 sk 0 to q L T M [] T [] w' ((hP.later hb2).later h) (have hP:=(hP.later hb2).later h;⟨SlG.empty _,hP.t,SlG.empty _⟩) h2 ⟨by omega,h2.2.1,by omega⟩
 have hq:∀ w',Below W2.heap.size W2 w'→_:=fun w' h=>goodrestock_any s w 5 od po lp ln lcp tp tn tcp wp wn wcp sk fr to q L T M w' ((hw.later hb2).later h) ((hP.later hb2).later h) hok hs1 hs2 hs3 hs4 h1
 rw [hg]
 generalize (decide (sk<s) && decide (to<w) && decide (1≤q) && z2c sk to q T)=ex at *
 generalize decide ((⟨5,od,po,L,T,M,sk,fr,to,q⟩:Pg)=⟨5,0,0,[],T,[],sk,0,to,q⟩)=dd at *
 have HJ:=hid hj
 have HQ:=hid hq
 have y1:decide (s<1)=false:=decide_eq_false (by omega)
 have y2:decide (4<s)=false:=decide_eq_false (by omega)
 have y3:decide (w<1)=false:=decide_eq_false (by omega)
 have y4:decide (4<w)=false:=decide_eq_false (by omega)
 clear hg hW2 hb2 hbx hj hq hP hok hw hs h1 h2
 obtain⟨a0,a1,a2,a3,a4,a5,a6,a7,a8,a9⟩:=z0d 5 od po lp ln lcp tp tn tcp wp wn wcp sk fr to q HX2.out
 go_enter Tryz.func80,Tryz.ntmps80
 go_wp2_with fail
 rw [HW2.out]
 refine (HJ.out W2 (Below.refl _ _)).mono ?_
 rintro e w0 ⟨rfl,hb⟩
 have HB3:=hid hb
 clear hb a0 a1 a2 a3 a4 a5 a6 a7 a8 a9
 obtain⟨a0,a1,a2,a3,a4,a5,a6,a7,a8,a9⟩:=z0d 5 od po lp ln lcp tp tn tcp wp wn wcp sk fr to q (z0b HX2.out HB3.out)
 cases dd with
 | false =>
  go_wp2_with fail
  go_ret
  exact⟨by rw [Bool.and_false];rfl,HB2.out.trans (HB3.out.mono HB2.out.size)⟩
 | true =>
  go_wp2_with fail
  refine (HQ.out w0 HB3.out).mono ?_
  rintro e w1 ⟨rfl,hb⟩
  have HB4:=hid (HB3.out.trans (hb.mono HB3.out.size))
  clear hb a0 a1 a2 a3 a4 a5 a6 a7 a8 a9
  go_wp2_with fail
  go_ret
  exact⟨by rw [Bool.and_true];rfl,HB2.out.trans (HB4.out.mono HB2.out.size)⟩
theorem good6_p (s w:Int) (od po:Int) (lp:Option Addr) (ln lcp:Nat) (tp:Option Addr) (tn tcp:Nat) (wp:Option Addr) (wn wcp:Nat) (sk fr to q:Int) (L:List Ln) (T:List Tk) (M:List Ln) (W:World) (hs:z0m s w=true) (hw:Words W) (hP:PgM W lp ln lcp L tp tn tcp T wp wn wcp M) (hok:Pgok ⟨6,od,po,L,T,M,sk,fr,to,q⟩) (h1:ln≤400∧tn≤400∧wn≤400) :
 Calls Tryz.prog 80 #[.int .i64 s,.int .i64 w,.agg #[.int .u8 6,.int .u32 od,.int .u8 po,.slice lp ln lcp,.slice tp tn tcp,.slice wp wn wcp,.int .u8 sk,.int .u8 fr,.int .u8 to,.int .i64 q]] W fun e w'=>e=.returned (.bool (z0l s w ⟨6,od,po,L,T,M,sk,fr,to,q⟩))∧Below W.heap.size W w':=by
 have hg:z0l s w ⟨6,od,po,L,T,M,sk,fr,to,q⟩=((decide (sk<s) && decide (fr<w) && decide (to<w) && decide (fr≠to) && decide (1≤q)) && decide ((⟨6,od,po,L,T,M,sk,fr,to,q⟩:Pg)=⟨6,0,0,[],[],[],sk,fr,to,q⟩)):=by
  unfold z0l
  rw [hs,Bool.true_and,ask6,qof6]
 have hs4:1≤s∧s≤4∧1≤w∧w≤4:=by
  unfold z0m at hs
  simp only [Bool.and_eq_true,decide_eq_true_eq] at hs
  omega
 obtain⟨hs1,hs2,hs3,hs4⟩:=hs4
 have h2:ln≤1000∧tn≤1000∧wn≤1000:=⟨by omega,by omega,by omega⟩
 obtain⟨W2,hW2,hbx,hb2⟩:∃ W2,W.alloc (.cells #[.int .u8 6,.int .u32 od,.int .u8 po,.slice lp ln lcp,.slice tp tn tcp,.slice wp wn wcp,.int .u8 sk,.int .u8 fr,.int .u8 to,.int .i64 q] 26)=W2∧W2.heap[W.heap.size]?=some (.cells #[.int .u8 6,.int .u32 od,.int .u8 po,.slice lp ln lcp,.slice tp tn tcp,.slice wp wn wcp,.int .u8 sk,.int .u8 fr,.int .u8 to,.int .i64 q] 26 (0,0))∧Below W.heap.size W W2:=⟨_,rfl,z0c W _,(Below.refl _ _).alloc (Nat.le_refl _) _⟩
 have HW2:=hid hW2
 have HB2:=hid hb2
 have HX2:=hid hbx
 have hj:∀ w',Below W2.heap.size W2 w'→_:=fun w' h=>z9m 6 od po lp ln lcp tp tn tcp wp wn wcp sk fr to q 0 0 0 none 0 0 none 0 0 none 0 0 sk fr to q L T M [] [] [] w' ((hP.later hb2).later h) (have hP:=(hP.later hb2).later h;⟨SlG.empty _,SlG.empty _,SlG.empty _⟩) h2 ⟨by omega,by omega,by omega⟩
 have hq:∀ w',Below W2.heap.size W2 w'→_:=fun w' h=>goodtransfer_any s w 6 od po lp ln lcp tp tn tcp wp wn wcp sk fr to q L T M w' ((hw.later hb2).later h) ((hP.later hb2).later h) hok hs1 hs2 hs3 hs4 h1
 rw [hg]
 generalize (decide (sk<s) && decide (fr<w) && decide (to<w) && decide (fr≠to) && decide (1≤q))=ex at *
 generalize decide ((⟨6,od,po,L,T,M,sk,fr,to,q⟩:Pg)=⟨6,0,0,[],[],[],sk,fr,to,q⟩)=dd at *
 have HJ:=hid hj
 have HQ:=hid hq
 have y1:decide (s<1)=false:=decide_eq_false (by omega)
 have y2:decide (4<s)=false:=decide_eq_false (by omega)
 have y3:decide (w<1)=false:=decide_eq_false (by omega)
 have y4:decide (4<w)=false:=decide_eq_false (by omega)
 clear hg hW2 hb2 hbx hj hq hP hok hw hs h1 h2
 obtain⟨a0,a1,a2,a3,a4,a5,a6,a7,a8,a9⟩:=z0d 6 od po lp ln lcp tp tn tcp wp wn wcp sk fr to q HX2.out
 go_enter Tryz.func80,Tryz.ntmps80
 go_wp2_with fail
 rw [HW2.out]
 refine (HJ.out W2 (Below.refl _ _)).mono ?_
 rintro e w0 ⟨rfl,hb⟩
 have HB3:=hid hb
 clear hb a0 a1 a2 a3 a4 a5 a6 a7 a8 a9
 obtain⟨a0,a1,a2,a3,a4,a5,a6,a7,a8,a9⟩:=z0d 6 od po lp ln lcp tp tn tcp wp wn wcp sk fr to q (z0b HX2.out HB3.out)
 cases dd with
 | false =>
  go_wp2_with fail
  go_ret
  exact⟨by rw [Bool.and_false];rfl,HB2.out.trans (HB3.out.mono HB2.out.size)⟩
 | true =>
  go_wp2_with fail
  refine (HQ.out w0 HB3.out).mono ?_
  rintro e w1 ⟨rfl,hb⟩
  have HB4:=hid (HB3.out.trans (hb.mono HB3.out.size))
  clear hb a0 a1 a2 a3 a4 a5 a6 a7 a8 a9
  go_wp2_with fail
  go_ret
  exact⟨by rw [Bool.and_true];rfl,HB2.out.trans (HB4.out.mono HB2.out.size)⟩
theorem z5v (s w:Int) (k od po:Int) (lp:Option Addr) (ln lcp:Nat) (tp:Option Addr) (tn tcp:Nat) (wp:Option Addr) (wn wcp:Nat) (sk fr to q:Int) (L:List Ln) (T:List Tk) (M:List Ln) (W:World) (hw:Words W) (hP:PgM W lp ln lcp L tp tn tcp T wp wn wcp M) (hok:Pgok ⟨k,od,po,L,T,M,sk,fr,to,q⟩) (h1:ln≤400∧tn≤400∧wn≤400) :
 Calls Tryz.prog 80 #[.int .i64 s,.int .i64 w,.agg #[.int .u8 k,.int .u32 od,.int .u8 po,.slice lp ln lcp,.slice tp tn tcp,.slice wp wn wcp,.int .u8 sk,.int .u8 fr,.int .u8 to,.int .i64 q]] W fun e w'=>e=.returned (.bool (z0l s w ⟨k,od,po,L,T,M,sk,fr,to,q⟩))∧Below W.heap.size W w':=by
 have hb1:Below W.heap.size W (W.alloc (.cells #[.int .u8 k,.int .u32 od,.int .u8 po,.slice lp ln lcp,.slice tp tn tcp,.slice wp wn wcp,.int .u8 sk,.int .u8 fr,.int .u8 to,.int .i64 q] 26)):=(Below.refl _ _).alloc (Nat.le_refl _) _
 have HB:=hid hb1
 clear hb1
 by_cases y1:s<1
 · have HF:=hid (z1s (P:=⟨k,od,po,L,T,M,sk,fr,to,q⟩) (show z0m s w=false by unfold z0m;simp;omega))
   have z1:decide (s<1)=true:=decide_eq_true y1
   clear hP hok hw
   go_enter Tryz.func80,Tryz.ntmps80
   go_wp2_with fail
   go_ret
   exact⟨by rw [HF.out];rfl,HB.out⟩
 have z1:decide (s<1)=false:=decide_eq_false y1
 by_cases y2:4<s
 · have HF:=hid (z1s (P:=⟨k,od,po,L,T,M,sk,fr,to,q⟩) (show z0m s w=false by unfold z0m;simp;omega))
   have z2:decide (4<s)=true:=decide_eq_true y2
   clear hP hok hw
   go_enter Tryz.func80,Tryz.ntmps80
   go_wp2_with fail
   go_ret
   exact⟨by rw [HF.out];rfl,HB.out⟩
 have z2:decide (4<s)=false:=decide_eq_false y2
 by_cases y3:w<1
 · have HF:=hid (z1s (P:=⟨k,od,po,L,T,M,sk,fr,to,q⟩) (show z0m s w=false by unfold z0m;simp;omega))
   have z3:decide (w<1)=true:=decide_eq_true y3
   clear hP hok hw
   go_enter Tryz.func80,Tryz.ntmps80
   go_wp2_with fail
   go_ret
   exact⟨by rw [HF.out];rfl,HB.out⟩
 have z3:decide (w<1)=false:=decide_eq_false y3
 by_cases y4:4<w
 · have HF:=hid (z1s (P:=⟨k,od,po,L,T,M,sk,fr,to,q⟩) (show z0m s w=false by unfold z0m;simp;omega))
   have z4:decide (4<w)=true:=decide_eq_true y4
   clear hP hok hw
   go_enter Tryz.func80,Tryz.ntmps80
   go_wp2_with fail
   go_ret
   exact⟨by rw [HF.out];rfl,HB.out⟩
 have z4:decide (4<w)=false:=decide_eq_false y4
 have hs:z0m s w=true:=by unfold z0m;simp;omega
 by_cases k1:k=1
 · subst k1
   exact good1_p s w od po lp ln lcp tp tn tcp wp wn wcp sk fr to q L T M W hs hw hP hok h1
 by_cases k2:k=2
 · subst k2
   exact good2_p s w od po lp ln lcp tp tn tcp wp wn wcp sk fr to q L T M W hs hw hP hok h1
 by_cases k3:k=3
 · subst k3
   exact good3_p s w od po lp ln lcp tp tn tcp wp wn wcp sk fr to q L T M W hs hw hP hok h1
 by_cases k4:k=4
 · subst k4
   exact good4_p s w od po lp ln lcp tp tn tcp wp wn wcp sk fr to q L T M W hs hw hP hok h1
 by_cases k5:k=5
 · subst k5
   exact good5_p s w od po lp ln lcp tp tn tcp wp wn wcp sk fr to q L T M W hs hw hP hok h1
 by_cases k6:k=6
 · subst k6
   exact good6_p s w od po lp ln lcp tp tn tcp wp wn wcp sk fr to q L T M W hs hw hP hok h1
 have HF:=hid (z6e (s:=s) (w:=w) (P:=⟨k,od,po,L,T,M,sk,fr,to,q⟩) ⟨k1,k2,k3,k4,k5,k6⟩)
 have e1:(k==1)=false:=by simpa using k1
 have e2:(k==2)=false:=by simpa using k2
 have e3:(k==3)=false:=by simpa using k3
 have e4:(k==4)=false:=by simpa using k4
 have e5:(k==5)=false:=by simpa using k5
 have e6:(k==6)=false:=by simpa using k6
 clear hP hok hw k1 k2 k3 k4 k5 k6 hs
 go_enter Tryz.func80,Tryz.ntmps80
 go_wp2_with fail
 go_ret
 exact⟨by rw [HF.out];rfl,HB.out⟩
theorem FillS.lit {W w:World} {cs:Array Value} {H:List Hs} {S:List Stp} {m:Nat} (hb:Below W.heap.size W w) (hc:cs.toList=z0n sc H) (hm:H.length=m) (hbig:m≤1000) (hT:TellsAll w H S):FillS W (w.alloc (.cells cs 52)) (.slice (some ⟨w.heap.size,0,none⟩) m m) H S m:=by
 have hba:Below w.heap.size w (w.alloc (.cells cs 52)):=(Below.refl _ _).alloc (Nat.le_refl _) _
 have hs:cs.size=m*3:=by rw [← Array.length_toList,hc,z1m z8u,hm]
 have ho:=World.ownsRow_lit (e:=52) (base:=W.heap.size) (size:=3) w cs m hb.size (by unfold maxLen;omega) hs
 rw [hc] at ho
 refine⟨by rw [hm];exact ho,hb.trans (hba.mono hb.size),Nat.le_of_eq hm,hT.later hba,fun h hh h0 ad he hx=>?_⟩
 have:=z6u hT h hh h0 ad he
 have hx':w.heap.size=ad.block:=Option.some.inj hx
 omega
theorem owing_none (t:Int) (p:Option Addr) (c:Nat) (W:World):Calls Tryz.prog 82 #[.int .u8 t,.slice p (0:Nat) c] W fun e w'=>e=.returned (.slice none 0 0)∧Below W.heap.size W w':=by
 have d0:(((0:Nat):Int)==0)=true:=rfl
 go_enter Tryz.func82,Tryz.ntmps82
 go_wp2_with fail
 go_ret
 exact⟨rfl,Below.refl _ _⟩
theorem owing_some (t:Int) (p:Option Addr) (n c:Nat) (M:List Ln) (W:World) (hM:LL W p n c M) (h1:1≤n) (hn:n≤1000):Calls Tryz.prog 82 #[.int .u8 t,.slice p n c] W fun e w'=>∃ B p' c',e=.returned (.slice (some ⟨B,0,none⟩) 1 1)∧w'.heap[B]?=some (.cells #[.int .u8 t,.int .u8 0,.slice p' n c'] 52 (0,0))∧LL w' p' n c' M∧Below W.heap.size W w'∧∀ ad,p'=some ad→W.heap.size≤ad.block:=by
 have d0:((n:Int)==0)=false:=by simp;omega
 have hcl:=q0k p n c M W hM (by omega)
 have HLN:=hid hM.len
 have hcap:=hM.cap
 clear hM h1
 go_enter Tryz.func82,Tryz.ntmps82
 go_wp2_with fail
 refine hcl.mono ?_
 rintro e w2 ⟨v,rfl,hf⟩
 obtain⟨p',c',hv,hl,hb,ha⟩:=hf.gives (d:=l0) z9a (by decide)
 cases hv
 rw [HLN.out] at hl ⊢
 have hba:Below w2.heap.size w2 (w2.alloc (.cells #[.int .u8 t,.int .u8 0,.slice p' n c'] 52)):=(Below.refl _ _).alloc (Nat.le_refl _) _
 have HL:=hid (hl.later hba)
 have HB:=hid (hb.trans (hba.mono hb.size))
 have HX:=hid (z0c w2 (.cells #[.int .u8 t,.int .u8 0,.slice p' n c'] 52))
 have HA:=hid ha
 clear hcl hf hl hb ha hba
 go_wp2_with fail
 go_ret
 exact⟨_,p',c',rfl,HX.out,HL.out,HB.out,HA.out⟩
theorem allT_named {od po:Int} {L:List Ln} {T:List Tk} {M:List Ln} {sk fr to q:Int} (h:z0l 4 4 ⟨5,od,po,L,T,M,sk,fr,to,q⟩=true):z1h (allT T)=z1c T [] sk:=by
 have h2:(z0m 4 4 && askP 4 4 ⟨5,od,po,L,T,M,sk,fr,to,q⟩ && decide ((⟨5,od,po,L,T,M,sk,fr,to,q⟩:Pg)=qofP ⟨5,od,po,L,T,M,sk,fr,to,q⟩))=true:=h
 rw [ask5] at h2
 simp only [Bool.and_eq_true] at h2
 exact (z8y T sk (fills_sku h2.1.2.2)).symm
theorem restock_any (od po:Int) (lp:Option Addr) (ln lcp:Nat) (tp:Option Addr) (tn tcp:Nat) (wp:Option Addr) (wn wcp:Nat) (sk fr to q:Int) (L:List Ln) (T:List Tk) (M:List Ln) (W:World) (hP:PgM W lp ln lcp L tp tn tcp T wp wn wcp M) (hok:Pgok ⟨5,od,po,L,T,M,sk,fr,to,q⟩) (h1:ln≤400∧tn≤400∧wn≤400) (hg:z0l 4 4 ⟨5,od,po,L,T,M,sk,fr,to,q⟩=true) :
 Calls Tryz.prog 83 #[.agg #[.int .u8 5,.int .u32 od,.int .u8 po,.slice lp ln lcp,.slice tp tn tcp,.slice wp wn wcp,.int .u8 sk,.int .u8 fr,.int .u8 to,.int .i64 q]] W (GivesS W (z0k ⟨5,od,po,L,T,M,sk,fr,to,q⟩)):=by
 rw [steps_five od po L T M sk fr to q hg]
 have hzz:=five_ok od po L T M sk fr to q hg
 have hta:=together_any tp tn tcp T
 rw [allT_named hg] at hta
 obtain⟨R,hR⟩:∃ R,(if 1≤T.length then [((1:Int),to,[(sk,z1c T [] sk)]),(8,0,[(sk,z1c T [] sk)])] else [])=R:=⟨_,rfl⟩
 rw [hR]
 have HRR:=hid hR
 clear hR
 obtain⟨W1,hW1,hbx,hb1⟩:∃ W1,W.alloc (.cells #[.int .u8 5,.int .u32 od,.int .u8 po,.slice lp ln lcp,.slice tp tn tcp,.slice wp wn wcp,.int .u8 sk,.int .u8 fr,.int .u8 to,.int .i64 q] 26)=W1∧W1.heap[W.heap.size]?=some (.cells #[.int .u8 5,.int .u32 od,.int .u8 po,.slice lp ln lcp,.slice tp tn tcp,.slice wp wn wcp,.int .u8 sk,.int .u8 fr,.int .u8 to,.int .i64 q] 26 (0,0))∧Below W.heap.size W W1:=⟨_,rfl,z0c W _,(Below.refl _ _).alloc (Nat.le_refl _) _⟩
 have HW1:=hid hW1
 have HB1:=hid hb1
 have HX:=hid hbx
 have HT:=hid (hP.later hb1).t
 have HTOK:=hid hok.takes
 have HLT:=hid hP.t.len
 have HTA:=hid hta
 have hcap:=hP.t.cap
 obtain⟨_,h12,_⟩:=h1
 have HC:=hid fun w' (h:Below W1.heap.size W1 w')=>z0d 5 od po lp ln lcp tp tn tcp wp wn wcp sk fr to q (z0b HX.out h)
 obtain⟨a0,a1,a2,a3,a4,a5,a6,a7,a8,a9⟩:=HC.out W1 (Below.refl _ _)
 clear hW1 hb1 hbx hP hok hta hg
 go_enter Tryz.func83,Tryz.ntmps83
 go_wp2_with fail
 rw [HW1.out]
 refine (z5q 5 to sk q W1).mono ?_
 rintro e w3 ⟨p3,c3,rfl,hl3,hb3,ha3⟩
 simp only [List.length_cons,List.length_nil,Nat.zero_add] at hl3 ⊢
 have HF4:=hid (FillS.lit (m:=1) (cs:=#[.int .u8 5,.int .u8 to,.slice p3 1 c3]) (H:=[hsOf 5 to p3 1 c3]) (S:=[(5,to,[(sk,q)])]) hb3 rfl rfl (by omega) ⟨⟨rfl,rfl,hl3⟩,trivial⟩)
 generalize hw4:w3.alloc (.cells #[.int .u8 5,.int .u8 to,.slice p3 1 c3] 52)=w4 at *
 have HW4:=hid hw4
 clear hl3 hb3 ha3 hw4 a0 a1 a2 a3 a4 a5 a6 a7 a8 a9
 obtain⟨a0,a1,a2,a3,a4,a5,a6,a7,a8,a9⟩:=HC.out w4 HF4.out.below
 by_cases ht:1≤tn
 case neg =>
  obtain rfl:tn=0:=by omega
  have d1:(((0:Nat):Int)==0)=true:=rfl
  have hR:=HRR.out
  rw [if_neg (by rw [HLT.out];exact ht)] at hR
  subst hR
  go_upto_region 2 with (fail)
  rw [HW4.out]
  go_wp2_with fail
  go_ret
  exact (HF4.out.gives).since HB1.out
 have d1:((tn:Int)==0)=false:=by simp;omega
 have hR:=HRR.out
 rw [if_pos (by rw [HLT.out];exact ht)] at hR
 have HR2:=hid hR
 have hta:=HTA.out w4 (HT.out.later HF4.out.below) HTOK.out (by omega)
 rw [z6t _ ((z3x _).1 hzz),hzz] at hta
 clear hR HRR ht
 generalize z1c T [] sk=z at *
 go_upto_region 2 with (fail)
 rw [HW4.out]
 go_wp2_with fail
 refine hta.mono ?_
 rintro e w5 ⟨rfl,h5⟩
 have HF5:=hid (HF4.out.later h5)
 clear hta h5 a0 a1 a2 a3 a4 a5 a6 a7 a8 a9
 have hbd:Below W1.heap.size W1 w5.drew:=HF5.out.below.drew
 have HF6:=hid (HF5.out.later (show Below w5.heap.size w5 w5.drew from (Below.refl _ _).drew))
 obtain⟨x4,hx4⟩:∃ x4:Nat,w3.heap.size=x4:=⟨_,rfl⟩
 rw [hx4] at HF5 HF6 ⊢
 clear hx4 HF4 HW4
 go_wp2_with fail
 refine wp_region_held_drew (S:=fun w'=>Hid (Below W1.heap.size W1 w')) (by kernel_rfl) (hid hbd) (fun hHeld=>?_)
 clear hbd
 refine wpAnyH_take (i:=0) (oi:=⟨some 25,_,_,_,_,_⟩) (v:=.slice (some ⟨x4,0,none⟩) 1 1) rfl (by kernel_rfl) (by kernel_rfl) (by kernel_rfl) (fun _ _ _ h=>h) (Or.inl ⟨by rfl,fun w' hw'=>?_⟩) (by assumption) ?_
 · clear hHeld
   go_simp
 simp only [Act.put,sIB,sCZ,sCS]
 refine wpAnyH_take (i:=1) (oi:=⟨some 26,_,_,_,_,_⟩) (v:=.pointer (some ⟨W.heap.size,8,none⟩)) rfl (by kernel_rfl) (by kernel_rfl) (by kernel_rfl) (fun _ _ _ h=>h) (Or.inl ⟨by rfl,fun w' hw'=>?_⟩) (by assumption) ?_
 · clear hHeld
   go_simp
 simp only [Act.put,sIB,sCZ,sCS]
 refine wpAnyH_take (i:=2) (oi:=⟨some 27,_,_,_,_,_⟩) (v:=.int .u8 to) rfl (by kernel_rfl) (by kernel_rfl) (by kernel_rfl) (fun _ _ _ h=>h) (Or.inl ⟨by rfl,fun w' hw'=>?_⟩) (by assumption) ?_
 · obtain⟨g0,g1,g2,g3,g4,g5,g6,g7,g8,g9⟩:=HC.out w' hw'.out
   clear hHeld
   go_simp
 simp only [Act.put,sIB,sCZ,sCS]
 refine wpAnyH_take (i:=3) (oi:=⟨some 28,_,_,_,_,_⟩) (v:=.pointer (some ⟨W.heap.size,6,none⟩)) rfl (by kernel_rfl) (by kernel_rfl) (by kernel_rfl) (fun _ _ _ h=>h) (Or.inl ⟨by rfl,fun w' hw'=>?_⟩) (by assumption) ?_
 · clear hHeld
   go_simp
 simp only [Act.put,sIB,sCZ,sCS]
 refine wpAnyH_take (i:=4) (oi:=⟨some 29,_,_,_,_,_⟩) (v:=.int .u8 sk) rfl (by kernel_rfl) (by kernel_rfl) (by kernel_rfl) (fun _ _ _ h=>h) (Or.inl ⟨by rfl,fun w' hw'=>?_⟩) (by assumption) ?_
 · obtain⟨g0,g1,g2,g3,g4,g5,g6,g7,g8,g9⟩:=HC.out w' hw'.out
   clear hHeld
   go_simp
 simp only [Act.put,sIB,sCZ,sCS]
 refine wpAnyH_take (i:=5) (oi:=⟨some 30,_,_,_,_,_⟩) (v:=.int .i64 z) rfl (by kernel_rfl) (by kernel_rfl) (by kernel_rfl) (fun _ _ _ h=>h) (Or.inl ⟨by rfl,fun w' hw'=>?_⟩) (by assumption) ?_
 · clear hHeld
   go_simp
 simp only [Act.put,sIB,sCZ,sCS]
 refine wpAnyH_take (i:=7) (oi:=⟨some 32,_,_,_,_,_⟩) (v:=.pointer (some ⟨W.heap.size,6,none⟩)) rfl (by kernel_rfl) (by kernel_rfl) (by kernel_rfl) (fun _ _ _ h=>h) (Or.inl ⟨by rfl,fun w' hw'=>?_⟩) (by assumption) ?_
 · clear hHeld
   go_simp
 simp only [Act.put,sIB,sCZ,sCS]
 refine wpAnyH_take (i:=8) (oi:=⟨some 33,_,_,_,_,_⟩) (v:=.int .u8 sk) rfl (by kernel_rfl) (by kernel_rfl) (by kernel_rfl) (fun _ _ _ h=>h) (Or.inl ⟨by rfl,fun w' hw'=>?_⟩) (by assumption) ?_
 · obtain⟨g0,g1,g2,g3,g4,g5,g6,g7,g8,g9⟩:=HC.out w' hw'.out
   clear hHeld
   go_simp
 simp only [Act.put,sIB,sCZ,sCS]
 refine wpAnyH_take (i:=9) (oi:=⟨some 34,_,_,_,_,_⟩) (v:=.int .i64 z) rfl (by kernel_rfl) (by kernel_rfl) (by kernel_rfl) (fun _ _ _ h=>h) (Or.inl ⟨by rfl,fun w' hw'=>?_⟩) (by assumption) ?_
 · clear hHeld
   go_simp
 simp only [Act.put,sIB,sCZ,sCS]
 generalize w5.drew=Wd at *
 refine wpAnyH_ready (rs:=[6]) (by kernel_rfl) (by simp) (AllReadyH.cons rfl (fun K hK=>?_) AllReadyH.nil)
 go_simp
 go_wp2_with fail
 refine (z5q 1 to sk z _).mono ?_
 rintro e x7 ⟨p7,c7,rfl,hl7,hb7,ha7⟩
 have hH7:Hid (Below W1.heap.size W1 x7):=hid (hHeld.out.trans (hb7.mono hHeld.out.size))
 have HL7:=hid hl7
 have HAP7:=hid ha7
 have HBB7:=hid hb7
 clear hl7 hb7 ha7
 go_wp2_with fail
 refine hK.out _ _ hH7 (fun hHeld2=>?_)
 clear hH7
 clear hK K hHeld
 have hHeld:=hHeld2
 clear hHeld2
 try simp only [Act.put,sIB,sCZ,sCS]
 have HF7:=hid (HF6.out.later HBB7.out)
 refine wpAnyH_ready (rs:=[10]) (by kernel_rfl) (by simp) (AllReadyH.cons rfl (fun K hK=>?_) AllReadyH.nil)
 go_simp
 go_wp2_with fail
 refine (z5q 8 0 sk z _).mono ?_
 rintro e x8 ⟨p8,c8,rfl,hl8,hb8,ha8⟩
 have hH8:Hid (Below W1.heap.size W1 x8):=hid (hHeld.out.trans (hb8.mono hHeld.out.size))
 have HL8:=hid hl8
 have HAP8:=hid ha8
 have HBB8:=hid hb8
 clear hl8 hb8 ha8
 go_wp2_with fail
 refine hK.out _ _ hH8 (fun hHeld2=>?_)
 clear hH8
 clear hK K hHeld
 have hHeld:=hHeld2
 clear hHeld2
 try simp only [Act.put,sIB,sCZ,sCS]
 have HF8:=hid (HF7.out.later HBB8.out)
 refine wpAnyH_ready (rs:=[11]) (by kernel_rfl) (by simp) (AllReadyH.cons rfl (fun K hK=>?_) AllReadyH.nil)
 go_simp
 have hba:Below x8.heap.size x8 (x8.alloc (.cells #[.int .u8 1,.int .u8 to,.slice p7 1 c7,.int .u8 8,.int .u8 0,.slice p8 1 c8] 52)):=(Below.refl _ _).alloc (Nat.le_refl _) _
 have hT:TellsAll (x8.alloc (.cells #[.int .u8 1,.int .u8 to,.slice p7 1 c7,.int .u8 8,.int .u8 0,.slice p8 1 c8] 52)) [hsOf 1 to p7 1 c7,hsOf 8 0 p8 1 c8] [(1,to,[(sk,z)]),(8,0,[(sk,z)])]:=⟨⟨rfl,rfl,(HL7.out.later HBB8.out).later hba⟩,⟨rfl,rfl,HL8.out.later hba⟩,trivial⟩
 have HT9:=hid hT
 have HF9:=hid (HF8.out.later hba)
 have HNW:=hid (z5p (H:=[hsOf 1 to p7 1 c7,hsOf 8 0 p8 1 c8]) (z0c x8 (.cells #[.int .u8 1,.int .u8 to,.slice p7 1 c7,.int .u8 8,.int .u8 0,.slice p8 1 c8] 52)) rfl)
 have hH9:Hid (Below W1.heap.size W1 (x8.alloc (.cells #[.int .u8 1,.int .u8 to,.slice p7 1 c7,.int .u8 8,.int .u8 0,.slice p8 1 c8] 52))):=hid (hHeld.out.trans (hba.mono hHeld.out.size))
 have HAA:Hid (∀ h ∈ [hsOf 1 to p7 1 c7,hsOf 8 0 p8 1 c8],0<h.2.2.2.1→∀ ad,h.2.2.1=some ad→(Value.slice (some ⟨x4,0,none⟩) 1 1).ownBlock≠some ad.block):=hid fun h hh h0 ad he hb=>by
  have hlt:=(HF6.out.own.lt ad.block hb).2
  simp only [List.mem_cons,List.not_mem_nil,or_false] at hh
  rcases hh with rfl | rfl
  · have:=HAP7.out ad he
    omega
  · have:=HAP8.out ad he
    have:=HBB7.out.size
    omega
 clear hT hba
 refine hK.out _ _ hH9 (fun hHeld2=>?_)
 clear hH9
 clear hK K hHeld
 have hHeld:=hHeld2
 clear hHeld2
 try simp only [Act.put,sIB,sCZ,sCS]
 refine wpAnyH_ready (rs:=[12]) (by kernel_rfl) (by simp) (AllReadyH.cons rfl (fun K hK=>?_) AllReadyH.nil)
 refine z3k rfl (.tmp 25) (.tmp 36) rfl (.slice (some ⟨x4,0,none⟩) 1 1) _ _ _ (by simp [Act.eval]) HF9.out x8.heap.size 2 [hsOf 1 to p7 1 c7,hsOf 8 0 p8 1 c8] [(1,to,[(sk,z)]),(8,0,[(sk,z)])] (by simp [Act.eval]) rfl HNW.out HT9.out HAA.out (by omega) ?_
 intro p6 n6 c6 x6 h6
 have HFA:=hid h6
 have hH6:Hid (Below W1.heap.size W1 x6):=hid h6.below
 clear h6
 refine hK.out _ _ hH6 (fun hHeld2=>?_)
 clear hH6
 clear hK K hHeld
 have hHeld:=hHeld2
 clear hHeld2
 try simp only [Act.put,sIB,sCZ,sCS]
 refine wpAnyH_take (i:=13) (oi:=⟨some 2,_,_,_,_,_⟩) (v:=.slice p6 n6 c6) rfl (by kernel_rfl) (by kernel_rfl) (by kernel_rfl) (fun _ _ _ h=>h) (Or.inl ⟨by rfl,fun w' hw'=>?_⟩) (by assumption) ?_
 · clear hHeld
   go_simp
 simp only [Act.put,sIB,sCZ,sCS]
 refine wpAnyH_done (by kernel_rfl) ?_ _
 clear hHeld
 go_wp2_with fail
 go_ret
 have hfin:=HFA.out.gives
 rw [HR2.out] at hfin
 have hfin2:=hfin.since HB1.out
 clear hfin
 first | exact hfin2 | (simp only [sCZ,sCS];exact hfin2) | (simp;exact hfin2)
theorem takes_of {K od po:Int} {L:List Ln} {T:List Tk} {M:List Ln} {sk fr to q:Int} (hK:K=1∨K=2∨K=3∨K=4) (h:z0l 4 4 ⟨K,od,po,L,T,M,sk,fr,to,q⟩=true):z0s 4 4 od T=true:=by
 have h2:(z0m 4 4 && askP 4 4 ⟨K,od,po,L,T,M,sk,fr,to,q⟩ && decide ((⟨K,od,po,L,T,M,sk,fr,to,q⟩:Pg)=qofP ⟨K,od,po,L,T,M,sk,fr,to,q⟩))=true:=h
 rcases hK with rfl | rfl | rfl | rfl
 · rw [ask1] at h2;simp only [Bool.and_eq_true] at h2;exact h2.1.2.1.1.1.2
 · rw [ask2] at h2;simp only [Bool.and_eq_true] at h2;exact h2.1.2.1.1.2
 · rw [ask3] at h2;simp only [Bool.and_eq_true] at h2;exact h2.1.2.1.2
 · rw [ask4] at h2;simp only [Bool.and_eq_true] at h2;exact h2.1.2.1.2
theorem z3w {K od po:Int} {L:List Ln} {T:List Tk} {M:List Ln} {sk fr to q:Int} (hK:K=1∨K=2∨K=3∨K=4) (hT:∀ x∈T,Tkok x) (h:z0l 4 4 ⟨K,od,po,L,T,M,sk,fr,to,q⟩=true):z0k ⟨K,od,po,L,T,M,sk,fr,to,q⟩=z1a K T++z7a K M:=by
 have ht:=takes_of hK h
 have hh:=q0f K od T (fun x hx=>(hT x hx).2.2.1.1) ht T.length (Nat.le_refl _)
 rw [List.take_length] at hh
 unfold z0k
 rw [if_pos h,hh]
 dsimp only
 rw [if_neg (by omega),if_neg (by omega)]
theorem z9w {K:Int} {M:List Ln} (hK:K=3∨K=4):z7a K M=[]:=by
 unfold z7a
 rw [if_neg (by omega),if_neg (by omega)]
theorem q1p {K:Int}:z7a K []=[]:=by
 unfold z7a
 rw [if_neg (by simp),if_neg (by simp)]
theorem q2i {M:List Ln} (h:1≤M.length):z7a 1 M=[(7,0,M)]:=by
 unfold z7a
 rw [if_pos ⟨h,rfl⟩]
theorem q2h {M:List Ln} (h:1≤M.length):z7a 2 M=[(8,0,M)]:=by
 unfold z7a
 rw [if_neg (by omega),if_pos ⟨h,rfl⟩]
theorem steps1_p (od po:Int) (lp:Option Addr) (ln lcp:Nat) (tp:Option Addr) (tn tcp:Nat) (wp:Option Addr) (wn wcp:Nat) (sk fr to q:Int) (L:List Ln) (T:List Tk) (M:List Ln) (W:World) (hw:Words W) (hP:PgM W lp ln lcp L tp tn tcp T wp wn wcp M) (hok:Pgok ⟨1,od,po,L,T,M,sk,fr,to,q⟩) (h1:ln≤400∧tn≤400∧wn≤400) (hg:z0l 4 4 ⟨1,od,po,L,T,M,sk,fr,to,q⟩=true) :
 Calls Tryz.prog 48 #[.agg #[.int .u8 1,.int .u32 od,.int .u8 po,.slice lp ln lcp,.slice tp tn tcp,.slice wp wn wcp,.int .u8 sk,.int .u8 fr,.int .u8 to,.int .i64 q]] W (GivesS W (z0k ⟨1,od,po,L,T,M,sk,fr,to,q⟩)):=by
 rw [z3w (.inl rfl) hok.takes hg]
 obtain⟨W1,hW1,hbx,hb1⟩:∃ W1,W.alloc (.cells #[.int .u8 1,.int .u32 od,.int .u8 po,.slice lp ln lcp,.slice tp tn tcp,.slice wp wn wcp,.int .u8 sk,.int .u8 fr,.int .u8 to,.int .i64 q] 26)=W1∧W1.heap[W.heap.size]?=some (.cells #[.int .u8 1,.int .u32 od,.int .u8 po,.slice lp ln lcp,.slice tp tn tcp,.slice wp wn wcp,.int .u8 sk,.int .u8 fr,.int .u8 to,.int .i64 q] 26 (0,0))∧Below W.heap.size W W1:=⟨_,rfl,z0c W _,(Below.refl _ _).alloc (Nat.le_refl _) _⟩
 have hgd:=z5v 4 4 1 od po lp ln lcp tp tn tcp wp wn wcp sk fr to q L T M W1 (hw.later hb1) (hP.later hb1) hok h1
 rw [hg] at hgd
 have HW1:=hid hW1
 have HB1:=hid hb1
 have HX:=hid hbx
 have HP:=hid (hP.later hb1)
 have HOK:=hid hok
 have HGG:=hid hg
 have H1:=hid h1
 have HLM:=hid hP.o.len
 have HC:=hid fun w' (h:Below W1.heap.size W1 w')=>z0d 1 od po lp ln lcp tp tn tcp wp wn wcp sk fr to q (z0b HX.out h)
 obtain⟨a0,a1,a2,a3,a4,a5,a6,a7,a8,a9⟩:=HC.out W1 (Below.refl _ _)
 clear hW1 hb1 hbx hP hok hg hw h1
 go_enter Tryz.func48,Tryz.ntmps48
 go_wp2_with fail
 rw [HW1.out]
 refine hgd.mono ?_
 rintro e w2 ⟨rfl,h2⟩
 have HB2:=hid h2
 clear hgd h2 a0 a1 a2 a3 a4 a5 a6 a7 a8 a9
 obtain⟨a0,a1,a2,a3,a4,a5,a6,a7,a8,a9⟩:=HC.out w2 HB2.out
 have hbd:Below W1.heap.size W1 w2.drew:=HB2.out.drew
 go_wp2_with fail
 refine wp_region_held_drew (S:=fun w'=>Hid (Below W1.heap.size W1 w')) (by kernel_rfl) (hid hbd) (fun hHeld=>?_)
 clear hbd
 refine wpAnyH_take (i:=0) (oi:=⟨some 10,_,_,_,_,_⟩) (v:=.pointer (some ⟨W.heap.size,4,none⟩)) rfl (by kernel_rfl) (by kernel_rfl) (by kernel_rfl) (fun _ _ _ h=>h) (Or.inl ⟨by rfl,fun w' hw'=>?_⟩) (by assumption) ?_
 · clear hHeld
   go_simp
 simp only [Act.put,sIB,sCZ,sCS]
 refine wpAnyH_take (i:=1) (oi:=⟨some 11,_,_,_,_,_⟩) (v:=.slice tp tn tcp) rfl (by kernel_rfl) (by kernel_rfl) (by kernel_rfl) (fun _ _ _ h=>h) (Or.inl ⟨by rfl,fun w' hw'=>?_⟩) (by assumption) ?_
 · obtain⟨g0,g1,g2,g3,g4,g5,g6,g7,g8,g9⟩:=HC.out w' hw'.out
   clear hHeld
   go_simp
 simp only [Act.put,sIB,sCZ,sCS]
 refine wpAnyH_take (i:=3) (oi:=⟨some 13,_,_,_,_,_⟩) (v:=.pointer (some ⟨W.heap.size,5,none⟩)) rfl (by kernel_rfl) (by kernel_rfl) (by kernel_rfl) (fun _ _ _ h=>h) (Or.inl ⟨by rfl,fun w' hw'=>?_⟩) (by assumption) ?_
 · clear hHeld
   go_simp
 simp only [Act.put,sIB,sCZ,sCS]
 refine wpAnyH_take (i:=4) (oi:=⟨some 14,_,_,_,_,_⟩) (v:=.slice wp wn wcp) rfl (by kernel_rfl) (by kernel_rfl) (by kernel_rfl) (fun _ _ _ h=>h) (Or.inl ⟨by rfl,fun w' hw'=>?_⟩) (by assumption) ?_
 · obtain⟨g0,g1,g2,g3,g4,g5,g6,g7,g8,g9⟩:=HC.out w' hw'.out
   clear hHeld
   go_simp
 simp only [Act.put,sIB,sCZ,sCS]
 clear a0 a1 a2 a3 a4 a5 a6 a7 a8 a9
 generalize w2.drew=Wd at *
 have HBD:Hid (Below W1.heap.size W1 Wd):=hHeld
 refine wpAnyH_ready (rs:=[2]) (by kernel_rfl) (by simp) (AllReadyH.cons rfl (fun K hK=>?_) AllReadyH.nil)
 go_simp
 go_wp2_with fail
 refine (z4r 1 tp tn tcp T _ (HP.out.later HBD.out).t (by have:=H1.out;omega)).mono ?_
 rintro e x7 ⟨v7,H7,rfl,hf7⟩
 have hH7:Hid (Below W1.heap.size W1 x7):=hid (HBD.out.trans (hf7.below.mono HBD.out.size))
 have HH7:=hH7
 have HF7:=hid hf7
 clear hf7
 go_wp2_with fail
 refine hK.out _ _ hH7 (fun hHeld2=>?_)
 clear hH7
 clear hK K hHeld
 have hHeld:=hHeld2
 clear hHeld2
 try simp only [Act.put,sIB,sCZ,sCS]
 by_cases hwn:1≤wn
 case pos =>
  refine wpAnyH_ready (rs:=[5]) (by kernel_rfl) (by simp) (AllReadyH.cons rfl (fun K hK=>?_) AllReadyH.nil)
  go_simp
  go_wp2_with fail
  refine (owing_some 7 wp wn wcp M x7 (HP.out.later HH7.out).o hwn (by have:=H1.out;omega)).mono ?_
  rintro e x8 ⟨B8,p8,c8,rfl,hx8,hl8,hb8,ha8⟩
  have hH8:Hid (Below W1.heap.size W1 x8):=hid (HH7.out.trans (hb8.mono HH7.out.size))
  have HF8:=hid (HF7.out.later hb8)
  have HNW:=hid (z5p (H:=[hsOf 7 0 p8 wn c8]) hx8 rfl)
  have HT8:=hid (show TellsAll x8 [hsOf 7 0 p8 wn c8] [(7,0,M)] from ⟨⟨rfl,rfl,hl8⟩,trivial⟩)
  have HAA:Hid (∀ h ∈ [hsOf 7 0 p8 wn c8],0<h.2.2.2.1→∀ ad,h.2.2.1=some ad→v7.ownBlock≠some ad.block):=hid fun h hh h0 ad he hb=>by
   have hlt:=(HF7.out.own.lt ad.block hb).2
   obtain rfl:=List.mem_singleton.1 hh
   have:=ha8 ad he
   omega
  clear hx8 hl8 hb8 ha8
  go_wp2_with fail
  refine hK.out _ _ hH8 (fun hHeld2=>?_)
  clear hH8
  clear hK K hHeld
  have hHeld:=hHeld2
  clear hHeld2
  try simp only [Act.put,sIB,sCZ,sCS]
  refine wpAnyH_ready (rs:=[6]) (by kernel_rfl) (by simp) (AllReadyH.cons rfl (fun K hK=>?_) AllReadyH.nil)
  refine z3k rfl (.tmp 12) (.tmp 15) rfl v7 _ _ _ (by simp [Act.eval]) HF8.out B8 1 [hsOf 7 0 p8 wn c8] [(7,0,M)] (by simp [Act.eval]) rfl HNW.out HT8.out HAA.out (by have:=H1.out;omega) ?_
  intro p6 n6 c6 x6 h6
  have HFA:=hid h6
  have hH6:Hid (Below W1.heap.size W1 x6):=hid (HBD.out.trans (h6.below.mono HBD.out.size))
  clear h6
  refine hK.out _ _ hH6 (fun hHeld2=>?_)
  clear hH6
  clear hK K hHeld
  have hHeld:=hHeld2
  clear hHeld2
  try simp only [Act.put,sIB,sCZ,sCS]
  refine wpAnyH_take (i:=7) (oi:=⟨some 2,_,_,_,_,_⟩) (v:=.slice p6 n6 c6) rfl (by kernel_rfl) (by kernel_rfl) (by kernel_rfl) (fun _ _ _ h=>h) (Or.inl ⟨by rfl,fun w' hw'=>?_⟩) (by assumption) ?_
  · clear hHeld
    go_simp
  simp only [Act.put,sIB,sCZ,sCS]
  refine wpAnyH_done (by kernel_rfl) ?_ _
  clear hHeld
  go_wp2_with fail
  go_ret
  rw [q2i (by rw [HLM.out];exact hwn)]
  have hfin:=((HFA.out.gives).since HBD.out).since HB1.out
  first | exact hfin | (simp only [sCZ,sCS];exact hfin) | (simp;exact hfin)
 case neg =>
  obtain rfl:wn=0:=by omega
  refine wpAnyH_ready (rs:=[5]) (by kernel_rfl) (by simp) (AllReadyH.cons rfl (fun K hK=>?_) AllReadyH.nil)
  go_simp
  go_wp2_with fail
  refine (owing_none 7 wp wcp x7).mono ?_
  rintro e x8 ⟨rfl,hb8⟩
  have hH8:Hid (Below W1.heap.size W1 x8):=hid (HH7.out.trans (hb8.mono HH7.out.size))
  have HF8:=hid (HF7.out.later hb8)
  clear hb8
  go_wp2_with fail
  refine hK.out _ _ hH8 (fun hHeld2=>?_)
  clear hH8
  clear hK K hHeld
  have hHeld:=hHeld2
  clear hHeld2
  try simp only [Act.put,sIB,sCZ,sCS]
  refine wpAnyH_ready (rs:=[6]) (by kernel_rfl) (by simp) (AllReadyH.cons rfl (fun K hK=>?_) AllReadyH.nil)
  refine z1b (k:=3) (by decide) Tryz.underlying48 z4p rfl (by omega) rfl (.tmp 12) (.tmp 15) rfl v7 H7.length (z0n sc H7) (by simp [Act.eval]) (z2a HF8.out.own) none 0 0 (z0n sc []) (by simp [Act.eval]) rfl (fun _=>⟨rfl,rfl⟩) (fun ad he=>by cases he) (z1n z9l _) (by have:=HF8.out.most;have:=H1.out;omega) ?_
  intro p6 c6 x6 g1 g2 g3
  have h6:=HF8.out.app (m:=0) (H':=[]) (S':=[]) rfl trivial (fun h hh=>by cases hh) g1 g2 g3
  have HFA:=hid h6
  have hH6:Hid (Below W1.heap.size W1 x6):=hid (HBD.out.trans (h6.below.mono HBD.out.size))
  clear h6 g1 g2 g3
  refine hK.out _ _ hH6 (fun hHeld2=>?_)
  clear hH6
  clear hK K hHeld
  have hHeld:=hHeld2
  clear hHeld2
  try simp only [Act.put,sIB,sCZ,sCS]
  refine wpAnyH_take (i:=7) (oi:=⟨some 2,_,_,_,_,_⟩) (v:=.slice p6 (H7.length+0) c6) rfl (by kernel_rfl) (by kernel_rfl) (by kernel_rfl) (fun _ _ _ h=>h) (Or.inl ⟨by rfl,fun w' hw'=>?_⟩) (by assumption) ?_
  · clear hHeld
    go_simp
  simp only [Act.put,sIB,sCZ,sCS]
  refine wpAnyH_done (by kernel_rfl) ?_ _
  clear hHeld
  go_wp2_with fail
  go_ret
  obtain rfl:M=[]:=List.eq_nil_of_length_eq_zero HLM.out
  rw [q1p]
  have hfin:=((HFA.out.gives).since HBD.out).since HB1.out
  first | exact hfin | (simp only [sCZ,sCS];exact hfin) | (simp only [List.append_nil,Nat.add_zero] at hfin ⊢;exact hfin) | (simp only [List.append_nil,Nat.add_zero,sCZ,sCS] at hfin ⊢;exact hfin) | (simp at hfin ⊢;exact hfin)
theorem steps2_p (od po:Int) (lp:Option Addr) (ln lcp:Nat) (tp:Option Addr) (tn tcp:Nat) (wp:Option Addr) (wn wcp:Nat) (sk fr to q:Int) (L:List Ln) (T:List Tk) (M:List Ln) (W:World) (hw:Words W) (hP:PgM W lp ln lcp L tp tn tcp T wp wn wcp M) (hok:Pgok ⟨2,od,po,L,T,M,sk,fr,to,q⟩) (h1:ln≤400∧tn≤400∧wn≤400) (hg:z0l 4 4 ⟨2,od,po,L,T,M,sk,fr,to,q⟩=true) :
 Calls Tryz.prog 48 #[.agg #[.int .u8 2,.int .u32 od,.int .u8 po,.slice lp ln lcp,.slice tp tn tcp,.slice wp wn wcp,.int .u8 sk,.int .u8 fr,.int .u8 to,.int .i64 q]] W (GivesS W (z0k ⟨2,od,po,L,T,M,sk,fr,to,q⟩)):=by
 rw [z3w (.inr (.inl rfl)) hok.takes hg]
 obtain⟨W1,hW1,hbx,hb1⟩:∃ W1,W.alloc (.cells #[.int .u8 2,.int .u32 od,.int .u8 po,.slice lp ln lcp,.slice tp tn tcp,.slice wp wn wcp,.int .u8 sk,.int .u8 fr,.int .u8 to,.int .i64 q] 26)=W1∧W1.heap[W.heap.size]?=some (.cells #[.int .u8 2,.int .u32 od,.int .u8 po,.slice lp ln lcp,.slice tp tn tcp,.slice wp wn wcp,.int .u8 sk,.int .u8 fr,.int .u8 to,.int .i64 q] 26 (0,0))∧Below W.heap.size W W1:=⟨_,rfl,z0c W _,(Below.refl _ _).alloc (Nat.le_refl _) _⟩
 have hgd:=z5v 4 4 2 od po lp ln lcp tp tn tcp wp wn wcp sk fr to q L T M W1 (hw.later hb1) (hP.later hb1) hok h1
 rw [hg] at hgd
 have HW1:=hid hW1
 have HB1:=hid hb1
 have HX:=hid hbx
 have HP:=hid (hP.later hb1)
 have HOK:=hid hok
 have HGG:=hid hg
 have H1:=hid h1
 have HLM:=hid hP.o.len
 have HC:=hid fun w' (h:Below W1.heap.size W1 w')=>z0d 2 od po lp ln lcp tp tn tcp wp wn wcp sk fr to q (z0b HX.out h)
 obtain⟨a0,a1,a2,a3,a4,a5,a6,a7,a8,a9⟩:=HC.out W1 (Below.refl _ _)
 clear hW1 hb1 hbx hP hok hg hw h1
 go_enter Tryz.func48,Tryz.ntmps48
 go_wp2_with fail
 rw [HW1.out]
 refine hgd.mono ?_
 rintro e w2 ⟨rfl,h2⟩
 have HB2:=hid h2
 clear hgd h2 a0 a1 a2 a3 a4 a5 a6 a7 a8 a9
 obtain⟨a0,a1,a2,a3,a4,a5,a6,a7,a8,a9⟩:=HC.out w2 HB2.out
 have hbd:Below W1.heap.size W1 w2.drew:=HB2.out.drew
 go_wp2_with fail
 refine wp_region_held_drew (S:=fun w'=>Hid (Below W1.heap.size W1 w')) (by kernel_rfl) (hid hbd) (fun hHeld=>?_)
 clear hbd
 refine wpAnyH_take (i:=0) (oi:=⟨some 19,_,_,_,_,_⟩) (v:=.pointer (some ⟨W.heap.size,4,none⟩)) rfl (by kernel_rfl) (by kernel_rfl) (by kernel_rfl) (fun _ _ _ h=>h) (Or.inl ⟨by rfl,fun w' hw'=>?_⟩) (by assumption) ?_
 · clear hHeld
   go_simp
 simp only [Act.put,sIB,sCZ,sCS]
 refine wpAnyH_take (i:=1) (oi:=⟨some 20,_,_,_,_,_⟩) (v:=.slice tp tn tcp) rfl (by kernel_rfl) (by kernel_rfl) (by kernel_rfl) (fun _ _ _ h=>h) (Or.inl ⟨by rfl,fun w' hw'=>?_⟩) (by assumption) ?_
 · obtain⟨g0,g1,g2,g3,g4,g5,g6,g7,g8,g9⟩:=HC.out w' hw'.out
   clear hHeld
   go_simp
 simp only [Act.put,sIB,sCZ,sCS]
 refine wpAnyH_take (i:=3) (oi:=⟨some 22,_,_,_,_,_⟩) (v:=.pointer (some ⟨W.heap.size,5,none⟩)) rfl (by kernel_rfl) (by kernel_rfl) (by kernel_rfl) (fun _ _ _ h=>h) (Or.inl ⟨by rfl,fun w' hw'=>?_⟩) (by assumption) ?_
 · clear hHeld
   go_simp
 simp only [Act.put,sIB,sCZ,sCS]
 refine wpAnyH_take (i:=4) (oi:=⟨some 23,_,_,_,_,_⟩) (v:=.slice wp wn wcp) rfl (by kernel_rfl) (by kernel_rfl) (by kernel_rfl) (fun _ _ _ h=>h) (Or.inl ⟨by rfl,fun w' hw'=>?_⟩) (by assumption) ?_
 · obtain⟨g0,g1,g2,g3,g4,g5,g6,g7,g8,g9⟩:=HC.out w' hw'.out
   clear hHeld
   go_simp
 simp only [Act.put,sIB,sCZ,sCS]
 clear a0 a1 a2 a3 a4 a5 a6 a7 a8 a9
 generalize w2.drew=Wd at *
 have HBD:Hid (Below W1.heap.size W1 Wd):=hHeld
 refine wpAnyH_ready (rs:=[2]) (by kernel_rfl) (by simp) (AllReadyH.cons rfl (fun K hK=>?_) AllReadyH.nil)
 go_simp
 go_wp2_with fail
 refine (z4r 2 tp tn tcp T _ (HP.out.later HBD.out).t (by have:=H1.out;omega)).mono ?_
 rintro e x7 ⟨v7,H7,rfl,hf7⟩
 have hH7:Hid (Below W1.heap.size W1 x7):=hid (HBD.out.trans (hf7.below.mono HBD.out.size))
 have HH7:=hH7
 have HF7:=hid hf7
 clear hf7
 go_wp2_with fail
 refine hK.out _ _ hH7 (fun hHeld2=>?_)
 clear hH7
 clear hK K hHeld
 have hHeld:=hHeld2
 clear hHeld2
 try simp only [Act.put,sIB,sCZ,sCS]
 by_cases hwn:1≤wn
 case pos =>
  refine wpAnyH_ready (rs:=[5]) (by kernel_rfl) (by simp) (AllReadyH.cons rfl (fun K hK=>?_) AllReadyH.nil)
  go_simp
  go_wp2_with fail
  refine (owing_some 8 wp wn wcp M x7 (HP.out.later HH7.out).o hwn (by have:=H1.out;omega)).mono ?_
  rintro e x8 ⟨B8,p8,c8,rfl,hx8,hl8,hb8,ha8⟩
  have hH8:Hid (Below W1.heap.size W1 x8):=hid (HH7.out.trans (hb8.mono HH7.out.size))
  have HF8:=hid (HF7.out.later hb8)
  have HNW:=hid (z5p (H:=[hsOf 8 0 p8 wn c8]) hx8 rfl)
  have HT8:=hid (show TellsAll x8 [hsOf 8 0 p8 wn c8] [(8,0,M)] from ⟨⟨rfl,rfl,hl8⟩,trivial⟩)
  have HAA:Hid (∀ h ∈ [hsOf 8 0 p8 wn c8],0<h.2.2.2.1→∀ ad,h.2.2.1=some ad→v7.ownBlock≠some ad.block):=hid fun h hh h0 ad he hb=>by
   have hlt:=(HF7.out.own.lt ad.block hb).2
   obtain rfl:=List.mem_singleton.1 hh
   have:=ha8 ad he
   omega
  clear hx8 hl8 hb8 ha8
  go_wp2_with fail
  refine hK.out _ _ hH8 (fun hHeld2=>?_)
  clear hH8
  clear hK K hHeld
  have hHeld:=hHeld2
  clear hHeld2
  try simp only [Act.put,sIB,sCZ,sCS]
  refine wpAnyH_ready (rs:=[6]) (by kernel_rfl) (by simp) (AllReadyH.cons rfl (fun K hK=>?_) AllReadyH.nil)
  refine z3k rfl (.tmp 21) (.tmp 24) rfl v7 _ _ _ (by simp [Act.eval]) HF8.out B8 1 [hsOf 8 0 p8 wn c8] [(8,0,M)] (by simp [Act.eval]) rfl HNW.out HT8.out HAA.out (by have:=H1.out;omega) ?_
  intro p6 n6 c6 x6 h6
  have HFA:=hid h6
  have hH6:Hid (Below W1.heap.size W1 x6):=hid (HBD.out.trans (h6.below.mono HBD.out.size))
  clear h6
  refine hK.out _ _ hH6 (fun hHeld2=>?_)
  clear hH6
  clear hK K hHeld
  have hHeld:=hHeld2
  clear hHeld2
  try simp only [Act.put,sIB,sCZ,sCS]
  refine wpAnyH_take (i:=7) (oi:=⟨some 2,_,_,_,_,_⟩) (v:=.slice p6 n6 c6) rfl (by kernel_rfl) (by kernel_rfl) (by kernel_rfl) (fun _ _ _ h=>h) (Or.inl ⟨by rfl,fun w' hw'=>?_⟩) (by assumption) ?_
  · clear hHeld
    go_simp
  simp only [Act.put,sIB,sCZ,sCS]
  refine wpAnyH_done (by kernel_rfl) ?_ _
  clear hHeld
  go_wp2_with fail
  go_ret
  rw [q2h (by rw [HLM.out];exact hwn)]
  have hfin:=((HFA.out.gives).since HBD.out).since HB1.out
  first | exact hfin | (simp only [sCZ,sCS];exact hfin) | (simp;exact hfin)
 case neg =>
  obtain rfl:wn=0:=by omega
  refine wpAnyH_ready (rs:=[5]) (by kernel_rfl) (by simp) (AllReadyH.cons rfl (fun K hK=>?_) AllReadyH.nil)
  go_simp
  go_wp2_with fail
  refine (owing_none 8 wp wcp x7).mono ?_
  rintro e x8 ⟨rfl,hb8⟩
  have hH8:Hid (Below W1.heap.size W1 x8):=hid (HH7.out.trans (hb8.mono HH7.out.size))
  have HF8:=hid (HF7.out.later hb8)
  clear hb8
  go_wp2_with fail
  refine hK.out _ _ hH8 (fun hHeld2=>?_)
  clear hH8
  clear hK K hHeld
  have hHeld:=hHeld2
  clear hHeld2
  try simp only [Act.put,sIB,sCZ,sCS]
  refine wpAnyH_ready (rs:=[6]) (by kernel_rfl) (by simp) (AllReadyH.cons rfl (fun K hK=>?_) AllReadyH.nil)
  refine z1b (k:=3) (by decide) Tryz.underlying48 z4p rfl (by omega) rfl (.tmp 21) (.tmp 24) rfl v7 H7.length (z0n sc H7) (by simp [Act.eval]) (z2a HF8.out.own) none 0 0 (z0n sc []) (by simp [Act.eval]) rfl (fun _=>⟨rfl,rfl⟩) (fun ad he=>by cases he) (z1n z9l _) (by have:=HF8.out.most;have:=H1.out;omega) ?_
  intro p6 c6 x6 g1 g2 g3
  have h6:=HF8.out.app (m:=0) (H':=[]) (S':=[]) rfl trivial (fun h hh=>by cases hh) g1 g2 g3
  have HFA:=hid h6
  have hH6:Hid (Below W1.heap.size W1 x6):=hid (HBD.out.trans (h6.below.mono HBD.out.size))
  clear h6 g1 g2 g3
  refine hK.out _ _ hH6 (fun hHeld2=>?_)
  clear hH6
  clear hK K hHeld
  have hHeld:=hHeld2
  clear hHeld2
  try simp only [Act.put,sIB,sCZ,sCS]
  refine wpAnyH_take (i:=7) (oi:=⟨some 2,_,_,_,_,_⟩) (v:=.slice p6 (H7.length+0) c6) rfl (by kernel_rfl) (by kernel_rfl) (by kernel_rfl) (fun _ _ _ h=>h) (Or.inl ⟨by rfl,fun w' hw'=>?_⟩) (by assumption) ?_
  · clear hHeld
    go_simp
  simp only [Act.put,sIB,sCZ,sCS]
  refine wpAnyH_done (by kernel_rfl) ?_ _
  clear hHeld
  go_wp2_with fail
  go_ret
  obtain rfl:M=[]:=List.eq_nil_of_length_eq_zero HLM.out
  rw [q1p]
  have hfin:=((HFA.out.gives).since HBD.out).since HB1.out
  first | exact hfin | (simp only [sCZ,sCS];exact hfin) | (simp only [List.append_nil,Nat.add_zero] at hfin ⊢;exact hfin) | (simp only [List.append_nil,Nat.add_zero,sCZ,sCS] at hfin ⊢;exact hfin) | (simp at hfin ⊢;exact hfin)
theorem steps3_p (od po:Int) (lp:Option Addr) (ln lcp:Nat) (tp:Option Addr) (tn tcp:Nat) (wp:Option Addr) (wn wcp:Nat) (sk fr to q:Int) (L:List Ln) (T:List Tk) (M:List Ln) (W:World) (hw:Words W) (hP:PgM W lp ln lcp L tp tn tcp T wp wn wcp M) (hok:Pgok ⟨3,od,po,L,T,M,sk,fr,to,q⟩) (h1:ln≤400∧tn≤400∧wn≤400) (hg:z0l 4 4 ⟨3,od,po,L,T,M,sk,fr,to,q⟩=true) :
 Calls Tryz.prog 48 #[.agg #[.int .u8 3,.int .u32 od,.int .u8 po,.slice lp ln lcp,.slice tp tn tcp,.slice wp wn wcp,.int .u8 sk,.int .u8 fr,.int .u8 to,.int .i64 q]] W (GivesS W (z0k ⟨3,od,po,L,T,M,sk,fr,to,q⟩)):=by
 rw [z3w (.inr (.inr (.inl rfl))) hok.takes hg,z9w (.inl rfl),List.append_nil]
 obtain⟨W1,hW1,hbx,hb1⟩:∃ W1,W.alloc (.cells #[.int .u8 3,.int .u32 od,.int .u8 po,.slice lp ln lcp,.slice tp tn tcp,.slice wp wn wcp,.int .u8 sk,.int .u8 fr,.int .u8 to,.int .i64 q] 26)=W1∧W1.heap[W.heap.size]?=some (.cells #[.int .u8 3,.int .u32 od,.int .u8 po,.slice lp ln lcp,.slice tp tn tcp,.slice wp wn wcp,.int .u8 sk,.int .u8 fr,.int .u8 to,.int .i64 q] 26 (0,0))∧Below W.heap.size W W1:=⟨_,rfl,z0c W _,(Below.refl _ _).alloc (Nat.le_refl _) _⟩
 have hgd:=z5v 4 4 3 od po lp ln lcp tp tn tcp wp wn wcp sk fr to q L T M W1 (hw.later hb1) (hP.later hb1) hok h1
 rw [hg] at hgd
 have HW1:=hid hW1
 have HB1:=hid hb1
 have HX:=hid hbx
 have HP:=hid (hP.later hb1)
 have HOK:=hid hok
 have HGG:=hid hg
 have H1:=hid h1
 have HLM:=hid hP.o.len
 have HC:=hid fun w' (h:Below W1.heap.size W1 w')=>z0d 3 od po lp ln lcp tp tn tcp wp wn wcp sk fr to q (z0b HX.out h)
 obtain⟨a0,a1,a2,a3,a4,a5,a6,a7,a8,a9⟩:=HC.out W1 (Below.refl _ _)
 clear hW1 hb1 hbx hP hok hg hw h1
 go_enter Tryz.func48,Tryz.ntmps48
 go_wp2_with fail
 rw [HW1.out]
 refine hgd.mono ?_
 rintro e w2 ⟨rfl,h2⟩
 have HB2:=hid h2
 clear hgd h2 a0 a1 a2 a3 a4 a5 a6 a7 a8 a9
 obtain⟨a0,a1,a2,a3,a4,a5,a6,a7,a8,a9⟩:=HC.out w2 HB2.out
 go_wp2_with fail
 refine (z4r 3 tp tn tcp T w2 (HP.out.later HB2.out).t (by have:=H1.out;omega)).mono ?_
 rintro e w3 ⟨v,H,rfl,hf⟩
 have HF:=hid (hf.gives)
 clear hf a0 a1 a2 a3 a4 a5 a6 a7 a8 a9
 go_wp2_with fail
 go_ret
 exact (HF.out.since HB2.out).since HB1.out
theorem steps4_p (od po:Int) (lp:Option Addr) (ln lcp:Nat) (tp:Option Addr) (tn tcp:Nat) (wp:Option Addr) (wn wcp:Nat) (sk fr to q:Int) (L:List Ln) (T:List Tk) (M:List Ln) (W:World) (hw:Words W) (hP:PgM W lp ln lcp L tp tn tcp T wp wn wcp M) (hok:Pgok ⟨4,od,po,L,T,M,sk,fr,to,q⟩) (h1:ln≤400∧tn≤400∧wn≤400) (hg:z0l 4 4 ⟨4,od,po,L,T,M,sk,fr,to,q⟩=true) :
 Calls Tryz.prog 48 #[.agg #[.int .u8 4,.int .u32 od,.int .u8 po,.slice lp ln lcp,.slice tp tn tcp,.slice wp wn wcp,.int .u8 sk,.int .u8 fr,.int .u8 to,.int .i64 q]] W (GivesS W (z0k ⟨4,od,po,L,T,M,sk,fr,to,q⟩)):=by
 rw [z3w (.inr (.inr (.inr rfl))) hok.takes hg,z9w (.inr rfl),List.append_nil]
 obtain⟨W1,hW1,hbx,hb1⟩:∃ W1,W.alloc (.cells #[.int .u8 4,.int .u32 od,.int .u8 po,.slice lp ln lcp,.slice tp tn tcp,.slice wp wn wcp,.int .u8 sk,.int .u8 fr,.int .u8 to,.int .i64 q] 26)=W1∧W1.heap[W.heap.size]?=some (.cells #[.int .u8 4,.int .u32 od,.int .u8 po,.slice lp ln lcp,.slice tp tn tcp,.slice wp wn wcp,.int .u8 sk,.int .u8 fr,.int .u8 to,.int .i64 q] 26 (0,0))∧Below W.heap.size W W1:=⟨_,rfl,z0c W _,(Below.refl _ _).alloc (Nat.le_refl _) _⟩
 have hgd:=z5v 4 4 4 od po lp ln lcp tp tn tcp wp wn wcp sk fr to q L T M W1 (hw.later hb1) (hP.later hb1) hok h1
 rw [hg] at hgd
 have HW1:=hid hW1
 have HB1:=hid hb1
 have HX:=hid hbx
 have HP:=hid (hP.later hb1)
 have HOK:=hid hok
 have HGG:=hid hg
 have H1:=hid h1
 have HLM:=hid hP.o.len
 have HC:=hid fun w' (h:Below W1.heap.size W1 w')=>z0d 4 od po lp ln lcp tp tn tcp wp wn wcp sk fr to q (z0b HX.out h)
 obtain⟨a0,a1,a2,a3,a4,a5,a6,a7,a8,a9⟩:=HC.out W1 (Below.refl _ _)
 clear hW1 hb1 hbx hP hok hg hw h1
 go_enter Tryz.func48,Tryz.ntmps48
 go_wp2_with fail
 rw [HW1.out]
 refine hgd.mono ?_
 rintro e w2 ⟨rfl,h2⟩
 have HB2:=hid h2
 clear hgd h2 a0 a1 a2 a3 a4 a5 a6 a7 a8 a9
 obtain⟨a0,a1,a2,a3,a4,a5,a6,a7,a8,a9⟩:=HC.out w2 HB2.out
 go_wp2_with fail
 refine (z4r 4 tp tn tcp T w2 (HP.out.later HB2.out).t (by have:=H1.out;omega)).mono ?_
 rintro e w3 ⟨v,H,rfl,hf⟩
 have HF:=hid (hf.gives)
 clear hf a0 a1 a2 a3 a4 a5 a6 a7 a8 a9
 go_wp2_with fail
 go_ret
 exact (HF.out.since HB2.out).since HB1.out
theorem steps5_p (od po:Int) (lp:Option Addr) (ln lcp:Nat) (tp:Option Addr) (tn tcp:Nat) (wp:Option Addr) (wn wcp:Nat) (sk fr to q:Int) (L:List Ln) (T:List Tk) (M:List Ln) (W:World) (hw:Words W) (hP:PgM W lp ln lcp L tp tn tcp T wp wn wcp M) (hok:Pgok ⟨5,od,po,L,T,M,sk,fr,to,q⟩) (h1:ln≤400∧tn≤400∧wn≤400) (hg:z0l 4 4 ⟨5,od,po,L,T,M,sk,fr,to,q⟩=true) :
 Calls Tryz.prog 48 #[.agg #[.int .u8 5,.int .u32 od,.int .u8 po,.slice lp ln lcp,.slice tp tn tcp,.slice wp wn wcp,.int .u8 sk,.int .u8 fr,.int .u8 to,.int .i64 q]] W (GivesS W (z0k ⟨5,od,po,L,T,M,sk,fr,to,q⟩)):=by
 obtain⟨W1,hW1,hbx,hb1⟩:∃ W1,W.alloc (.cells #[.int .u8 5,.int .u32 od,.int .u8 po,.slice lp ln lcp,.slice tp tn tcp,.slice wp wn wcp,.int .u8 sk,.int .u8 fr,.int .u8 to,.int .i64 q] 26)=W1∧W1.heap[W.heap.size]?=some (.cells #[.int .u8 5,.int .u32 od,.int .u8 po,.slice lp ln lcp,.slice tp tn tcp,.slice wp wn wcp,.int .u8 sk,.int .u8 fr,.int .u8 to,.int .i64 q] 26 (0,0))∧Below W.heap.size W W1:=⟨_,rfl,z0c W _,(Below.refl _ _).alloc (Nat.le_refl _) _⟩
 have hgd:=z5v 4 4 5 od po lp ln lcp tp tn tcp wp wn wcp sk fr to q L T M W1 (hw.later hb1) (hP.later hb1) hok h1
 rw [hg] at hgd
 have HW1:=hid hW1
 have HB1:=hid hb1
 have HX:=hid hbx
 have HP:=hid (hP.later hb1)
 have HOK:=hid hok
 have HGG:=hid hg
 have H1:=hid h1
 have HLM:=hid hP.o.len
 have HC:=hid fun w' (h:Below W1.heap.size W1 w')=>z0d 5 od po lp ln lcp tp tn tcp wp wn wcp sk fr to q (z0b HX.out h)
 obtain⟨a0,a1,a2,a3,a4,a5,a6,a7,a8,a9⟩:=HC.out W1 (Below.refl _ _)
 clear hW1 hb1 hbx hP hok hg hw h1
 go_enter Tryz.func48,Tryz.ntmps48
 go_wp2_with fail
 rw [HW1.out]
 refine hgd.mono ?_
 rintro e w2 ⟨rfl,h2⟩
 have HB2:=hid h2
 clear hgd h2 a0 a1 a2 a3 a4 a5 a6 a7 a8 a9
 obtain⟨a0,a1,a2,a3,a4,a5,a6,a7,a8,a9⟩:=HC.out w2 HB2.out
 have hrs:=restock_any od po lp ln lcp tp tn tcp wp wn wcp sk fr to q L T M w2 (HP.out.later HB2.out) HOK.out H1.out HGG.out
 go_wp2_with fail
 refine hrs.mono ?_
 rintro e w3 h3
 obtain⟨p,c,H,rfl,hs,hb⟩:=h3
 have HF:Hid (GivesS w2 (z0k ⟨5,od,po,L,T,M,sk,fr,to,q⟩) (.returned (.slice p (z0k ⟨5,od,po,L,T,M,sk,fr,to,q⟩).length c)) w3):=hid ⟨p,c,H,rfl,hs,hb⟩
 clear hrs hs hb a0 a1 a2 a3 a4 a5 a6 a7 a8 a9
 generalize z0k ⟨5,od,po,L,T,M,sk,fr,to,q⟩=SS at *
 go_wp2_with fail
 go_ret
 exact (HF.out.since HB2.out).since HB1.out
theorem steps6_p (od po:Int) (lp:Option Addr) (ln lcp:Nat) (tp:Option Addr) (tn tcp:Nat) (wp:Option Addr) (wn wcp:Nat) (sk fr to q:Int) (L:List Ln) (T:List Tk) (M:List Ln) (W:World) (hw:Words W) (hP:PgM W lp ln lcp L tp tn tcp T wp wn wcp M) (hok:Pgok ⟨6,od,po,L,T,M,sk,fr,to,q⟩) (h1:ln≤400∧tn≤400∧wn≤400) (hg:z0l 4 4 ⟨6,od,po,L,T,M,sk,fr,to,q⟩=true) :
 Calls Tryz.prog 48 #[.agg #[.int .u8 6,.int .u32 od,.int .u8 po,.slice lp ln lcp,.slice tp tn tcp,.slice wp wn wcp,.int .u8 sk,.int .u8 fr,.int .u8 to,.int .i64 q]] W (GivesS W (z0k ⟨6,od,po,L,T,M,sk,fr,to,q⟩)):=by
 rw [steps_six od po L T M sk fr to q hg]
 obtain⟨W1,hW1,hbx,hb1⟩:∃ W1,W.alloc (.cells #[.int .u8 6,.int .u32 od,.int .u8 po,.slice lp ln lcp,.slice tp tn tcp,.slice wp wn wcp,.int .u8 sk,.int .u8 fr,.int .u8 to,.int .i64 q] 26)=W1∧W1.heap[W.heap.size]?=some (.cells #[.int .u8 6,.int .u32 od,.int .u8 po,.slice lp ln lcp,.slice tp tn tcp,.slice wp wn wcp,.int .u8 sk,.int .u8 fr,.int .u8 to,.int .i64 q] 26 (0,0))∧Below W.heap.size W W1:=⟨_,rfl,z0c W _,(Below.refl _ _).alloc (Nat.le_refl _) _⟩
 have hgd:=z5v 4 4 6 od po lp ln lcp tp tn tcp wp wn wcp sk fr to q L T M W1 (hw.later hb1) (hP.later hb1) hok h1
 rw [hg] at hgd
 have HW1:=hid hW1
 have HB1:=hid hb1
 have HX:=hid hbx
 have HP:=hid (hP.later hb1)
 have HOK:=hid hok
 have HGG:=hid hg
 have H1:=hid h1
 have HLM:=hid hP.o.len
 have HC:=hid fun w' (h:Below W1.heap.size W1 w')=>z0d 6 od po lp ln lcp tp tn tcp wp wn wcp sk fr to q (z0b HX.out h)
 obtain⟨a0,a1,a2,a3,a4,a5,a6,a7,a8,a9⟩:=HC.out W1 (Below.refl _ _)
 clear hW1 hb1 hbx hP hok hg hw h1
 go_enter Tryz.func48,Tryz.ntmps48
 go_wp2_with fail
 rw [HW1.out]
 refine hgd.mono ?_
 rintro e w2 ⟨rfl,h2⟩
 have HB2:=hid h2
 clear hgd h2 a0 a1 a2 a3 a4 a5 a6 a7 a8 a9
 obtain⟨a0,a1,a2,a3,a4,a5,a6,a7,a8,a9⟩:=HC.out w2 HB2.out
 have hbd:Below W1.heap.size W1 w2.drew:=HB2.out.drew
 go_wp2_with fail
 refine wp_region_held_drew (S:=fun w'=>Hid (Below W1.heap.size W1 w')) (by kernel_rfl) (hid hbd) (fun hHeld=>?_)
 clear hbd
 refine wpAnyH_take (i:=0) (oi:=⟨some 40,_,_,_,_,_⟩) (v:=.pointer (some ⟨W.heap.size,7,none⟩)) rfl (by kernel_rfl) (by kernel_rfl) (by kernel_rfl) (fun _ _ _ h=>h) (Or.inl ⟨by rfl,fun w' hw'=>?_⟩) (by assumption) ?_
 · clear hHeld
   go_simp
 simp only [Act.put,sIB,sCZ,sCS]
 refine wpAnyH_take (i:=1) (oi:=⟨some 41,_,_,_,_,_⟩) (v:=.int .u8 fr) rfl (by kernel_rfl) (by kernel_rfl) (by kernel_rfl) (fun _ _ _ h=>h) (Or.inl ⟨by rfl,fun w' hw'=>?_⟩) (by assumption) ?_
 · obtain⟨g0,g1,g2,g3,g4,g5,g6,g7,g8,g9⟩:=HC.out w' hw'.out
   clear hHeld
   go_simp
 simp only [Act.put,sIB,sCZ,sCS]
 refine wpAnyH_take (i:=2) (oi:=⟨some 42,_,_,_,_,_⟩) (v:=.pointer (some ⟨W.heap.size,6,none⟩)) rfl (by kernel_rfl) (by kernel_rfl) (by kernel_rfl) (fun _ _ _ h=>h) (Or.inl ⟨by rfl,fun w' hw'=>?_⟩) (by assumption) ?_
 · clear hHeld
   go_simp
 simp only [Act.put,sIB,sCZ,sCS]
 refine wpAnyH_take (i:=3) (oi:=⟨some 43,_,_,_,_,_⟩) (v:=.int .u8 sk) rfl (by kernel_rfl) (by kernel_rfl) (by kernel_rfl) (fun _ _ _ h=>h) (Or.inl ⟨by rfl,fun w' hw'=>?_⟩) (by assumption) ?_
 · obtain⟨g0,g1,g2,g3,g4,g5,g6,g7,g8,g9⟩:=HC.out w' hw'.out
   clear hHeld
   go_simp
 simp only [Act.put,sIB,sCZ,sCS]
 refine wpAnyH_take (i:=4) (oi:=⟨some 44,_,_,_,_,_⟩) (v:=.pointer (some ⟨W.heap.size,9,none⟩)) rfl (by kernel_rfl) (by kernel_rfl) (by kernel_rfl) (fun _ _ _ h=>h) (Or.inl ⟨by rfl,fun w' hw'=>?_⟩) (by assumption) ?_
 · clear hHeld
   go_simp
 simp only [Act.put,sIB,sCZ,sCS]
 refine wpAnyH_take (i:=5) (oi:=⟨some 45,_,_,_,_,_⟩) (v:=.int .i64 q) rfl (by kernel_rfl) (by kernel_rfl) (by kernel_rfl) (fun _ _ _ h=>h) (Or.inl ⟨by rfl,fun w' hw'=>?_⟩) (by assumption) ?_
 · obtain⟨g0,g1,g2,g3,g4,g5,g6,g7,g8,g9⟩:=HC.out w' hw'.out
   clear hHeld
   go_simp
 simp only [Act.put,sIB,sCZ,sCS]
 refine wpAnyH_take (i:=7) (oi:=⟨some 47,_,_,_,_,_⟩) (v:=.pointer (some ⟨W.heap.size,8,none⟩)) rfl (by kernel_rfl) (by kernel_rfl) (by kernel_rfl) (fun _ _ _ h=>h) (Or.inl ⟨by rfl,fun w' hw'=>?_⟩) (by assumption) ?_
 · clear hHeld
   go_simp
 simp only [Act.put,sIB,sCZ,sCS]
 refine wpAnyH_take (i:=8) (oi:=⟨some 48,_,_,_,_,_⟩) (v:=.int .u8 to) rfl (by kernel_rfl) (by kernel_rfl) (by kernel_rfl) (fun _ _ _ h=>h) (Or.inl ⟨by rfl,fun w' hw'=>?_⟩) (by assumption) ?_
 · obtain⟨g0,g1,g2,g3,g4,g5,g6,g7,g8,g9⟩:=HC.out w' hw'.out
   clear hHeld
   go_simp
 simp only [Act.put,sIB,sCZ,sCS]
 refine wpAnyH_take (i:=9) (oi:=⟨some 49,_,_,_,_,_⟩) (v:=.pointer (some ⟨W.heap.size,6,none⟩)) rfl (by kernel_rfl) (by kernel_rfl) (by kernel_rfl) (fun _ _ _ h=>h) (Or.inl ⟨by rfl,fun w' hw'=>?_⟩) (by assumption) ?_
 · clear hHeld
   go_simp
 simp only [Act.put,sIB,sCZ,sCS]
 refine wpAnyH_take (i:=10) (oi:=⟨some 50,_,_,_,_,_⟩) (v:=.int .u8 sk) rfl (by kernel_rfl) (by kernel_rfl) (by kernel_rfl) (fun _ _ _ h=>h) (Or.inl ⟨by rfl,fun w' hw'=>?_⟩) (by assumption) ?_
 · obtain⟨g0,g1,g2,g3,g4,g5,g6,g7,g8,g9⟩:=HC.out w' hw'.out
   clear hHeld
   go_simp
 simp only [Act.put,sIB,sCZ,sCS]
 refine wpAnyH_take (i:=11) (oi:=⟨some 51,_,_,_,_,_⟩) (v:=.pointer (some ⟨W.heap.size,9,none⟩)) rfl (by kernel_rfl) (by kernel_rfl) (by kernel_rfl) (fun _ _ _ h=>h) (Or.inl ⟨by rfl,fun w' hw'=>?_⟩) (by assumption) ?_
 · clear hHeld
   go_simp
 simp only [Act.put,sIB,sCZ,sCS]
 refine wpAnyH_take (i:=12) (oi:=⟨some 52,_,_,_,_,_⟩) (v:=.int .i64 q) rfl (by kernel_rfl) (by kernel_rfl) (by kernel_rfl) (fun _ _ _ h=>h) (Or.inl ⟨by rfl,fun w' hw'=>?_⟩) (by assumption) ?_
 · obtain⟨g0,g1,g2,g3,g4,g5,g6,g7,g8,g9⟩:=HC.out w' hw'.out
   clear hHeld
   go_simp
 simp only [Act.put,sIB,sCZ,sCS]
 clear a0 a1 a2 a3 a4 a5 a6 a7 a8 a9
 generalize w2.drew=Wd at *
 refine wpAnyH_ready (rs:=[6]) (by kernel_rfl) (by simp) (AllReadyH.cons rfl (fun K hK=>?_) AllReadyH.nil)
 go_simp
 go_wp2_with fail
 refine (z5q 6 fr sk q _).mono ?_
 rintro e x7 ⟨p7,c7,rfl,hl7,hb7,ha7⟩
 have hH7:Hid (Below W1.heap.size W1 x7):=hid (hHeld.out.trans (hb7.mono hHeld.out.size))
 have HL7:=hid hl7
 have HAP7:=hid ha7
 have HBB7:=hid hb7
 clear hl7 hb7 ha7
 go_wp2_with fail
 refine hK.out _ _ hH7 (fun hHeld2=>?_)
 clear hH7
 clear hK K hHeld
 have hHeld:=hHeld2
 clear hHeld2
 try simp only [Act.put,sIB,sCZ,sCS]
 have HQ7:Hid (Below W1.heap.size W1 x7):=hHeld
 refine wpAnyH_ready (rs:=[13]) (by kernel_rfl) (by simp) (AllReadyH.cons rfl (fun K hK=>?_) AllReadyH.nil)
 go_simp
 go_wp2_with fail
 refine (z5q 5 to sk q _).mono ?_
 rintro e x8 ⟨p8,c8,rfl,hl8,hb8,ha8⟩
 have hH8:Hid (Below W1.heap.size W1 x8):=hid (hHeld.out.trans (hb8.mono hHeld.out.size))
 have HL8:=hid hl8
 have HAP8:=hid ha8
 have HBB8:=hid hb8
 clear hl8 hb8 ha8
 go_wp2_with fail
 refine hK.out _ _ hH8 (fun hHeld2=>?_)
 clear hH8
 clear hK K hHeld
 have hHeld:=hHeld2
 clear hHeld2
 try simp only [Act.put,sIB,sCZ,sCS]
 have HQ8:Hid (Below W1.heap.size W1 x8):=hHeld
 refine wpAnyH_ready (rs:=[14]) (by kernel_rfl) (by simp) (AllReadyH.cons rfl (fun K hK=>?_) AllReadyH.nil)
 go_simp
 have hFA:FillS W1 (x8.alloc (.cells #[.int .u8 6,.int .u8 fr,.slice p7 1 c7,.int .u8 5,.int .u8 to,.slice p8 1 c8] 52)) (.slice (some ⟨x8.heap.size,0,none⟩) 2 2) [hsOf 6 fr p7 1 c7,hsOf 5 to p8 1 c8] [(6,fr,[(sk,q)]),(5,to,[(sk,q)])] 2:=FillS.lit (m:=2) HQ8.out rfl rfl (by omega) ⟨⟨rfl,rfl,HL7.out.later HBB8.out⟩,⟨rfl,rfl,HL8.out⟩,trivial⟩
 have HFA:=hid hFA
 have hH9:=hid hFA.below
 clear hFA
 refine hK.out _ _ hH9 (fun hHeld2=>?_)
 clear hH9
 clear hK K hHeld
 have hHeld:=hHeld2
 clear hHeld2
 try simp only [Act.put,sIB,sCZ,sCS]
 refine wpAnyH_take (i:=15) (oi:=⟨some 2,_,_,_,_,_⟩) (v:=.slice (some ⟨x8.heap.size,0,none⟩) 2 2) rfl (by kernel_rfl) (by kernel_rfl) (by kernel_rfl) (fun _ _ _ h=>h) (Or.inl ⟨by rfl,fun w' hw'=>?_⟩) (by assumption) ?_
 · clear hHeld
   go_simp
 simp only [Act.put,sIB,sCZ,sCS]
 refine wpAnyH_done (by kernel_rfl) ?_ _
 clear hHeld
 go_wp2_with fail
 go_ret
 have hfin:=(HFA.out.gives).since HB1.out
 first | exact hfin | (simp only [sCZ,sCS];exact hfin) | (simp;exact hfin)
theorem q0y (k od po:Int) (lp:Option Addr) (ln lcp:Nat) (tp:Option Addr) (tn tcp:Nat) (wp:Option Addr) (wn wcp:Nat) (sk fr to q:Int) (L:List Ln) (T:List Tk) (M:List Ln) (W:World) (hw:Words W) (hP:PgM W lp ln lcp L tp tn tcp T wp wn wcp M) (hok:Pgok ⟨k,od,po,L,T,M,sk,fr,to,q⟩) (h1:ln≤400∧tn≤400∧wn≤400) :
 Calls Tryz.prog 48 #[.agg #[.int .u8 k,.int .u32 od,.int .u8 po,.slice lp ln lcp,.slice tp tn tcp,.slice wp wn wcp,.int .u8 sk,.int .u8 fr,.int .u8 to,.int .i64 q]] W (GivesS W (z0k ⟨k,od,po,L,T,M,sk,fr,to,q⟩)):=by
 cases hg:z0l 4 4 ⟨k,od,po,L,T,M,sk,fr,to,q⟩ with
 | false =>
  rw [steps_no hg]
  obtain⟨W1,hW1,hbx,hb1⟩:∃ W1,W.alloc (.cells #[.int .u8 k,.int .u32 od,.int .u8 po,.slice lp ln lcp,.slice tp tn tcp,.slice wp wn wcp,.int .u8 sk,.int .u8 fr,.int .u8 to,.int .i64 q] 26)=W1∧W1.heap[W.heap.size]?=some (.cells #[.int .u8 k,.int .u32 od,.int .u8 po,.slice lp ln lcp,.slice tp tn tcp,.slice wp wn wcp,.int .u8 sk,.int .u8 fr,.int .u8 to,.int .i64 q] 26 (0,0))∧Below W.heap.size W W1:=⟨_,rfl,z0c W _,(Below.refl _ _).alloc (Nat.le_refl _) _⟩
  have hgd:=z5v 4 4 k od po lp ln lcp tp tn tcp wp wn wcp sk fr to q L T M W1 (hw.later hb1) (hP.later hb1) hok h1
  rw [hg] at hgd
  have HW1:=hid hW1
  have HB1:=hid hb1
  obtain⟨a0,a1,a2,a3,a4,a5,a6,a7,a8,a9⟩:=z0d k od po lp ln lcp tp tn tcp wp wn wcp sk fr to q hbx
  clear hW1 hb1 hbx hP hok hg hw h1
  go_enter Tryz.func48,Tryz.ntmps48
  go_wp2_with fail
  rw [HW1.out]
  refine hgd.mono ?_
  rintro e w2 ⟨rfl,h2⟩
  have HB2:=hid h2
  clear hgd h2 a0 a1 a2 a3 a4 a5 a6 a7 a8 a9
  go_wp2_with fail
  go_ret
  exact gives_none (HB1.out.trans (HB2.out.mono HB1.out.size))
 | true =>
  by_cases k1:k=1
  · subst k1
    exact steps1_p od po lp ln lcp tp tn tcp wp wn wcp sk fr to q L T M W hw hP hok h1 hg
  by_cases k2:k=2
  · subst k2
    exact steps2_p od po lp ln lcp tp tn tcp wp wn wcp sk fr to q L T M W hw hP hok h1 hg
  by_cases k3:k=3
  · subst k3
    exact steps3_p od po lp ln lcp tp tn tcp wp wn wcp sk fr to q L T M W hw hP hok h1 hg
  by_cases k4:k=4
  · subst k4
    exact steps4_p od po lp ln lcp tp tn tcp wp wn wcp sk fr to q L T M W hw hP hok h1 hg
  by_cases k5:k=5
  · subst k5
    exact steps5_p od po lp ln lcp tp tn tcp wp wn wcp sk fr to q L T M W hw hP hok h1 hg
  by_cases k6:k=6
  · subst k6
    exact steps6_p od po lp ln lcp tp tn tcp wp wn wcp sk fr to q L T M W hw hP hok h1 hg
  have:=z6e (s:=4) (w:=4) (P:=⟨k,od,po,L,T,M,sk,fr,to,q⟩) ⟨k1,k2,k3,k4,k5,k6⟩
  rw [hg] at this
  cases this
end Go.Proofs.YtclbkfpbdidaiaaGreatDoor
