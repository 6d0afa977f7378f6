import Derived.Test.YtclbkfpbdidaiaaDoorPA25
import Derived.Test.YtclbkfpbdidaiaaDoorPA23
namespace Go.Proofs.YtclbkfpbdidaiaaDoor
open Go.Lib (hid)
set_option maxHeartbeats 2000000
open Go.RowKit Go.ChangeShapes Go.WideShapes
set_option linter.unusedVariables false
set_option maxRecDepth 10000
theorem named_any (t r:Int) (p:Option Addr) (n c:Nat) (x:Ln) (W:World) :
 Calls Tryd.prog 88 #[.agg #[.int .u8 t,.int .u8 r,.slice p n c],.agg #[.int .u8 x.1,.int .i64 x.2]] W fun e w'=>e=.returned (.agg #[.int .u8 (kindS t),.int .u8 x.1,.int .u8 r])∧Below W.heap.size W w':=by
 obtain⟨s,q⟩:=x
 dsimp only
 obtain⟨k,hk⟩:∃ k,kindS t=k:=⟨_,rfl⟩
 rw [hk]
 have hb3:Below W.heap.size W (((W.alloc (.cells #[.int .u8 t,.int .u8 r,.slice p n c] 24)).alloc (.cells #[.int .u8 s,.int .i64 q] 29)).alloc (.cells #[.int .u8 k,.int .u8 s,.int .u8 r] 42)):=by
  repeat (refine Below.alloc ?_ (by simp;try omega) _)
  exact Below.refl _ _
 have ha:=z0b ((W.alloc (.cells #[.int .u8 t,.int .u8 r,.slice p n c] 24)).alloc (.cells #[.int .u8 s,.int .i64 q] 29)) (.cells #[.int .u8 k,.int .u8 s,.int .u8 r] 42)
 simp only [World.size_alloc] at ha
 have HA:=hid ha
 have HB:=hid hb3
 clear ha hb3
 by_cases h7:t=7
 · subst h7
   obtain rfl:k=4:=by rw [← hk];rfl
   clear hk
   go_enter Tryd.func88,Tryd.ntmps88
   go_wp2_with fail
   refine bodyPost_ret (v:=.agg #[.int .u8 4,.int .u8 s,.int .u8 r]) ?_ rfl ⟨rfl,HB.out⟩
   exact results_cell_row rfl _ _ (W.heap.size+1+1) 42 _ (0,0) _ rfl HA.out Tryd.underlying42 rfl (by kernel_rfl)
 by_cases h8:t=8
 · subst h8
   obtain rfl:k=4:=by rw [← hk];rfl
   clear hk h7
   go_enter Tryd.func88,Tryd.ntmps88
   go_wp2_with fail
   refine bodyPost_ret (v:=.agg #[.int .u8 4,.int .u8 s,.int .u8 r]) ?_ rfl ⟨rfl,HB.out⟩
   exact results_cell_row rfl _ _ (W.heap.size+1+1) 42 _ (0,0) _ rfl HA.out Tryd.underlying42 rfl (by kernel_rfl)
 · obtain rfl:k=1:=by rw [← hk];unfold kindS;rw [if_neg (by omega)]
   have e7:(t==7)=false:=by simpa using h7
   have e8:(t==8)=false:=by simpa using h8
   clear hk h7 h8
   go_enter Tryd.func88,Tryd.ntmps88
   go_wp2_with fail
   refine bodyPost_ret (v:=.agg #[.int .u8 1,.int .u8 s,.int .u8 r]) ?_ rfl ⟨rfl,HB.out⟩
   exact results_cell_row rfl _ _ (W.heap.size+1+1) 42 _ (0,0) _ rfl HA.out Tryd.underlying42 rfl (by kernel_rfl)
theorem good_round {s w t r:Int} {L:List Ln} {n j:Nat} (hn:L.length=n) (hj:j<n) (h:z1t s L j=false∨z0o s w=false∨(if 7≤t then decide (r=0) else decide (r<w))=false):goodS s w t r L=false:=by
 rcases h with h | h | h
 · exact good_not s w t r L (.inr (.inr (.inr (lines_false s L j (by omega) h))))
 · exact good_not s w t r L (.inl h)
 · unfold goodS;rw [h];simp
theorem good_end {s w t r:Int} {L:List Ln} {n:Nat} (hn:L.length=n) (ht:1≤t∧t≤8) (h1:1≤n) (h3:n≤3) (h:∀ j,j<n→z1t s L j=true∧z0o s w=true∧(if 7≤t then decide (r=0) else decide (r<w))=true):goodS s w t r L=true:=by
 obtain⟨_,hs,hw⟩:=h 0 (by omega)
 unfold goodS
 rw [hs,hw,decide_eq_true ht,decide_eq_true (show 1≤L.length by omega),lines_true s L (fun j hj=>(h j (by omega)).1),decide_eq_true (show L.length≤3 by omega)]
 rfl
theorem word_empty (t:Int) (h0:0≤t):(wordB t.toNat).toList.isEmpty=!decide (1≤t∧t≤8):=by
 rw [ByteArray.toList_eq]
 by_cases h9:t<9
 · rcases (by omega:t=0∨t=1∨t=2∨t=3∨t=4∨t=5∨t=6∨t=7∨t=8) with rfl | rfl | rfl | rfl | rfl | rfl | rfl | rfl | rfl <;> rfl
 · rw [decide_eq_false (by omega)]
   have hk:wordB t.toNat=⟨#[]⟩:=by
    unfold wordB wordsL
    rw [List.getD,List.getElem?_eq_none (by simp;omega)];rfl
   rw [hk];rfl
theorem good_s (s w t r:Int) (p:Option Addr) (n c:Nat) (L:List Ln) (W:World) (hw:Words W) (hL:LL W p n c L) (hok:∀ x∈L,Lnok x) (ht:0≤t∧t≤255) (hr:0≤r∧r≤255) (hn:n≤1000) :
 Calls Tryd.prog 79 #[.int .i64 s,.int .i64 w,.agg #[.int .u8 t,.int .u8 r,.slice p n c]] W fun e w'=>e=.returned (.bool (goodS s w t r L))∧Below W.heap.size W w':=by
 have hb1:Below W.heap.size W (W.alloc (.cells #[.int .u8 t,.int .u8 r,.slice p n c] 24)):=(Below.refl _ _).alloc (Nat.le_refl _) _
 have hwd:=fun W hv=>tagword_any t ht.1 ht.2 W hv
 have hwe:=word_empty t ht.1
 have HW:=hid (hw.later hb1)
 have HN:=hid (good_not s w t r L)
 have HLN:=hid hL.len
 have HB:=hid hb1
 have HL:=hid (hL.later hb1)
 have HX:=hid (z0b W (.cells #[.int .u8 t,.int .u8 r,.slice p n c] 24))
 have HOK:=hid fun j (hj:j<n)=>lnok_at hok (show j<L.length by rw [hL.len];exact hj)
 obtain⟨ht0,ht1⟩:=ht
 obtain⟨hr0,hr1⟩:=hr
 have hcap:=hL.cap
 clear hL hok hb1 hw
 generalize wordB t.toNat=ss at *
 by_cases hg:1≤t∧t≤8
 case neg =>
  have HF:=hid (HN.out (.inr (.inl hg)))
  rw [decide_eq_false hg,Bool.not_false] at hwe
  clear hg
  go_enter Tryd.func79,Tryd.ntmps79
  go_wp2_with fail
  refine (hwd _ HW.out).mono ?_
  rintro e w' ⟨rfl,rfl⟩
  clear hwd
  go_wp2_with fail
  go_ret
  exact⟨by rw [HF.out];rfl,HB.out⟩
 rw [decide_eq_true hg,Bool.not_true] at hwe
 have HG:=hid hg
 have HNG:=hid fun x=>named_good s w t r x hr0 hg
 clear hg
 by_cases h1:n<1
 · have HF:=hid (HN.out (.inr (.inr (.inl (by rw [HLN.out];omega)))))
   obtain rfl:n=0:=by omega
   go_enter Tryd.func79,Tryd.ntmps79
   go_wp2_with fail
   refine (hwd _ HW.out).mono ?_
   rintro e w' ⟨rfl,rfl⟩
   clear hwd
   go_wp2_with fail
   go_ret
   exact⟨by rw [HF.out];rfl,HB.out⟩
 have h1n:decide (n<1)=false:=decide_eq_false h1
 have h1i:decide ((n:Int)<1)=false:=decide_eq_false (by omega)
 by_cases h3:3<n
 · have HF:=hid (HN.out (.inr (.inr (.inr (by unfold z0l;rw [HLN.out,decide_eq_false (show ¬ n≤3 by omega),Bool.and_false])))))
   have h3n:decide (3<n)=true:=decide_eq_true h3
   have h3i:decide (3<(n:Int))=true:=decide_eq_true (by omega)
   go_enter Tryd.func79,Tryd.ntmps79
   go_wp2_with fail
   refine (hwd _ HW.out).mono ?_
   rintro e w' ⟨rfl,rfl⟩
   clear hwd
   go_wp2_with fail
   go_ret
   exact⟨by rw [HF.out];rfl,HB.out⟩
 have h3n:decide (3<n)=false:=decide_eq_false h3
 have h3i:decide (3<(n:Int))=false:=decide_eq_false (by omega)
 have H1:=hid h1
 have H3:=hid h3
 clear h1 h3
 go_enter Tryd.func79,Tryd.ntmps79
 go_wp2_with fail
 refine (hwd _ HW.out).mono ?_
 rintro e w' ⟨rfl,rfl⟩
 clear hwd HN
 go_wp2_with fail
 clear hwe h1n h1i h3n h3i
 generalize W.alloc (.cells #[.int .u8 t,.int .u8 r,.slice p n c] 24)=W1 at *
 go_loopw [28] (fun i wr=>∃ j:Nat,j≤n∧i=.int .i64 j∧Hid (Below W1.heap.size W1 wr)∧Hid (∀ i,i<j→z1t s L i=true∧z0o s w=true∧(if 7≤t then decide (r=0) else decide (r<w))=true)) (fun i _=>n-(Go.RowKit.intOf i).toNat)
 case atStart=>exact⟨0,Nat.zero_le _,rfl,hid (Below.refl _ _),hid fun i hi=>by omega⟩
 case round =>
  obtain⟨j,hj,rfl,HBR,HE⟩:=hrel
  by_cases hlt:j<n
  case neg =>
   obtain rfl:j=n:=by omega
   have HF:=hid (good_end HLN.out HG.out (by have:=H1.out;omega) (by have:=H3.out;omega) HE.out)
   go_wp2_with fail
   go_ret
   exact⟨by rw [HF.out];rfl,HB.out.trans (HBR.out.mono HB.out.size)⟩
  have hlt':(j:Int)<n:=by omega
  obtain⟨b,off,rfl,_,c0,c1⟩:=z1o (HL.out.later HBR.out) hlt
  obtain⟨⟨hx0,hx1⟩,hx2,hx3⟩:=HOK.out j hlt
  have hlb:=lineB_at s L j _ rfl
  have HRD:=hid fun h=>good_round (t:=t) (r:=r) (s:=s) (w:=w) HLN.out hlt h
  have HPV:Hid (∀ k,k<n→∀ w',Below W1.heap.size W1 w'→w'.cell? ⟨b,off+k*2,none⟩=some (.int .u8 (L.getD k l0).1)):=hid fun k hk w' h=>by
   obtain⟨b',off',he,_,d0,_⟩:=z1o (HL.out.later h) hk
   cases he
   exact d0
  generalize L.getD j l0=x at *
  have hng:=HNG.out x
  obtain⟨a,q⟩:=x
  dsimp only at c0 c1 hx0 hx1 hx2 hx3 hlb hng
  have hnm:=fun W=>named_any t r (some ⟨b,off,none⟩) n c (a,q) W
  have hkg:=fun W=>good_any s w (kindS t) a r ⟨hx0,hx1⟩ ⟨hr0,hr1⟩ W
  rw [hng] at hkg
  have HLB:=hid hlb
  clear hng hlb
  have hba:Below wr.heap.size wr (wr.alloc (.cells #[.int .u8 a,.int .i64 q] 29)):=(Below.refl _ _).alloc (Nat.le_refl _) _
  have HBA:=hid (HBR.out.trans (hba.mono HBR.out.size))
  obtain⟨e0,e1,e2⟩:=z1h (z0c HX.out HBA.out)
  have hbl:=z0b wr (.cells #[.int .u8 a,.int .i64 q] 29)
  have f0:(wr.alloc (.cells #[.int .u8 a,.int .i64 q] 29)).cell? ⟨wr.heap.size,0,none⟩=some (.int .u8 a):=z0a hbl rfl
  have f1:(wr.alloc (.cells #[.int .u8 a,.int .i64 q] 29)).cell? ⟨wr.heap.size,1,none⟩=some (.int .i64 q):=z0a hbl rfl
  clear hba hbl
  have HPW:=hid fun k hk=>HPV.out k hk _ HBA.out
  go_wp2_with fail
  clear c0 c1 HPV
  generalize wr.alloc (.cells #[.int .u8 a,.int .i64 q] 29)=Wa at *
  generalize wr.heap.size=Y at *
  by_cases hj0:j=0
  · have hd3:decide (0<(j:Int))=false:=decide_eq_false (by omega)
    have hd3n:decide (0<j)=false:=decide_eq_false (by omega)
    have HR:Hid (z1t s L j=(decide (a<s) && decide (1≤q))):=hid (by rw [HLB.out,decide_eq_true hj0,Bool.true_or,Bool.and_true])
    clear hj0 HLB
    by_cases hq:q<1
    · have hd2:decide (q<1)=true:=decide_eq_true hq
      have HF:=hid (HRD.out (.inl (by rw [HR.out,decide_eq_false (show ¬ 1≤q by omega),Bool.and_false])))
      clear hq hnm hkg
      go_quiet (fail)
      go_wp2_with fail
      go_ret
      exact⟨by rw [HF.out];rfl,HB.out.trans ((z0j HBA.out _).mono HB.out.size)⟩
    have hd2:decide (q<1)=false:=decide_eq_false hq
    have hd2':decide (1≤q)=true:=decide_eq_true (by omega)
    rw [hd2',Bool.and_true] at HR
    clear hd2' hq
    generalize hwb:(if 7≤t then decide (r=0) else decide (r<w))=wb at *
    generalize hsb:z0o s w=sb at *
    cases hgv:(sb && decide (a<s) && wb) with
    | false =>
     have HF:=hid (HRD.out (by
      rw [HR.out]
      cases h5:decide (a<s) with
      | false=>exact .inl rfl
      | true =>
       rw [h5] at hgv
       cases sb <;> cases wb <;> simp at hgv ⊢))
     rw [hgv] at hkg
     clear hgv hwb hsb
     go_quiet (fail)
     go_wp2_with fail
     refine (hnm _).mono ?_
     rintro e w3 ⟨rfl,h3⟩
     have HB3:=hid ((z0j HBA.out _).trans (h3.mono (z0j HBA.out _).size))
     clear hnm h3
     go_wp2_with fail
     refine (hkg _).mono ?_
     rintro e w4 ⟨rfl,h4⟩
     have HB4:=hid (HB3.out.trans (h4.below.mono HB3.out.size))
     clear hkg h4
     go_wp2_with fail
     go_ret
     exact⟨by rw [HF.out];rfl,HB.out.trans (HB4.out.mono HB.out.size)⟩
    | true =>
     have HT:Hid (z1t s L j=true∧sb=true∧wb=true):=hid (by
      rw [HR.out]
      cases h5:decide (a<s) with
      | false=>rw [h5] at hgv;cases sb <;> cases wb <;> simp at hgv
      | true =>
       rw [h5] at hgv
       cases sb <;> cases wb <;> simp at hgv ⊢)
     rw [hgv] at hkg
     have HWB:=hid hwb
     have HSB:=hid hsb
     clear hgv hwb hsb HRD
     go_quiet (fail)
     go_wp2_with fail
     refine (hnm _).mono ?_
     rintro e w3 ⟨rfl,h3⟩
     have HB3:=hid ((z0j HBA.out _).trans (h3.mono (z0j HBA.out _).size))
     clear hnm h3
     go_wp2_with fail
     refine (hkg _).mono ?_
     rintro e w4 ⟨rfl,h4⟩
     have HB4:=hid (HB3.out.trans (h4.below.mono HB3.out.size))
     clear hkg h4
     go_wp2_with fail
     go_roundw
     case rel =>
      refine⟨j+1,by omega,by go_num,HB4,hid fun i hi=>?_⟩
      rw [HSB.out,HWB.out]
      by_cases e:i=j
      · subst e;exact HT.out
      · exact HE.out i (by omega)
     case measure=>simp [Go.RowKit.intOf];omega
  obtain⟨k,hk⟩:∃ k,j=k+1:=⟨j-1,by omega⟩
  have d0:=HPW.out k (by omega)
  have hj1:j-1=k:=by omega
  have hji:(j:Int)-1=k:=by omega
  have hd3:decide (0<(j:Int))=true:=decide_eq_true (by omega)
  have hd3n:decide (0<j)=true:=decide_eq_true (by omega)
  have hkn:(k:Int)<n:=by omega
  rw [hj1] at HLB
  generalize (L.getD k l0).1=y at *
  clear hj1
  by_cases hy:a≤y
  · have hd4:decide (a≤y)=true:=decide_eq_true hy
    have HF:=hid (HRD.out (.inl (by rw [HLB.out,decide_eq_false hj0,decide_eq_false (show ¬ y<a by omega)];simp)))
    clear hk hj0 hy hnm hkg
    go_quiet (fail)
    go_wp2_with fail
    go_ret
    exact⟨by rw [HF.out];rfl,HB.out.trans ((z0j HBA.out _).mono HB.out.size)⟩
  have hd4:decide (a≤y)=false:=decide_eq_false hy
  have HR:Hid (z1t s L j=(decide (a<s) && decide (1≤q))):=hid (by rw [HLB.out,decide_eq_true (show y<a by omega),Bool.or_true,Bool.and_true])
  clear hk hj0 hy HLB
  by_cases hq:q<1
  · have hd2:decide (q<1)=true:=decide_eq_true hq
    have HF:=hid (HRD.out (.inl (by rw [HR.out,decide_eq_false (show ¬ 1≤q by omega),Bool.and_false])))
    clear hq hnm hkg
    go_quiet (fail)
    go_wp2_with fail
    go_ret
    exact⟨by rw [HF.out];rfl,HB.out.trans ((z0j HBA.out _).mono HB.out.size)⟩
  have hd2:decide (q<1)=false:=decide_eq_false hq
  have hd2':decide (1≤q)=true:=decide_eq_true (by omega)
  rw [hd2',Bool.and_true] at HR
  clear hd2' hq
  generalize hwb:(if 7≤t then decide (r=0) else decide (r<w))=wb at *
  generalize hsb:z0o s w=sb at *
  cases hgv:(sb && decide (a<s) && wb) with
  | false =>
   have HF:=hid (HRD.out (by
    rw [HR.out]
    cases h5:decide (a<s) with
    | false=>exact .inl rfl
    | true =>
     rw [h5] at hgv
     cases sb <;> cases wb <;> simp at hgv ⊢))
   rw [hgv] at hkg
   clear hgv hwb hsb
   go_quiet (fail)
   go_wp2_with fail
   refine (hnm _).mono ?_
   rintro e w3 ⟨rfl,h3⟩
   have HB3:=hid ((z0j HBA.out _).trans (h3.mono (z0j HBA.out _).size))
   clear hnm h3
   go_wp2_with fail
   refine (hkg _).mono ?_
   rintro e w4 ⟨rfl,h4⟩
   have HB4:=hid (HB3.out.trans (h4.below.mono HB3.out.size))
   clear hkg h4
   go_wp2_with fail
   go_ret
   exact⟨by rw [HF.out];rfl,HB.out.trans (HB4.out.mono HB.out.size)⟩
  | true =>
   have HT:Hid (z1t s L j=true∧sb=true∧wb=true):=hid (by
    rw [HR.out]
    cases h5:decide (a<s) with
    | false=>rw [h5] at hgv;cases sb <;> cases wb <;> simp at hgv
    | true =>
     rw [h5] at hgv
     cases sb <;> cases wb <;> simp at hgv ⊢)
   rw [hgv] at hkg
   have HWB:=hid hwb
   have HSB:=hid hsb
   clear hgv hwb hsb HRD
   go_quiet (fail)
   go_wp2_with fail
   refine (hnm _).mono ?_
   rintro e w3 ⟨rfl,h3⟩
   have HB3:=hid ((z0j HBA.out _).trans (h3.mono (z0j HBA.out _).size))
   clear hnm h3
   go_wp2_with fail
   refine (hkg _).mono ?_
   rintro e w4 ⟨rfl,h4⟩
   have HB4:=hid (HB3.out.trans (h4.below.mono HB3.out.size))
   clear hkg h4
   go_wp2_with fail
   go_roundw
   case rel =>
    refine⟨j+1,by omega,by go_num,HB4,hid fun i hi=>?_⟩
    rw [HSB.out,HWB.out]
    by_cases e:i=j
    · subst e;exact HT.out
    · exact HE.out i (by omega)
   case measure=>simp [Go.RowKit.intOf];omega
def fiA (sk to:Int) (x:Tk):Bool:=decide (x.1≠0) && decide (x.2.1=sk) && decide (x.2.2.1=to) && decide (1≤x.2.2.2)
theorem fillAt_eq (sk to:Int) (T:List Tk) (j:Nat):fillAt sk to T j=(fiA sk to (T.getD j tk0) && (List.range j).all fun k=>decide ((T.getD k tk0).1≠(T.getD j tk0).1)):=rfl
theorem ask1 (s w od po:Int) (L:List Ln) (T:List Tk) (M:List Ln) (sk fr to q:Int):askP s w ⟨1,od,po,L,T,M,sk,fr,to,q⟩=(decide (od≠0) && decide (po≤1) && decide (1≤L.length) && z0l s L && z0p s w od T && z0l s M && coverB T M L && (decide (po=0) || decide (M.length=0))):=rfl
theorem qof1 (od po:Int) (L:List Ln) (T:List Tk) (M:List Ln) (sk fr to q:Int):qofP ⟨1,od,po,L,T,M,sk,fr,to,q⟩=⟨1,od,po,L,T,M,0,0,0,0⟩:=rfl
theorem ask2 (s w od po:Int) (L:List Ln) (T:List Tk) (M:List Ln) (sk fr to q:Int):askP s w ⟨2,od,po,L,T,M,sk,fr,to,q⟩=(decide (od≠0) && z0p s w od T && z0l s M && decide (1≤T.length+M.length)):=rfl
theorem qof2 (od po:Int) (L:List Ln) (T:List Tk) (M:List Ln) (sk fr to q:Int):qofP ⟨2,od,po,L,T,M,sk,fr,to,q⟩=⟨2,od,0,[],T,M,0,0,0,0⟩:=rfl
theorem ask3 (s w od po:Int) (L:List Ln) (T:List Tk) (M:List Ln) (sk fr to q:Int):askP s w ⟨3,od,po,L,T,M,sk,fr,to,q⟩=(decide (od≠0) && z0p s w od T && decide (1≤T.length)):=rfl
theorem qof3 (od po:Int) (L:List Ln) (T:List Tk) (M:List Ln) (sk fr to q:Int):qofP ⟨3,od,po,L,T,M,sk,fr,to,q⟩=⟨3,od,0,[],T,[],0,0,0,0⟩:=rfl
theorem ask4 (s w od po:Int) (L:List Ln) (T:List Tk) (M:List Ln) (sk fr to q:Int):askP s w ⟨4,od,po,L,T,M,sk,fr,to,q⟩=(decide (od≠0) && z0p s w od T && decide (1≤T.length)):=rfl
theorem qof4 (od po:Int) (L:List Ln) (T:List Tk) (M:List Ln) (sk fr to q:Int):qofP ⟨4,od,po,L,T,M,sk,fr,to,q⟩=⟨4,od,0,[],T,[],0,0,0,0⟩:=rfl
theorem ask5 (s w od po:Int) (L:List Ln) (T:List Tk) (M:List Ln) (sk fr to q:Int):askP s w ⟨5,od,po,L,T,M,sk,fr,to,q⟩=(decide (sk<s) && decide (to<w) && decide (1≤q) && z1x sk to q T):=rfl
theorem qof5 (od po:Int) (L:List Ln) (T:List Tk) (M:List Ln) (sk fr to q:Int):qofP ⟨5,od,po,L,T,M,sk,fr,to,q⟩=⟨5,0,0,[],T,[],sk,0,to,q⟩:=rfl
end Go.Proofs.YtclbkfpbdidaiaaDoor
