import Derived.Test.YtclbkfpbdidaiaaGreatDoorPA23
import Derived.Test.YtclbkfpbdidaiaaGreatDoorPA21
namespace Go.Proofs.YtclbkfpbdidaiaaGreatDoor
open Go.Lib (hid)
set_option maxHeartbeats 8000000
open Go.RowKit Go.ChangeShapes Go.WideShapes
set_option linter.unusedVariables false
set_option maxRecDepth 10000
theorem named_any (t r:Int) (p:Option Addr) (n c:Nat) (x:Ln) (W:World) :
 Calls Tryz.prog 156 #[.agg #[.int .u8 t,.int .u8 r,.slice p n c],.agg #[.int .u8 x.1,.int .i64 x.2]] W fun e w'=>e=.returned (.agg #[.int .u8 (kindS t),.int .u8 x.1,.int .u8 r])∧Below W.heap.size W w':=by
 obtain⟨s,q⟩:=x
 dsimp only
 obtain⟨k,hk⟩:∃ k,kindS t=k:=⟨_,rfl⟩
 rw [hk]
 have hb3:Below W.heap.size W (((W.alloc (.cells #[.int .u8 t,.int .u8 r,.slice p n c] 52)).alloc (.cells #[.int .u8 s,.int .i64 q] 76)).alloc (.cells #[.int .u8 k,.int .u8 s,.int .u8 r] 40)):=by
  repeat (refine Below.alloc ?_ (by simp;try omega) _)
  exact Below.refl _ _
 have ha:=z0c ((W.alloc (.cells #[.int .u8 t,.int .u8 r,.slice p n c] 52)).alloc (.cells #[.int .u8 s,.int .i64 q] 76)) (.cells #[.int .u8 k,.int .u8 s,.int .u8 r] 40)
 simp only [World.size_alloc] at ha
 have HA:=hid ha
 have HB:=hid hb3
 clear ha hb3
 by_cases h7:t=7
 · subst h7
   obtain rfl:k=4:=by rw [← hk];rfl
   clear hk
   go_enter Tryz.func156,Tryz.ntmps156
   go_wp2_with fail
   refine bodyPost_ret (v:=.agg #[.int .u8 4,.int .u8 s,.int .u8 r]) ?_ rfl ⟨rfl,HB.out⟩
   exact results_cell_row rfl _ _ (W.heap.size+1+1) 40 _ (0,0) _ rfl HA.out Tryz.underlying40 rfl (by kernel_rfl)
 by_cases h8:t=8
 · subst h8
   obtain rfl:k=4:=by rw [← hk];rfl
   clear hk h7
   go_enter Tryz.func156,Tryz.ntmps156
   go_wp2_with fail
   refine bodyPost_ret (v:=.agg #[.int .u8 4,.int .u8 s,.int .u8 r]) ?_ rfl ⟨rfl,HB.out⟩
   exact results_cell_row rfl _ _ (W.heap.size+1+1) 40 _ (0,0) _ rfl HA.out Tryz.underlying40 rfl (by kernel_rfl)
 · obtain rfl:k=1:=by rw [← hk];unfold kindS;rw [if_neg (by omega)]
   have e7:(t==7)=false:=by simpa using h7
   have e8:(t==8)=false:=by simpa using h8
   clear hk h7 h8
   go_enter Tryz.func156,Tryz.ntmps156
   go_wp2_with fail
   refine bodyPost_ret (v:=.agg #[.int .u8 1,.int .u8 s,.int .u8 r]) ?_ rfl ⟨rfl,HB.out⟩
   exact results_cell_row rfl _ _ (W.heap.size+1+1) 40 _ (0,0) _ rfl HA.out Tryz.underlying40 rfl (by kernel_rfl)
theorem good_round {s w t r:Int} {L:List Ln} {n j:Nat} (hn:L.length=n) (hj:j<n) (h:lineB s L j=false∨z0q s w=false∨(if 7≤t then decide (r=0) else decide (r<w))=false):goodS s w t r L=false:=by
 rcases h with h | h | h
 · exact good_not s w t r L (.inr (.inr (.inr (lines_false s L j (by omega) h))))
 · exact good_not s w t r L (.inl h)
 · unfold goodS;rw [h];simp
theorem good_end {s w t r:Int} {L:List Ln} {n:Nat} (hn:L.length=n) (ht:1≤t∧t≤8) (h1:1≤n) (h3:n≤3) (h:∀ j,j<n→lineB s L j=true∧z0q s w=true∧(if 7≤t then decide (r=0) else decide (r<w))=true):goodS s w t r L=true:=by
 obtain⟨_,hs,hw⟩:=h 0 (by omega)
 unfold goodS
 rw [hs,hw,decide_eq_true ht,decide_eq_true (show 1≤L.length by omega),lines_true s L (fun j hj=>(h j (by omega)).1),decide_eq_true (show L.length≤3 by omega)]
 rfl
theorem word_empty (t:Int) (h0:0≤t):(wordB t.toNat).toList.isEmpty=!decide (1≤t∧t≤8):=by
 rw [ByteArray.toList_eq]
 by_cases h9:t<9
 · rcases (by omega:t=0∨t=1∨t=2∨t=3∨t=4∨t=5∨t=6∨t=7∨t=8) with rfl | rfl | rfl | rfl | rfl | rfl | rfl | rfl | rfl <;> rfl
 · rw [decide_eq_false (by omega)]
   have hk:wordB t.toNat=⟨#[]⟩:=by
    unfold wordB wordsL
    rw [List.getD,List.getElem?_eq_none (by simp;omega)];rfl
   rw [hk];rfl
theorem good_s (s w t r:Int) (p:Option Addr) (n c:Nat) (L:List Ln) (W:World) (hw:Words W) (hL:LL W p n c L) (hok:∀ x∈L,Lnok x) (ht:0≤t∧t≤255) (hr:0≤r∧r≤255) (hn:n≤1000) :
 Calls Tryz.prog 147 #[.int .i64 s,.int .i64 w,.agg #[.int .u8 t,.int .u8 r,.slice p n c]] W fun e w'=>e=.returned (.bool (goodS s w t r L))∧Below W.heap.size W w':=by
 have hb1:Below W.heap.size W (W.alloc (.cells #[.int .u8 t,.int .u8 r,.slice p n c] 52)):=(Below.refl _ _).alloc (Nat.le_refl _) _
 have hwd:=fun W hv=>tagword_any t ht.1 ht.2 W hv
 have hwe:=word_empty t ht.1
 have HW:=hid (hw.later hb1)
 have HN:=hid (good_not s w t r L)
 have HLN:=hid hL.len
 have HB:=hid hb1
 have HL:=hid (hL.later hb1)
 have HX:=hid (z0c W (.cells #[.int .u8 t,.int .u8 r,.slice p n c] 52))
 have HOK:=hid fun j (hj:j<n)=>lnok_at hok (show j<L.length by rw [hL.len];exact hj)
 obtain⟨ht0,ht1⟩:=ht
 obtain⟨hr0,hr1⟩:=hr
 have hcap:=hL.cap
 clear hL hok hb1 hw
 generalize wordB t.toNat=ss at *
 by_cases hg:1≤t∧t≤8
 case neg =>
  have HF:=hid (HN.out (.inr (.inl hg)))
  rw [decide_eq_false hg,Bool.not_false] at hwe
  clear hg
  go_enter Tryz.func147,Tryz.ntmps147
  go_wp2_with fail
  refine (hwd _ HW.out).mono ?_
  rintro e w' ⟨rfl,rfl⟩
  clear hwd
  go_wp2_with fail
  go_ret
  exact⟨by rw [HF.out];rfl,HB.out⟩
 rw [decide_eq_true hg,Bool.not_true] at hwe
 have HG:=hid hg
 have HNG:=hid fun x=>named_good s w t r x hr0 hg
 clear hg
 by_cases h1:n<1
 · have HF:=hid (HN.out (.inr (.inr (.inl (by rw [HLN.out];omega)))))
   obtain rfl:n=0:=by omega
   go_enter Tryz.func147,Tryz.ntmps147
   go_wp2_with fail
   refine (hwd _ HW.out).mono ?_
   rintro e w' ⟨rfl,rfl⟩
   clear hwd
   go_wp2_with fail
   go_ret
   exact⟨by rw [HF.out];rfl,HB.out⟩
 have h1n:decide (n<1)=false:=decide_eq_false h1
 have h1i:decide ((n:Int)<1)=false:=decide_eq_false (by omega)
 by_cases h3:3<n
 · have HF:=hid (HN.out (.inr (.inr (.inr (by unfold z0s;rw [HLN.out,decide_eq_false (show ¬ n≤3 by omega),Bool.and_false])))))
   have h3n:decide (3<n)=true:=decide_eq_true h3
   have h3i:decide (3<(n:Int))=true:=decide_eq_true (by omega)
   go_enter Tryz.func147,Tryz.ntmps147
   go_wp2_with fail
   refine (hwd _ HW.out).mono ?_
   rintro e w' ⟨rfl,rfl⟩
   clear hwd
   go_wp2_with fail
   go_ret
   exact⟨by rw [HF.out];rfl,HB.out⟩
 have h3n:decide (3<n)=false:=decide_eq_false h3
 have h3i:decide (3<(n:Int))=false:=decide_eq_false (by omega)
 have H1:=hid h1
 have H3:=hid h3
 clear h1 h3
 go_enter Tryz.func147,Tryz.ntmps147
 go_wp2_with fail
 refine (hwd _ HW.out).mono ?_
 rintro e w' ⟨rfl,rfl⟩
 clear hwd HN
 go_wp2_with fail
 clear hwe h1n h1i h3n h3i
 generalize W.alloc (.cells #[.int .u8 t,.int .u8 r,.slice p n c] 52)=W1 at *
 go_loopw [28] (fun i wr=>∃ j:Nat,j≤n∧i=.int .i64 j∧Hid (Below W1.heap.size W1 wr)∧Hid (∀ i,i<j→lineB s L i=true∧z0q s w=true∧(if 7≤t then decide (r=0) else decide (r<w))=true)) (fun i _=>n-(Go.RowKit.intOf i).toNat)
 case atStart=>exact⟨0,Nat.zero_le _,rfl,hid (Below.refl _ _),hid fun i hi=>by omega⟩
 case round =>
  obtain⟨j,hj,rfl,HBR,HE⟩:=hrel
  by_cases hlt:j<n
  case neg =>
   obtain rfl:j=n:=by omega
   have HF:=hid (good_end HLN.out HG.out (by have:=H1.out;omega) (by have:=H3.out;omega) HE.out)
   go_wp2_with fail
   go_ret
   exact⟨by rw [HF.out];rfl,HB.out.trans (HBR.out.mono HB.out.size)⟩
  have hlt':(j:Int)<n:=by omega
  obtain⟨b,off,rfl,_,c0,c1⟩:=z1j (HL.out.later HBR.out) hlt
  obtain⟨⟨hx0,hx1⟩,hx2,hx3⟩:=HOK.out j hlt
  have hlb:=lineB_at s L j _ rfl
  have HRD:=hid fun h=>good_round (t:=t) (r:=r) (s:=s) (w:=w) HLN.out hlt h
  have HPV:Hid (∀ k,k<n→∀ w',Below W1.heap.size W1 w'→w'.cell? ⟨b,off+k*2,none⟩=some (.int .u8 (L.getD k l0).1)):=hid fun k hk w' h=>by
   obtain⟨b',off',he,_,d0,_⟩:=z1j (HL.out.later h) hk
   cases he
   exact d0
  generalize L.getD j l0=x at *
  have hng:=HNG.out x
  obtain⟨a,q⟩:=x
  dsimp only at c0 c1 hx0 hx1 hx2 hx3 hlb hng
  have hnm:=fun W=>named_any t r (some ⟨b,off,none⟩) n c (a,q) W
  have hkg:=fun W=>good_any s w (kindS t) a r ⟨hx0,hx1⟩ ⟨hr0,hr1⟩ W
  rw [hng] at hkg
  have HLB:=hid hlb
  clear hng hlb
  have hba:Below wr.heap.size wr (wr.alloc (.cells #[.int .u8 a,.int .i64 q] 76)):=(Below.refl _ _).alloc (Nat.le_refl _) _
  have HBA:=hid (HBR.out.trans (hba.mono HBR.out.size))
  obtain⟨e0,e1,e2⟩:=z1m (z0b HX.out HBA.out)
  have hbl:=z0c wr (.cells #[.int .u8 a,.int .i64 q] 76)
  have f0:(wr.alloc (.cells #[.int .u8 a,.int .i64 q] 76)).cell? ⟨wr.heap.size,0,none⟩=some (.int .u8 a):=z0a hbl rfl
  have f1:(wr.alloc (.cells #[.int .u8 a,.int .i64 q] 76)).cell? ⟨wr.heap.size,1,none⟩=some (.int .i64 q):=z0a hbl rfl
  clear hba hbl
  have HPW:=hid fun k hk=>HPV.out k hk _ HBA.out
  go_wp2_with fail
  clear c0 c1 HPV
  generalize wr.alloc (.cells #[.int .u8 a,.int .i64 q] 76)=Wa at *
  generalize wr.heap.size=Y at *
  by_cases hj0:j=0
  · have hd3:decide (0<(j:Int))=false:=decide_eq_false (by omega)
    have hd3n:decide (0<j)=false:=decide_eq_false (by omega)
    have HR:Hid (lineB s L j=(decide (a<s) && decide (1≤q))):=hid (by rw [HLB.out,decide_eq_true hj0,Bool.true_or,Bool.and_true])
    clear hj0 HLB
    by_cases hq:q<1
    · have hd2:decide (q<1)=true:=decide_eq_true hq
      have HF:=hid (HRD.out (.inl (by rw [HR.out,decide_eq_false (show ¬ 1≤q by omega),Bool.and_false])))
      clear hq hnm hkg
      go_quiet (fail)
      go_wp2_with fail
      go_ret
      exact⟨by rw [HF.out];rfl,HB.out.trans ((z0i HBA.out _).mono HB.out.size)⟩
    have hd2:decide (q<1)=false:=decide_eq_false hq
    have hd2':decide (1≤q)=true:=decide_eq_true (by omega)
    rw [hd2',Bool.and_true] at HR
    clear hd2' hq
    generalize hwb:(if 7≤t then decide (r=0) else decide (r<w))=wb at *
    generalize hsb:z0q s w=sb at *
    cases hgv:(sb && decide (a<s) && wb) with
    | false =>
     have HF:=hid (HRD.out (by
      rw [HR.out]
      cases h5:decide (a<s) with
      | false=>exact .inl rfl
      | true =>
       rw [h5] at hgv
       cases sb <;> cases wb <;> simp at hgv ⊢))
     rw [hgv] at hkg
     clear hgv hwb hsb
     go_quiet (fail)
     go_wp2_with fail
     refine (hnm _).mono ?_
     rintro e w3 ⟨rfl,h3⟩
     have HB3:=hid ((z0i HBA.out _).trans (h3.mono (z0i HBA.out _).size))
     clear hnm h3
     go_wp2_with fail
     refine (hkg _).mono ?_
     rintro e w4 ⟨rfl,h4⟩
     have HB4:=hid (HB3.out.trans (h4.below.mono HB3.out.size))
     clear hkg h4
     go_wp2_with fail
     go_ret
     exact⟨by rw [HF.out];rfl,HB.out.trans (HB4.out.mono HB.out.size)⟩
    | true =>
     have HT:Hid (lineB s L j=true∧sb=true∧wb=true):=hid (by
      rw [HR.out]
      cases h5:decide (a<s) with
      | false=>rw [h5] at hgv;cases sb <;> cases wb <;> simp at hgv
      | true =>
       rw [h5] at hgv
       cases sb <;> cases wb <;> simp at hgv ⊢)
     rw [hgv] at hkg
     have HWB:=hid hwb
     have HSB:=hid hsb
     clear hgv hwb hsb HRD
     go_quiet (fail)
     go_wp2_with fail
     refine (hnm _).mono ?_
     rintro e w3 ⟨rfl,h3⟩
     have HB3:=hid ((z0i HBA.out _).trans (h3.mono (z0i HBA.out _).size))
     clear hnm h3
     go_wp2_with fail
     refine (hkg _).mono ?_
     rintro e w4 ⟨rfl,h4⟩
     have HB4:=hid (HB3.out.trans (h4.below.mono HB3.out.size))
     clear hkg h4
     go_wp2_with fail
     go_roundw
     case rel =>
      refine⟨j+1,by omega,by go_num,HB4,hid fun i hi=>?_⟩
      rw [HSB.out,HWB.out]
      by_cases e:i=j
      · subst e;exact HT.out
      · exact HE.out i (by omega)
     case measure=>simp [Go.RowKit.intOf];omega
  obtain⟨k,hk⟩:∃ k,j=k+1:=⟨j-1,by omega⟩
  have d0:=HPW.out k (by omega)
  have hj1:j-1=k:=by omega
  have hji:(j:Int)-1=k:=by omega
  have hd3:decide (0<(j:Int))=true:=decide_eq_true (by omega)
  have hd3n:decide (0<j)=true:=decide_eq_true (by omega)
  have hkn:(k:Int)<n:=by omega
  rw [hj1] at HLB
  generalize (L.getD k l0).1=y at *
  clear hj1
  by_cases hy:a≤y
  · have hd4:decide (a≤y)=true:=decide_eq_true hy
    have HF:=hid (HRD.out (.inl (by rw [HLB.out,decide_eq_false hj0,decide_eq_false (show ¬ y<a by omega)];simp)))
    clear hk hj0 hy hnm hkg
    go_quiet (fail)
    go_wp2_with fail
    go_ret
    exact⟨by rw [HF.out];rfl,HB.out.trans ((z0i HBA.out _).mono HB.out.size)⟩
  have hd4:decide (a≤y)=false:=decide_eq_false hy
  have HR:Hid (lineB s L j=(decide (a<s) && decide (1≤q))):=hid (by rw [HLB.out,decide_eq_true (show y<a by omega),Bool.or_true,Bool.and_true])
  clear hk hj0 hy HLB
  by_cases hq:q<1
  · have hd2:decide (q<1)=true:=decide_eq_true hq
    have HF:=hid (HRD.out (.inl (by rw [HR.out,decide_eq_false (show ¬ 1≤q by omega),Bool.and_false])))
    clear hq hnm hkg
    go_quiet (fail)
    go_wp2_with fail
    go_ret
    exact⟨by rw [HF.out];rfl,HB.out.trans ((z0i HBA.out _).mono HB.out.size)⟩
  have hd2:decide (q<1)=false:=decide_eq_false hq
  have hd2':decide (1≤q)=true:=decide_eq_true (by omega)
  rw [hd2',Bool.and_true] at HR
  clear hd2' hq
  generalize hwb:(if 7≤t then decide (r=0) else decide (r<w))=wb at *
  generalize hsb:z0q s w=sb at *
  cases hgv:(sb && decide (a<s) && wb) with
  | false =>
   have HF:=hid (HRD.out (by
    rw [HR.out]
    cases h5:decide (a<s) with
    | false=>exact .inl rfl
    | true =>
     rw [h5] at hgv
     cases sb <;> cases wb <;> simp at hgv ⊢))
   rw [hgv] at hkg
   clear hgv hwb hsb
   go_quiet (fail)
   go_wp2_with fail
   refine (hnm _).mono ?_
   rintro e w3 ⟨rfl,h3⟩
   have HB3:=hid ((z0i HBA.out _).trans (h3.mono (z0i HBA.out _).size))
   clear hnm h3
   go_wp2_with fail
   refine (hkg _).mono ?_
   rintro e w4 ⟨rfl,h4⟩
   have HB4:=hid (HB3.out.trans (h4.below.mono HB3.out.size))
   clear hkg h4
   go_wp2_with fail
   go_ret
   exact⟨by rw [HF.out];rfl,HB.out.trans (HB4.out.mono HB.out.size)⟩
  | true =>
   have HT:Hid (lineB s L j=true∧sb=true∧wb=true):=hid (by
    rw [HR.out]
    cases h5:decide (a<s) with
    | false=>rw [h5] at hgv;cases sb <;> cases wb <;> simp at hgv
    | true =>
     rw [h5] at hgv
     cases sb <;> cases wb <;> simp at hgv ⊢)
   rw [hgv] at hkg
   have HWB:=hid hwb
   have HSB:=hid hsb
   clear hgv hwb hsb HRD
   go_quiet (fail)
   go_wp2_with fail
   refine (hnm _).mono ?_
   rintro e w3 ⟨rfl,h3⟩
   have HB3:=hid ((z0i HBA.out _).trans (h3.mono (z0i HBA.out _).size))
   clear hnm h3
   go_wp2_with fail
   refine (hkg _).mono ?_
   rintro e w4 ⟨rfl,h4⟩
   have HB4:=hid (HB3.out.trans (h4.below.mono HB3.out.size))
   clear hkg h4
   go_wp2_with fail
   go_roundw
   case rel =>
    refine⟨j+1,by omega,by go_num,HB4,hid fun i hi=>?_⟩
    rw [HSB.out,HWB.out]
    by_cases e:i=j
    · subst e;exact HT.out
    · exact HE.out i (by omega)
   case measure=>simp [Go.RowKit.intOf];omega
def fiA (sk to:Int) (x:Tk):Bool:=decide (x.1≠0) && decide (x.2.1=sk) && decide (x.2.2.1=to) && decide (1≤x.2.2.2)
theorem fillAt_eq (sk to:Int) (T:List Tk) (j:Nat):fillAt sk to T j=(fiA sk to (T.getD j tk0) && (List.range j).all fun k=>decide ((T.getD k tk0).1≠(T.getD j tk0).1)):=rfl
theorem all_yes {j:Nat} {f:Nat→Bool} (h:∀ k,k<j→f k=true):(List.range j).all f=true:=by
 rw [List.all_eq_true]
 exact fun k hk=>h k (List.mem_range.1 hk)
theorem all_no {j k:Nat} {f:Nat→Bool} (hk:k<j) (h:f k=false):(List.range j).all f=false:=by
 cases hc:(List.range j).all f with
 | false=>rfl
 | true =>
  have:=List.all_eq_true.1 hc k (List.mem_range.2 hk)
  rw [h] at this
  cases this
theorem rfills_any (k od po:Int) (lp:Option Addr) (ln lcp:Nat) (tp:Option Addr) (tn tcp:Nat) (wp:Option Addr) (wn wcp:Nat) (sk fr to q:Int) (T:List Tk) (W:World) (hT:TKL W tp tn tcp T) (hTok:∀ x∈T,Tkok x) (hn:tn≤1000) :
 Calls Tryz.prog 38 #[.agg #[.int .u8 k,.int .u32 od,.int .u8 po,.slice lp ln lcp,.slice tp tn tcp,.slice wp wn wcp,.int .u8 sk,.int .u8 fr,.int .u8 to,.int .i64 q]] W fun e w'=>e=.returned (.bool (fillsB sk to q T))∧Below W.heap.size W w':=by
 have hb1:Below W.heap.size W (W.alloc (.cells #[.int .u8 k,.int .u32 od,.int .u8 po,.slice lp ln lcp,.slice tp tn tcp,.slice wp wn wcp,.int .u8 sk,.int .u8 fr,.int .u8 to,.int .i64 q] 26)):=(Below.refl _ _).alloc (Nat.le_refl _) _
 have HB1:=hid hb1
 have HT:=hid (hT.later hb1)
 have HLN:=hid hT.len
 have HX:=hid (z0c W (.cells #[.int .u8 k,.int .u32 od,.int .u8 po,.slice lp ln lcp,.slice tp tn tcp,.slice wp wn wcp,.int .u8 sk,.int .u8 fr,.int .u8 to,.int .i64 q] 26))
 have HOK:=hid fun j (hj:j<tn)=>tkok_at hTok (show j<T.length by rw [hT.len];exact hj)
 have HFA:=hid fun j (hj:j<tn)=>fills_false sk to q T j (by rw [hT.len];exact hj)
 have HTR:=hid (fills_true sk to q T)
 have HNA:=hid fun w (h:TKL w tp tn tcp T)=>rnamed_any tp tn tcp T none 0 0 [] sk w h (SlG.empty w) hTok (fun x hx=>by cases hx) hn (by omega)
 have hcap:=hT.cap
 clear hT hTok hb1
 go_enter Tryz.func38,Tryz.ntmps38
 go_wp2_with fail
 generalize W.alloc (.cells #[.int .u8 k,.int .u32 od,.int .u8 po,.slice lp ln lcp,.slice tp tn tcp,.slice wp wn wcp,.int .u8 sk,.int .u8 fr,.int .u8 to,.int .i64 q] 26)=W1 at *
 go_loopw [4] (fun i wr=>∃ j:Nat,j≤tn∧i=.int .i64 j∧Hid (Below W1.heap.size W1 wr)∧Hid (∀ i,i<j→fillAt sk to T i=true)) (fun i _=>tn-(Go.RowKit.intOf i).toNat)
 case atStart=>exact⟨0,Nat.zero_le _,rfl,hid (Below.refl _ _),hid fun i hi=>by omega⟩
 case round =>
  obtain⟨j,hj,rfl,HB,HE⟩:=hrel
  by_cases hlt:j<tn
  case neg =>
   obtain rfl:j=tn:=by omega
   have hna:=HNA.out wr (HT.out.later HB.out)
   have HF:Hid (fillsB sk to q T=(decide ((j:Int)≤12) && okB (z1a T [] sk) && decide (z1a T [] sk≤q))):=hid (by
    rw [HTR.out (fun i hi=>HE.out i (by rw [← HLN.out];exact hi)),HLN.out]
    have:decide (j≤12)=decide ((j:Int)≤12):=decide_eq_decide.2 (by omega)
    rw [this])
   obtain⟨_,_,_,_,_,_,c6,_,_,c9⟩:=z0e _ _ _ _ _ _ _ _ _ _ _ _ _ _ _ _ (z0b HX.out HB.out)
   go_wp2_with fail
   refine hna.mono ?_
   rintro e w3 ⟨rfl,h3⟩
   have HB3:=hid (HB.out.trans (h3.mono HB.out.size))
   clear hna h3 c6 c9
   obtain⟨_,_,_,_,_,_,c6,_,_,c9⟩:=z0e _ _ _ _ _ _ _ _ _ _ _ _ _ _ _ _ (z0b HX.out HB3.out)
   generalize z1a T [] sk=z at *
   by_cases h12:j≤12
   case neg =>
    have d1:decide ((j:Int)≤12)=false:=decide_eq_false (by omega)
    have d1n:decide (j≤12)=false:=decide_eq_false h12
    rw [d1] at HF
    clear h12
    go_wp2_with fail
    go_ret
    exact⟨by rw [HF.out];rfl,HB1.out.trans (HB3.out.mono HB1.out.size)⟩
   have d1:decide ((j:Int)≤12)=true:=decide_eq_true (by omega)
   have d1n:decide (j≤12)=true:=decide_eq_true h12
   rw [d1] at HF
   clear h12
   cases o1:okB z with
   | false =>
    rw [o1] at HF
    go_wp2_with fail
    go_ret
    exact⟨by rw [HF.out];rfl,HB1.out.trans (HB3.out.mono HB1.out.size)⟩
   | true =>
    rw [o1] at HF
    have v1:val z=z:=val_in _ ((okB_iff _).1 o1)
    go_wp2_with fail
    go_ret
    exact⟨by rw [HF.out];simp,HB1.out.trans (HB3.out.mono HB1.out.size)⟩
  have hlt':(j:Int)<tn:=by omega
  have hat:=fillAt_eq sk to T j
  obtain⟨b,off,rfl,_,_⟩:=z0z (HT.out.later HB.out) hlt
  have HTC:Hid (∀ k,k<tn→∀ w',Below W1.heap.size W1 w'→w'.cell? ⟨b,off+k*4,none⟩=some (.int .u32 (T.getD k tk0).1)∧w'.cell? ⟨b,off+k*4+1,none⟩=some (.int .u8 (T.getD k tk0).2.1)∧w'.cell? ⟨b,off+k*4+2,none⟩=some (.int .u8 (T.getD k tk0).2.2.1)∧w'.cell? ⟨b,off+k*4+3,none⟩=some (.int .i64 (T.getD k tk0).2.2.2)):=hid fun k hk w' h=>by
   obtain⟨b',off',he,_,d0,d1,d2,d3⟩:=z0z (HT.out.later h) hk
   cases he
   exact⟨d0,d1,d2,d3⟩
  have HFAJ:=hid (HFA.out j hlt)
  obtain⟨⟨ho0,ho1⟩,⟨ha0,ha1⟩,⟨hw0,hw1⟩,hq0,hq1⟩:=HOK.out j hlt
  obtain⟨c0,c1,c2,c3⟩:=HTC.out j hlt wr HB.out
  obtain⟨_,_,_,_,_,_,e6,_,e8,_⟩:=z0e _ _ _ _ _ _ _ _ _ _ _ _ _ _ _ _ (z0b HX.out HB.out)
  generalize hx:T.getD j tk0=x at *
  obtain⟨o,a,v,qq⟩:=x
  dsimp only at c0 c1 c2 c3 ho0 ho1 ha0 ha1 hw0 hw1 hq0 hq1 hat
  have HAT:=hid hat
  have HX1:=hid hx
  clear hat hx
  by_cases h1:o=0
  case pos =>
   have d1:(o==0)=true:=by simpa using h1
   have HF:=hid (HFAJ.out (by rw [HAT.out,show fiA sk to (o,a,v,qq)=false from by unfold fiA;simp;omega];simp))
   go_wp2_with fail
   go_quiet (fail)
   go_wp2_with fail
   go_ret
   exact⟨by rw [HF.out];rfl,HB1.out.trans ((z0i HB.out _).mono HB1.out.size)⟩
  have d1:(o==0)=false:=by simpa using h1
  by_cases h2:a=sk
  case neg =>
   have d2:(a != sk)=true:=by simpa using h2
   have HF:=hid (HFAJ.out (by rw [HAT.out,show fiA sk to (o,a,v,qq)=false from by unfold fiA;simp;omega];simp))
   go_wp2_with fail
   go_quiet (fail)
   go_wp2_with fail
   go_ret
   exact⟨by rw [HF.out];rfl,HB1.out.trans ((z0i HB.out _).mono HB1.out.size)⟩
  have d2:(a != sk)=false:=by simpa using h2
  by_cases h3:v=to
  case neg =>
   have d3:(v != to)=true:=by simpa using h3
   have HF:=hid (HFAJ.out (by rw [HAT.out,show fiA sk to (o,a,v,qq)=false from by unfold fiA;simp;omega];simp))
   go_wp2_with fail
   go_quiet (fail)
   go_wp2_with fail
   go_ret
   exact⟨by rw [HF.out];rfl,HB1.out.trans ((z0i HB.out _).mono HB1.out.size)⟩
  have d3:(v != to)=false:=by simpa using h3
  by_cases h4:qq<1
  case pos =>
   have d4:decide (qq<1)=true:=decide_eq_true h4
   have HF:=hid (HFAJ.out (by rw [HAT.out,show fiA sk to (o,a,v,qq)=false from by unfold fiA;simp;omega];simp))
   go_wp2_with fail
   go_quiet (fail)
   go_wp2_with fail
   go_ret
   exact⟨by rw [HF.out];rfl,HB1.out.trans ((z0i HB.out _).mono HB1.out.size)⟩
  have d4:decide (qq<1)=false:=decide_eq_false h4
  have HA:Hid (fiA sk to (o,a,v,qq)=true):=hid (by unfold fiA;simp;omega)
  clear h1 h2 h3 h4
  go_wp2_with fail
  go_quiet (fail)
  go_wp2_with fail
  clear c0 c1 c2 c3 e6 e8
  go_loopw [5] (fun i wq=>∃ m:Nat,m≤j∧i=.int .i64 m∧Hid (Below W1.heap.size W1 wq)∧Hid (∀ i,i<m→decide ((T.getD i tk0).1≠o)=true)) (fun i _=>j-(Go.RowKit.intOf i).toNat)
  case atStart=>exact⟨0,Nat.zero_le _,rfl,hid (by repeat (first | exact HB.out | refine z0i ?_ _)),hid fun i hi=>by omega⟩
  case round =>
   obtain⟨m,hm,rfl,HBQ,HEQ⟩:=hrel
   by_cases hlt2:m<j
   case neg =>
    obtain rfl:m=j:=by omega
    have HAJ:Hid (fillAt sk to T m=true):=hid (by rw [HAT.out,HA.out];exact all_yes HEQ.out)
    go_wp2_with fail
    go_roundw
    case rel =>
     refine⟨m+1,by omega,by go_num,HBQ,hid fun i hi=>?_⟩
     by_cases e:i=m
     · subst e;exact HAJ.out
     · exact HE.out i (by omega)
    case measure=>simp [Go.RowKit.intOf];omega
   have hlt2':(m:Int)<j:=by omega
   have hmn:(m:Int)<tn:=by omega
   obtain⟨c0,c1,c2,c3⟩:=HTC.out j hlt _ HBQ.out
   obtain⟨k0,k1,k2,k3⟩:=HTC.out m (by omega) _ HBQ.out
   rw [HX1.out] at c0 c1 c2 c3
   dsimp only at c0 c1 c2 c3
   have hfm:=fun (h:decide ((T.getD m tk0).1≠o)=false)=>all_no (f:=fun k=>decide ((T.getD k tk0).1≠o)) hlt2 h
   have HFM:=hid hfm
   clear hfm
   generalize hy:T.getD m tk0=y at *
   obtain⟨yo,ya,yw,yq⟩:=y
   dsimp only at k0 k1 k2 k3
   have HY:=hid hy
   clear hy
   by_cases g1:yo=o
   case pos =>
    have d5:(yo==o)=true:=by simpa using g1
    have HF:=hid (HFAJ.out (by rw [HAT.out,HFM.out (by simpa using g1),Bool.and_false]))
    clear g1
    go_wp2_with fail
    go_quiet (fail)
    go_wp2_with fail
    go_ret
    exact⟨by rw [HF.out];rfl,HB1.out.trans ((z0i HBQ.out _).mono HB1.out.size)⟩
   have d5:(yo==o)=false:=by simpa using g1
   have HNE:Hid (decide ((T.getD m tk0).1≠o)=true):=hid (by rw [HY.out];simpa using g1)
   clear g1
   go_wp2_with fail
   go_quiet (fail)
   go_wp2_with fail
   go_roundw
   case rel =>
    refine⟨m+1,by omega,by go_num,hid (by repeat (first | exact HBQ.out | refine z0i ?_ _)),hid fun i hi=>?_⟩
    by_cases e:i=m
    · subst e;exact HNE.out
    · exact HEQ.out i (by omega)
   case measure=>simp [Go.RowKit.intOf];omega
theorem rcover_any (k od po:Int) (lp:Option Addr) (ln lcp:Nat) (tp:Option Addr) (tn tcp:Nat) (wp:Option Addr) (wn wcp:Nat) (sk fr to q:Int) (L:List Ln) (T:List Tk) (M:List Ln) (W:World) (hP:PgM W lp ln lcp L tp tn tcp T wp wn wcp M) (hL:∀ x∈L,Lnok x) (hT:∀ x∈T,Tkok x) (hM:∀ x∈M,Lnok x) (h1:ln≤1000∧tn≤1000∧wn≤1000) :
 Calls Tryz.prog 37 #[.agg #[.int .u8 k,.int .u32 od,.int .u8 po,.slice lp ln lcp,.slice tp tn tcp,.slice wp wn wcp,.int .u8 sk,.int .u8 fr,.int .u8 to,.int .i64 q]] W fun e w'=>e=.returned (.bool (coverB T M L))∧Below W.heap.size W w':=by
 have hb1:Below W.heap.size W (W.alloc (.cells #[.int .u8 k,.int .u32 od,.int .u8 po,.slice lp ln lcp,.slice tp tn tcp,.slice wp wn wcp,.int .u8 sk,.int .u8 fr,.int .u8 to,.int .i64 q] 26)):=(Below.refl _ _).alloc (Nat.le_refl _) _
 have HB1:=hid hb1
 have HP:=hid (hP.later hb1)
 have HX:=hid (z0c W (.cells #[.int .u8 k,.int .u32 od,.int .u8 po,.slice lp ln lcp,.slice tp tn tcp,.slice wp wn wcp,.int .u8 sk,.int .u8 fr,.int .u8 to,.int .i64 q] 26))
 have HA:=hid fun (s:Int) w (h:PgM w lp ln lcp L tp tn tcp T wp wn wcp M)=>rnamed_any tp tn tcp T wp wn wcp M s w h.t h.o hT hM h1.2.1 h1.2.2
 have HBB:=hid fun (s:Int) w (h:PgM w lp ln lcp L tp tn tcp T wp wn wcp M)=>rnamed_any none 0 0 [] lp ln lcp L s w (SlG.empty w) h.l (fun x hx=>by cases hx) hL (by omega) h1.1
 clear hP hL hT hM h1 hb1
 go_enter Tryz.func37,Tryz.ntmps37
 go_wp2_with fail
 generalize W.alloc (.cells #[.int .u8 k,.int .u32 od,.int .u8 po,.slice lp ln lcp,.slice tp tn tcp,.slice wp wn wcp,.int .u8 sk,.int .u8 fr,.int .u8 to,.int .i64 q] 26)=W1 at *
 go_loopw [3] (fun i wr=>∃ j:Nat,j≤4∧i=.int .i64 j∧Hid (Below W1.heap.size W1 wr)∧Hid (∀ i,i<j→coverAt T M L i=true)) (fun i _=>4-(Go.RowKit.intOf i).toNat)
 case atStart=>exact⟨0,by omega,rfl,hid (Below.refl _ _),hid fun i hi=>by omega⟩
 case round =>
  obtain⟨j,hj,rfl,HB,HE⟩:=hrel
  by_cases hlt:j<4
  case neg =>
   obtain rfl:j=4:=by omega
   have HF:=hid (cover_true T M L HE.out)
   go_wp2_with fail
   go_ret
   exact⟨by rw [HF.out];rfl,HB1.out.trans (HB.out.mono HB1.out.size)⟩
  have hlt':(j:Int)<4:=by omega
  have hwj:IntKind.u8.wrap (j:Int)=j:=IntWalk.u8_in _ (by omega)
  obtain⟨_,_,_,a3,a4,a5,_,_,_,_⟩:=z0e k od po lp ln lcp tp tn tcp wp wn wcp sk fr to q (z0b HX.out HB.out)
  have hca:=HA.out (j:Int) wr (HP.out.later HB.out)
  have HFA:=hid (cover_false T M L j hlt)
  have hcv:coverAt T M L j=(okB (z1a T M j) && okB (z1a [] L j) && decide (z1a T M j=z1a [] L j)):=rfl
  have HCV:=hid hcv
  clear hcv
  generalize hz1:z1a T M (j:Int)=z1 at *
  generalize hz2:z1a [] L (j:Int)=z2 at *
  go_wp2_with fail
  refine hca.mono ?_
  rintro e w2 ⟨rfl,h2⟩
  have HB2:=hid (HB.out.trans (h2.mono HB.out.size))
  have hcb:=HBB.out (j:Int) w2 (HP.out.later HB2.out)
  rw [hz2] at hcb
  clear hca h2 a3 a4 a5
  obtain⟨_,_,_,a3,a4,a5,_,_,_,_⟩:=z0e k od po lp ln lcp tp tn tcp wp wn wcp sk fr to q (z0b HX.out HB2.out)
  go_wp2_with fail
  refine hcb.mono ?_
  rintro e w3 ⟨rfl,h3⟩
  have HB3:=hid (HB2.out.trans (h3.mono HB2.out.size))
  clear hcb h3 a3 a4 a5 hz1 hz2
  cases o1:okB z1 with
  | false =>
   have HF:=hid (HFA.out (by rw [HCV.out,o1];rfl))
   go_wp2_with fail
   go_ret
   exact⟨by rw [HF.out];rfl,HB1.out.trans (HB3.out.mono HB1.out.size)⟩
  | true =>
   cases o2:okB z2 with
   | false =>
    have HF:=hid (HFA.out (by rw [HCV.out,o1,o2];rfl))
    go_wp2_with fail
    go_ret
    exact⟨by rw [HF.out];rfl,HB1.out.trans (HB3.out.mono HB1.out.size)⟩
   | true =>
    have v1:val z1=z1:=val_in _ ((okB_iff _).1 o1)
    have v2:val z2=z2:=val_in _ ((okB_iff _).1 o2)
    by_cases hz:z1=z2
    · have hd:(z1 != z2)=false:=by simpa using hz
      have HT:Hid (coverAt T M L j=true):=hid (by rw [HCV.out,o1,o2,decide_eq_true hz];rfl)
      clear hz
      go_wp2_with fail
      go_roundw
      case rel =>
       refine⟨j+1,by omega,by go_num,HB3,hid fun i hi=>?_⟩
       by_cases e:i=j
       · subst e;exact HT.out
       · exact HE.out i (by omega)
      case measure=>simp [Go.RowKit.intOf];omega
    · have hd:(z1 != z2)=true:=by simpa using hz
      have HF:=hid (HFA.out (by rw [HCV.out,o1,o2,decide_eq_false hz];rfl))
      clear hz
      go_wp2_with fail
      go_ret
      exact⟨by rw [HF.out];rfl,HB1.out.trans (HB3.out.mono HB1.out.size)⟩
theorem ask1 (s w od po:Int) (L:List Ln) (T:List Tk) (M:List Ln) (sk fr to q:Int):askP s w ⟨1,od,po,L,T,M,sk,fr,to,q⟩=(decide (od≠0) && decide (po≤1) && decide (1≤L.length) && z0s s L && z0t s w od T && z0s s M && coverB T M L && (decide (po=0) || decide (M.length=0))):=rfl
theorem qof1 (od po:Int) (L:List Ln) (T:List Tk) (M:List Ln) (sk fr to q:Int):qofP ⟨1,od,po,L,T,M,sk,fr,to,q⟩=⟨1,od,po,L,T,M,0,0,0,0⟩:=rfl
theorem rgood1 (s w:Int) (od po:Int) (lp:Option Addr) (ln lcp:Nat) (tp:Option Addr) (tn tcp:Nat) (wp:Option Addr) (wn wcp:Nat) (sk fr to q:Int) (L:List Ln) (T:List Tk) (M:List Ln) (W:World) (hs:z0q s w=true) (hP:PgM W lp ln lcp L tp tn tcp T wp wn wcp M) (hok:Pgok ⟨1,od,po,L,T,M,sk,fr,to,q⟩) (h1:ln≤1000∧tn≤1000∧wn≤1000) :
 Calls Tryz.prog 8 #[.int .i64 s,.int .i64 w,.agg #[.int .u8 1,.int .u32 od,.int .u8 po,.slice lp ln lcp,.slice tp tn tcp,.slice wp wn wcp,.int .u8 sk,.int .u8 fr,.int .u8 to,.int .i64 q]] W fun e w'=>e=.returned (.bool (z0p s w ⟨1,od,po,L,T,M,sk,fr,to,q⟩))∧Below W.heap.size W w':=by
 have hg:z0p s w ⟨1,od,po,L,T,M,sk,fr,to,q⟩=((decide (od≠0) && decide (po≤1) && decide (1≤L.length) && z0s s L && z0t s w od T && z0s s M && coverB T M L && (decide (po=0) || decide (M.length=0))) && decide ((⟨1,od,po,L,T,M,sk,fr,to,q⟩:Pg)=⟨1,od,po,L,T,M,0,0,0,0⟩)):=by
  show (z0q s w && askP s w ⟨1,od,po,L,T,M,sk,fr,to,q⟩ && decide ((⟨1,od,po,L,T,M,sk,fr,to,q⟩:Pg)=qofP ⟨1,od,po,L,T,M,sk,fr,to,q⟩))=_
  rw [hs,Bool.true_and,ask1,qof1]
 have hs4:1≤s∧s≤4∧1≤w∧w≤4:=by
  unfold z0q at hs
  simp only [Bool.and_eq_true,decide_eq_true_eq] at hs
  omega
 obtain⟨W2,hW2,b0,b1,hb⟩:=two_progs W #[.int .u8 1,.int .u32 od,.int .u8 po,.slice lp ln lcp,.slice tp tn tcp,.slice wp wn wcp,.int .u8 sk,.int .u8 fr,.int .u8 to,.int .i64 q] #[.int .u8 1,.int .u32 od,.int .u8 po,.slice lp ln lcp,.slice tp tn tcp,.slice wp wn wcp,.int .u8 0,.int .u8 0,.int .u8 0,.int .i64 0]
 have HW:=hid hW2
 have HB:=hid hb
 have HX:=hid b0
 have HY:=hid b1
 have HP:=hid (hP.later hb)
 have HLL:=hid hP.l.len
 have HLT:=hid hP.t.len
 have HLM:=hid hP.o.len
 have hsk:0≤sk∧sk≤255:=hok.sku
 have hfr:0≤fr∧fr≤255:=hok.frm
 have hto:0≤to∧to≤255:=hok.to
 have hpo:0≤po∧po≤255:=hok.policy
 have HLI:=hid fun w' (h:Below W2.heap.size W2 w')=>rlines_any s lp ln lcp L w' (HP.out.later h).l hok.lines h1.1
 have HTA:=hid fun w' (h:Below W2.heap.size W2 w')=>rtakes_any s w 1 od po lp ln lcp tp tn tcp wp wn wcp sk fr to q T w' (HP.out.later h).t hok.takes h1.2.1
 have HLM2:=hid fun w' (h:Below W2.heap.size W2 w')=>rlines_any s wp wn wcp M w' (HP.out.later h).o hok.owes h1.2.2
 have HCV:=hid fun w' (h:Below W2.heap.size W2 w')=>rcover_any 1 od po lp ln lcp tp tn tcp wp wn wcp sk fr to q L T M w' (HP.out.later h) hok.lines hok.takes hok.owes h1
 have HSA:=hid fun w' (h:Below W2.heap.size W2 w')=>rsame_p 1 od po lp ln lcp tp tn tcp wp wn wcp sk fr to q 1 od po lp ln lcp tp tn tcp wp wn wcp 0 0 0 0 L T M L T M w' (HP.out.later h) ⟨(HP.out.later h).l,(HP.out.later h).t,(HP.out.later h).o⟩ h1 ⟨h1.1,h1.2.1,h1.2.2⟩
 have HC:=hid fun w' (h:Below W2.heap.size W2 w')=>z0e 1 od po lp ln lcp tp tn tcp wp wn wcp sk fr to q (z0b HX.out h)
 have HD:=hid fun w' (h:Below W2.heap.size W2 w')=>z0e 1 od po lp ln lcp tp tn tcp wp wn wcp 0 0 0 0 (z0b HY.out h)
 have y1:decide (s<1)=false:=decide_eq_false (by omega)
 have y2:decide (4<s)=false:=decide_eq_false (by omega)
 have y3:decide (w<1)=false:=decide_eq_false (by omega)
 have y4:decide (4<w)=false:=decide_eq_false (by omega)
 have x6:IntKind.i64.wrap sk=sk:=IntWalk.i64_in _ (by omega)
 have x7:IntKind.i64.wrap fr=fr:=IntWalk.i64_in _ (by omega)
 have x8:IntKind.i64.wrap to=to:=IntWalk.i64_in _ (by omega)
 have HG:=hid hg
 have H1:=hid h1
 clear hg hs hs4 hW2 b0 b1 hb hP hok hsk hfr hto hpo
 by_cases t0:od≠0
 case neg =>
  have f0:(od != 0)=false:=by simpa using t0
  have HF:Hid (z0p s w ⟨1,od,po,L,T,M,sk,fr,to,q⟩=false):=hid (by rw [HG.out];rw [decide_eq_false t0];simp)
  go_enter Tryz.func8,Tryz.ntmps8
  go_wp2_with fail
  go_ret
  rw [HW.out]
  exact⟨by rw [HF.out];rfl,HB.out.trans ((Below.refl _ _).mono HB.out.size)⟩
 have f0:(od != 0)=true:=by simpa using t0
 by_cases t1:po≤1
 case neg =>
  have f1:decide (po≤1)=false:=decide_eq_false t1
  have HF:Hid (z0p s w ⟨1,od,po,L,T,M,sk,fr,to,q⟩=false):=hid (by rw [HG.out];rw [decide_eq_false t1];simp)
  go_enter Tryz.func8,Tryz.ntmps8
  go_wp2_with fail
  go_ret
  rw [HW.out]
  exact⟨by rw [HF.out];rfl,HB.out.trans ((Below.refl _ _).mono HB.out.size)⟩
 have f1:decide (po≤1)=true:=decide_eq_true t1
 by_cases t2:1≤ln
 case neg =>
  have f2:decide (0<(ln:Int))=false:=decide_eq_false (by omega)
  have f2n:decide (0<ln)=false:=decide_eq_false (by omega)
  have HF:Hid (z0p s w ⟨1,od,po,L,T,M,sk,fr,to,q⟩=false):=hid (by rw [HG.out];rw [decide_eq_false (show ¬ 1≤L.length by rw [HLL.out];exact t2)];simp)
  go_enter Tryz.func8,Tryz.ntmps8
  go_wp2_with fail
  go_ret
  rw [HW.out]
  exact⟨by rw [HF.out];rfl,HB.out.trans ((Below.refl _ _).mono HB.out.size)⟩
 have f2:decide (0<(ln:Int))=true:=decide_eq_true (by omega)
 have f2n:decide (0<ln)=true:=decide_eq_true (by omega)
 obtain⟨a0,a1,a2,a3,a4,a5,a6,a7,a8,a9⟩:=HC.out W2 (Below.refl _ _)
 go_enter Tryz.func8,Tryz.ntmps8
 go_wp2_with fail
 rw [HW.out]
 have hc0:=HLI.out W2 (Below.refl _ _)
 refine hc0.mono ?_
 rintro e w0 ⟨rfl,hb0⟩
 have HB0:Hid (Below W2.heap.size W2 w0):=hid (hb0)
 clear hc0 hb0 a0 a1 a2 a3 a4 a5 a6 a7 a8 a9
 obtain⟨a0,a1,a2,a3,a4,a5,a6,a7,a8,a9⟩:=HC.out w0 HB0.out
 cases t3:z0s s L
 case false =>
  have HF:Hid (z0p s w ⟨1,od,po,L,T,M,sk,fr,to,q⟩=false):=hid (by rw [HG.out];rw [t3];simp)
  go_wp2_with fail
  go_ret
  exact⟨by rw [HF.out];rfl,HB.out.trans (HB0.out.mono HB.out.size)⟩
 go_wp2_with fail
 have hc1:=HTA.out w0 HB0.out
 refine hc1.mono ?_
 rintro e w1 ⟨rfl,hb1⟩
 have HB1:Hid (Below W2.heap.size W2 w1):=hid (HB0.out.trans (hb1.mono HB0.out.size))
 clear hc1 hb1 a0 a1 a2 a3 a4 a5 a6 a7 a8 a9
 obtain⟨a0,a1,a2,a3,a4,a5,a6,a7,a8,a9⟩:=HC.out w1 HB1.out
 cases t4:z0t s w od T
 case false =>
  have HF:Hid (z0p s w ⟨1,od,po,L,T,M,sk,fr,to,q⟩=false):=hid (by rw [HG.out];rw [t4];simp)
  go_wp2_with fail
  go_ret
  exact⟨by rw [HF.out];rfl,HB.out.trans (HB1.out.mono HB.out.size)⟩
 go_wp2_with fail
 have hc2:=HLM2.out w1 HB1.out
 refine hc2.mono ?_
 rintro e w2 ⟨rfl,hb2⟩
 have HB2:Hid (Below W2.heap.size W2 w2):=hid (HB1.out.trans (hb2.mono HB1.out.size))
 clear hc2 hb2 a0 a1 a2 a3 a4 a5 a6 a7 a8 a9
 obtain⟨a0,a1,a2,a3,a4,a5,a6,a7,a8,a9⟩:=HC.out w2 HB2.out
 cases t5:z0s s M
 case false =>
  have HF:Hid (z0p s w ⟨1,od,po,L,T,M,sk,fr,to,q⟩=false):=hid (by rw [HG.out];rw [t5];simp)
  go_wp2_with fail
  go_ret
  exact⟨by rw [HF.out];rfl,HB.out.trans (HB2.out.mono HB.out.size)⟩
 go_wp2_with fail
 have hc3:=HCV.out w2 HB2.out
 refine hc3.mono ?_
 rintro e w3 ⟨rfl,hb3⟩
 have HB3:Hid (Below W2.heap.size W2 w3):=hid (HB2.out.trans (hb3.mono HB2.out.size))
 clear hc3 hb3 a0 a1 a2 a3 a4 a5 a6 a7 a8 a9
 obtain⟨a0,a1,a2,a3,a4,a5,a6,a7,a8,a9⟩:=HC.out w3 HB3.out
 cases t6:coverB T M L
 case false =>
  have HF:Hid (z0p s w ⟨1,od,po,L,T,M,sk,fr,to,q⟩=false):=hid (by rw [HG.out];rw [t6];simp)
  go_wp2_with fail
  go_ret
  exact⟨by rw [HF.out];rfl,HB.out.trans (HB3.out.mono HB.out.size)⟩
 have HO:Hid ((po=0∨wn=0)∨¬ (po=0∨wn=0)):=hid (Classical.em _)
 by_cases g0:po=0
 case neg =>
  have f8:(po==0)=false:=by simpa using g0
  by_cases g1:wn=0
  case neg =>
   have f9:((wn:Int)==0)=false:=by simp;omega
   have f9n:(wn==0)=false:=by simpa using g1
   have HF:Hid (z0p s w ⟨1,od,po,L,T,M,sk,fr,to,q⟩=false):=hid (by rw [HG.out];rw [decide_eq_false g0,decide_eq_false (show ¬ M.length=0 by rw [HLM.out];exact g1)];simp)
   go_wp2_with fail
   go_ret
   exact⟨by rw [HF.out];rfl,HB.out.trans (HB3.out.mono HB.out.size)⟩
  have f9:((wn:Int)==0)=true:=by simp;omega
  have f9n:(wn==0)=true:=by simpa using g1
  have HOR:Hid ((decide (po=0) || decide (M.length=0))=true):=hid (by rw [decide_eq_true (show M.length=0 by rw [HLM.out];exact g1)];simp)
  clear g0 g1
  have HF:Hid (z0p s w ⟨1,od,po,L,T,M,sk,fr,to,q⟩=decide ((⟨1,od,po,L,T,M,sk,fr,to,q⟩:Pg)=⟨1,od,po,L,T,M,0,0,0,0⟩)):=hid (by rw [HG.out,decide_eq_true t0,decide_eq_true t1,decide_eq_true (show 1≤L.length by rw [HLL.out];exact t2),t3,t4,t5,t6,HOR.out];simp)
  clear HG
  generalize decide ((⟨1,od,po,L,T,M,sk,fr,to,q⟩:Pg)=⟨1,od,po,L,T,M,0,0,0,0⟩)=bb at *
  obtain⟨b0,b1,b2,b3,b4,b5,b6,b7,b8,b9⟩:=HD.out w3 HB3.out
  go_wp2_with fail
  refine (HSA.out w3 HB3.out).mono ?_
  rintro e w9 ⟨rfl,hb9⟩
  have HB9:=hid (HB3.out.trans (hb9.mono HB3.out.size))
  clear hb9 a0 a1 a2 a3 a4 a5 a6 a7 a8 a9 b0 b1 b2 b3 b4 b5 b6 b7 b8 b9
  go_wp2_with fail
  go_ret
  exact⟨by rw [HF.out];rfl,HB.out.trans (HB9.out.mono HB.out.size)⟩
 have f8:(po==0)=true:=by simpa using g0
 have HOR:Hid ((decide (po=0) || decide (M.length=0))=true):=hid (by rw [decide_eq_true g0];rfl)
 clear g0
 have HF:Hid (z0p s w ⟨1,od,po,L,T,M,sk,fr,to,q⟩=decide ((⟨1,od,po,L,T,M,sk,fr,to,q⟩:Pg)=⟨1,od,po,L,T,M,0,0,0,0⟩)):=hid (by rw [HG.out,decide_eq_true t0,decide_eq_true t1,decide_eq_true (show 1≤L.length by rw [HLL.out];exact t2),t3,t4,t5,t6,HOR.out];simp)
 clear HG
 generalize decide ((⟨1,od,po,L,T,M,sk,fr,to,q⟩:Pg)=⟨1,od,po,L,T,M,0,0,0,0⟩)=bb at *
 obtain⟨b0,b1,b2,b3,b4,b5,b6,b7,b8,b9⟩:=HD.out w3 HB3.out
 go_wp2_with fail
 refine (HSA.out w3 HB3.out).mono ?_
 rintro e w9 ⟨rfl,hb9⟩
 have HB9:=hid (HB3.out.trans (hb9.mono HB3.out.size))
 clear hb9 a0 a1 a2 a3 a4 a5 a6 a7 a8 a9 b0 b1 b2 b3 b4 b5 b6 b7 b8 b9
 go_wp2_with fail
 go_ret
 exact⟨by rw [HF.out];rfl,HB.out.trans (HB9.out.mono HB.out.size)⟩
end Go.Proofs.YtclbkfpbdidaiaaGreatDoor
