import Derived.Test.YtnpjpelbcmgodaaDoorPE18
namespace Go.Proofs.YtnpjpelbcmgodaaDoor
open Go.Lib (hid)
set_option maxHeartbeats 2000000
open Go.RowKit Go.ChangeShapes Go.WideShapes
set_option linter.unusedVariables false
set_option maxRecDepth 10000
theorem info_ln:(Tryd.prog.info? 80).map (fun i=>(i.zero,i.size,i.bytes))=some (some (.agg #[.int .u8 0,.int .i64 0]),2,16):=by kernel_rfl
theorem info_tk:(Tryd.prog.info? 60).map (fun i=>(i.zero,i.size,i.bytes))=some (some (.agg #[.int .u32 0,.int .u8 0,.int .u8 0,.int .i64 0]),4,16):=by kernel_rfl
theorem slg_cells {α:Type} {enc:α→List Value} {k:Nat} {d:α} (hk:∀ x,(enc x).length=k) (hk0:0<k) {w:World} {p:Option Addr} {n c:Nat} {L:List α} (h:SlG enc k d w p n c L):∀ ad,p=some ad→∀ j u,(z0q enc L)[j]?=some u→w.cell? (ad.add j)=some u:=by
 intro ad ha j u hu
 have hj:j<L.length*k:=by
  rw [← z1o hk L]
  exact (List.getElem?_eq_some_iff.1 hu).1
 have hn:=h.len
 have hpos:0<L.length:=by
  rcases Nat.eq_zero_or_pos L.length with h | h
  · rw [h,Nat.zero_mul] at hj;omega
  · exact h
 obtain⟨b,off,rfl,_,hc⟩:=h.cell (by omega)
 cases ha
 have hd:=Nat.div_add_mod j k
 have e:j / k*k+j % k=j:=by rw [Nat.mul_comm];exact hd
 have hq:j / k<L.length:=Nat.div_lt_of_lt_mul (by rw [Nat.mul_comm];exact hj)
 have hm:j % k<k:=Nat.mod_lt _ hk0
 have hu2:(z0q enc L)[j / k*k+j % k]?=some u:=by rw [e];exact hu
 rw [z5m (d:=d) hk L (j / k) (j % k) hq hm] at hu2
 have:=hc (j / k) (by omega) (j % k) u hu2
 rw [Go.WideShapes.add_plain]
 rwa [Nat.add_assoc,e] at this
theorem slg_none {α:Type} {enc:α→List Value} {k:Nat} {d:α} {w:World} {p:Option Addr} {n c:Nat} {L:List α} (h:SlG enc k d w p n c L):p=none→n=0∧c=0:=fun hp=>by
 have h1:=h.nil hp
 have h2:=h.cap
 exact⟨by omega,h1⟩
theorem z3r {w:World} {B:Nat} {T:TypeId} {k:Nat} {v:Value} {n:Nat} {xs:List Value} (h:w.ownsRow 0 T k v n xs) (hb:∀ b,v.ownBlock=some b→B≤b):w.ownsRow B T k v n xs:=by
 refine⟨h.1,?_⟩
 rcases h.2 with hn | ⟨g,cap,cur,he,h1,h2,h3⟩
 · exact .inl hn
 · exact .inr ⟨g,cap,cur,he,hb g (by rw [he];rfl),h2,h3⟩
theorem z7p (p:Option Addr) (n c:Nat) (L:List Ln) (W:World) (hL:LL W p n c L) (hn:n≤100000) :
 Calls Tryd.prog 51 #[.slice p n c] W fun e w'=>∃ v,e=.returned v∧FillG lc 2 80 W w' v L n:=by
 have q:=fun (w:World) (a:Option Addr) (n c n' c':Nat)=>Lib.run_eql_slice_nil w 23 80 a n c n' c' Tryd.underlying23
 cases p with
 | none =>
  obtain rfl:=hL.nil rfl
  obtain rfl:n=0:=Nat.le_zero.1 hL.cap
  obtain rfl:L=[]:=List.eq_nil_of_length_eq_zero hL.len
  go_enter Tryd.func51,Tryd.ntmps51
  go_wp2_with fail
  go_ret
  exact⟨_,rfl,FillG.nil W⟩
 | some ad =>
  have hb1:Below W.heap.size W (W.alloc (.cells #[] 80)):=(Below.refl _ _).alloc (Nat.le_refl _) _
  have HB1:=hid hb1
  have HR1:Hid ((W.alloc (.cells #[] 80)).ownsRow 0 80 2 (.slice (some ⟨W.heap.size,0,none⟩) 0 0) 0 (z0q lc [])):=hid ⟨rfl,.inr ⟨W.heap.size,0,#[],rfl,Nat.zero_le _,z0d W _,Nat.zero_le _,Nat.zero_le _,by simp,by simp [z0q]⟩⟩
  have HL1:=hid (SlG.later hL hb1)
  have HLN:=hid hL.len
  clear hL hb1
  go_enter Tryd.func51,Tryd.ntmps51
  go_wp2_with (at_builtin;refine z1l (k:=2) (by decide) Tryd.underlying23 info_ln rfl (by omega) rfl _ _ rfl (.slice (some ⟨W.heap.size,0,none⟩) 0 0) 0 (z0q lc []) rfl HR1.out (some ad) n c (z0q lc L) rfl (by rw [z1o z5h,HLN.out]) (slg_none HL1.out) (slg_cells z5h (by decide) HL1.out) (z1g z5g L) (by omega) ?_;intro p' c' w3 hr3 hc3 hl3)
  rw [← z0z,List.nil_append,Nat.zero_add] at hr3
  rw [Nat.zero_add] at hl3
  have hown:∀ b,(Value.slice p' n c').ownBlock=some b→W.heap.size≤b:=fun b hb=>by
   rcases hl3 b hb with h | h
   · cases h
     exact Nat.le_refl _
   · have:=HB1.out.size
     omega
  have HF:=hid (show FillG lc 2 80 W w3 (.slice p' n c') L n from ⟨by rw [HLN.out];exact z3r hr3 hown,hc3.below HB1.out HB1.out.size fun k hk=>by cases hk;exact Nat.le_refl _,Nat.le_of_eq HLN.out⟩)
  clear hr3 hc3 hl3 hown
  go_ret
  exact⟨_,rfl,HF.out⟩
theorem clone_tk (p:Option Addr) (n c:Nat) (L:List Tk) (W:World) (hL:TKL W p n c L) (hn:n≤100000) :
 Calls Tryd.prog 52 #[.slice p n c] W fun e w'=>∃ v,e=.returned v∧FillG tkc 4 60 W w' v L n:=by
 have q:=fun (w:World) (a:Option Addr) (n c n' c':Nat)=>Lib.run_eql_slice_nil w 24 60 a n c n' c' Tryd.underlying24
 cases p with
 | none =>
  obtain rfl:=hL.nil rfl
  obtain rfl:n=0:=Nat.le_zero.1 hL.cap
  obtain rfl:L=[]:=List.eq_nil_of_length_eq_zero hL.len
  go_enter Tryd.func52,Tryd.ntmps52
  go_wp2_with fail
  go_ret
  exact⟨_,rfl,FillG.nil W⟩
 | some ad =>
  have hb1:Below W.heap.size W (W.alloc (.cells #[] 60)):=(Below.refl _ _).alloc (Nat.le_refl _) _
  have HB1:=hid hb1
  have HR1:Hid ((W.alloc (.cells #[] 60)).ownsRow 0 60 4 (.slice (some ⟨W.heap.size,0,none⟩) 0 0) 0 (z0q tkc [])):=hid ⟨rfl,.inr ⟨W.heap.size,0,#[],rfl,Nat.zero_le _,z0d W _,Nat.zero_le _,Nat.zero_le _,by simp,by simp [z0q]⟩⟩
  have HL1:=hid (SlG.later hL hb1)
  have HLN:=hid hL.len
  clear hL hb1
  go_enter Tryd.func52,Tryd.ntmps52
  go_wp2_with (at_builtin;refine z1l (k:=4) (by decide) Tryd.underlying24 info_tk rfl (by omega) rfl _ _ rfl (.slice (some ⟨W.heap.size,0,none⟩) 0 0) 0 (z0q tkc []) rfl HR1.out (some ad) n c (z0q tkc L) rfl (by rw [z1o z7u,HLN.out]) (slg_none HL1.out) (slg_cells z7u (by decide) HL1.out) (z1g tkc_one L) (by omega) ?_;intro p' c' w3 hr3 hc3 hl3)
  rw [← z0z,List.nil_append,Nat.zero_add] at hr3
  rw [Nat.zero_add] at hl3
  have hown:∀ b,(Value.slice p' n c').ownBlock=some b→W.heap.size≤b:=fun b hb=>by
   rcases hl3 b hb with h | h
   · cases h
     exact Nat.le_refl _
   · have:=HB1.out.size
     omega
  have HF:=hid (show FillG tkc 4 60 W w3 (.slice p' n c') L n from ⟨by rw [HLN.out];exact z3r hr3 hown,hc3.below HB1.out HB1.out.size fun k hk=>by cases hk;exact Nat.le_refl _,Nat.le_of_eq HLN.out⟩)
  clear hr3 hc3 hl3 hown
  go_ret
  exact⟨_,rfl,HF.out⟩
theorem z4b {W wr:World} {v:Value} {L:List Int} {N:Nat} (h:z7q W wr v L N):∃ p c,v=.slice p L.length c∧IL wr p L.length c L:=by
 obtain⟨p,c,hv,hs,_⟩:=SlG.of_own (d:=0) ic_len (by decide) h.own
 exact⟨p,c,hv,hs⟩
theorem z4l (tp:Option Addr) (tn tcp:Nat) (T:List Tk) (wp:Option Addr) (wn wcp:Nat) (M:List Ln) (s:Int) (W:World) (hT:TKL W tp tn tcp T) (hM:LL W wp wn wcp M) (hTok:∀ x∈T,Tkok x) (hMok:∀ x∈M,Lnok x) (htn:tn≤1000) (hwn:wn≤1000) :
 Calls Tryd.prog 76 #[.slice tp tn tcp,.slice wp wn wcp,.int .u8 s] W fun e w'=>e=.returned (.tuple #[.int .i64 (val (z0x T M s)),.bool (okB (z0x T M s))])∧Below W.heap.size W w':=by
 have HT:=hid hT
 have HM:=hid hM
 have HST:=hid fun j (hj:j<tn)=>tkparts_take T s j (by rw [hT.len];exact hj)
 have HSM:=hid fun j (hj:j<wn)=>z3n M s j (by rw [hM.len];exact hj)
 have HET:Hid (z1c (T.take tn) s=z1c T s):=hid (by rw [← hT.len,List.take_length])
 have HEM:Hid (z0w (M.take wn) s=z0w M s):=hid (by rw [← hM.len,List.take_length])
 have HIN:Hid (∀ z∈z1c T s++z0w M s,In64 z):=hid fun z hz=>by
  rcases List.mem_append.1 hz with hz | hz
  · exact tkparts_in hTok s z hz
  · exact z5t hMok s z hz
 have hc1:=hT.cap
 have hc2:=hM.cap
 clear hT hM hTok hMok
 go_enter Tryd.func76,Tryd.ntmps76
 go_wp2_with fail
 go_loopw [8,9] (fun v i wr=>∃ j:Nat,j≤tn∧i=.int .i64 j∧Hid (z7q W wr v (z1c (T.take j) s) j)) (fun _ i _=>tn-(Go.RowKit.intOf i).toNat)
 case atStart=>exact⟨0,Nat.zero_le _,rfl,hid (by simpa [z1c] using FillG.nil W)⟩
 case round =>
  obtain⟨j,hj,rfl,HF⟩:=hrel
  by_cases hlt:j<tn
  · have hlt':(j:Int)<tn:=by omega
    obtain⟨b,off,rfl,_,k0,k1,k2,k3⟩:=z1a (HT.out.later HF.out.below) hlt
    have hst:=HST.out j hlt
    generalize T.getD j tk0=x at *
    obtain⟨o,a,w,q⟩:=x
    dsimp only at k0 k1 k2 k3 hst
    by_cases ha:a=s
    · subst ha
      rw [if_pos rfl] at hst
      have hd:(a==a)=true:=by simp
      have HS:=hid hst
      have hsz:=HF.out.below.size
      have hmost:=HF.out.most
      clear hst
      go_wp2_with (at_builtin;refine z2o rfl _ _ rfl W.heap.size _ (z1c (T.take j) a).length (z1c (T.take j) a) rfl (HF.out.own.alloc _) (by omega) q wr.heap.size rfl (z6c wr q) (by simp;omega) ?_;intro v2 w2 h1 h2)
      have HF2:=hid (HF.out.step _ h1 h2)
      clear h1 h2 hsz hmost
      go_wp2_with fail
      go_roundw
      case rel=>exact⟨j+1,by omega,by go_num,hid (by rw [HS.out];exact HF2.out)⟩
      case measure=>simp [Go.RowKit.intOf];omega
    · have hd:(a==s)=false:=by simpa using ha
      rw [if_neg ha,List.append_nil] at hst
      have HS:=hid hst
      clear hst ha
      go_wp2_with fail
      go_roundw
      case rel=>exact⟨j+1,by omega,by go_num,hid (by rw [HS.out];exact HF.out.mono (by omega))⟩
      case measure=>simp [Go.RowKit.intOf];omega
  · obtain rfl:j=tn:=by omega
    have hF:=HF.out
    rw [HET.out] at hF
    have HG:=hid hF
    clear hF HF HST
    obtain⟨W1,hW1⟩:∃ W1,W1=wr:=⟨_,rfl⟩
    subst hW1
    go_wp2_with fail
    go_loopw [8,10] (fun v i wq=>∃ m:Nat,m≤wn∧i=.int .i64 m∧Hid (z7q W wq v (z1c T s++z0w (M.take m) s) (j+m))) (fun _ i _=>wn-(Go.RowKit.intOf i).toNat)
    case atStart=>exact⟨0,Nat.zero_le _,rfl,hid (by simpa [z0w] using HG.out)⟩
    case round =>
     obtain⟨m,hm,rfl,HF⟩:=hrel
     by_cases hlt2:m<wn
     · have hlt':(m:Int)<wn:=by omega
       obtain⟨b,off,rfl,_,k0,k1⟩:=z1m (HM.out.later HF.out.below) hlt2
       have hst:=HSM.out m hlt2
       generalize M.getD m l0=x at *
       obtain⟨a,q⟩:=x
       dsimp only at k0 k1 hst
       by_cases ha:a=s
       · subst ha
         rw [if_pos rfl] at hst
         have hd:(a==a)=true:=by simp
         have HS:=hid hst
         have hsz:=HF.out.below.size
         have hmost:=HF.out.most
         clear hst
         go_wp2_with (at_builtin;refine z2o rfl _ _ rfl W.heap.size _ (z1c T a++z0w (M.take m) a).length (z1c T a++z0w (M.take m) a) rfl (HF.out.own.alloc _) (by omega) q wr.heap.size rfl (z6c wr q) (by simp;omega) ?_;intro v2 w2 h1 h2)
         have HF2:=hid (HF.out.step _ h1 h2)
         clear h1 h2 hsz hmost
         go_wp2_with fail
         go_roundw
         case rel=>exact⟨m+1,by omega,by go_num,hid (by rw [HS.out,← List.append_assoc];exact HF2.out)⟩
         case measure=>simp [Go.RowKit.intOf];omega
       · have hd:(a==s)=false:=by simpa using ha
         rw [if_neg ha,List.append_nil] at hst
         have HS:=hid hst
         clear hst ha
         go_wp2_with fail
         go_roundw
         case rel=>exact⟨m+1,by omega,by go_num,hid (by rw [HS.out];exact HF.out.mono (by omega))⟩
         case measure=>simp [Go.RowKit.intOf];omega
     · obtain rfl:m=wn:=by omega
       have hF:=HF.out
       rw [HEM.out] at hF
       obtain⟨pv,cv,hv,hs⟩:=z4b hF
       have hm:=hF.most
       have hsum:=rsum_of pv _ cv _ _ (IL.row hs HIN.out) (by omega)
       have HB:=hid hF.below
       clear hF HF hs hm
       change Calls _ _ _ _ (fun e w'=>e=.returned (.tuple #[.int .i64 (val (z0x T M s)),.bool (okB (z0x T M s))])∧_) at hsum
       generalize (z1c T s++z0w M s).length=nn at *
       subst hv
       go_wp2_with fail
       refine hsum.mono ?_
       rintro e w4 ⟨rfl,h4⟩
       have HB4:=hid (HB.out.trans (h4.mono HB.out.size))
       clear hsum h4
       go_wp2_with fail
       go_ret2
       exact⟨rfl,HB4.out⟩
theorem op_neq (a b c z a' b' c' z':Int) (w:World):(binOp .neq 72 (.agg #[.int .u8 a,.int .u8 b,.int .u8 c,.int .i64 z]) (.agg #[.int .u8 a',.int .u8 b',.int .u8 c',.int .i64 z'])).run Tryd.prog w=.ok (.bool (!decide ((((a,b,c),z):O)=((a',b',c'),z')))) w:=by
 by_cases h1:a=a'
 · by_cases h2:b=b'
   · by_cases h3:c=c'
     · by_cases h4:z=z'
       · subst h1 h2 h3 h4
         go_simp
       · subst h1 h2 h3
         go_simp
     · subst h1 h2
       go_simp
   · subst h1
     go_simp
 · go_simp
theorem lists_same {L M:List O} {n:Nat} (hL:L.length=n) (hM:M.length=n) (h:∀ j,j<n→L.getD j o0=M.getD j o0):L=M:=by
 apply List.ext_getElem (by omega)
 intro i h1 h2
 have:=h i (by omega)
 simpa [List.getD,List.getElem?_eq_getElem h1,List.getElem?_eq_getElem h2] using this
theorem rsame_o (p q:Option Addr) (n m c d:Nat) (L M:List O) (W:World) (hL:OL W p n c L) (hM:OL W q m d M) (hn:n≤100000) (hm:m≤100000) :
 Calls Tryd.prog 21 #[.slice p n c,.slice q m d] W fun e w'=>e=.returned (.bool (decide (L=M)))∧Below W.heap.size W w':=by
 have HL:=hid hL
 have HM:=hid hM
 have hLl:=hL.len
 have hMl:=hM.len
 have HLN:=hid hLl
 have HMN:=hid hMl
 clear hL hM
 by_cases hnm:n=m
 · subst hnm
   have h0:((n:Int) != (n:Int))=false:=by simp
   have hcc:=HL.out.cap
   have hcd:=HM.out.cap
   clear hLl hMl
   go_enter Tryd.func21,Tryd.ntmps21
   go_wp2_with fail
   go_loopw [5] (fun i wr=>∃ j:Nat,j≤n∧i=.int .i64 j∧Hid (Below W.heap.size W wr)∧Hid (∀ i,i<j→L.getD i o0=M.getD i o0)) (fun i _=>n-(intOf i).toNat)
   case atStart=>exact⟨0,Nat.zero_le _,rfl,hid (Below.refl _ _),hid fun i hi=>by omega⟩
   case round =>
    obtain⟨j,hj,rfl,HB,HE⟩:=hrel
    by_cases hlt:j<n
    · have hlt':(j:Int)<n:=by omega
      obtain⟨b,off,rfl,_,c0,c1,c2,c3⟩:=z2b (HL.out.later HB.out) hlt
      obtain⟨b',off',rfl,_,d0,d1,d2,d3⟩:=z2b (HM.out.later HB.out) hlt
      generalize hx:L.getD j o0=x at *
      generalize hy:M.getD j o0=y at *
      have HX:=hid hx
      have HY:=hid hy
      have hq:=fun w=>op_neq x.1.1 x.1.2.1 x.1.2.2 x.2 y.1.1 y.1.2.1 y.1.2.2 y.2 w
      have e1:decide ((((x.1.1,x.1.2.1,x.1.2.2),x.2):O)=((y.1.1,y.1.2.1,y.1.2.2),y.2))=decide (x=y):=rfl
      rw [e1] at hq
      clear e1 hx hy
      by_cases hxy:x=y
      · rw [decide_eq_true hxy] at hq
        have HXY:=hid hxy
        clear hxy
        go_wp2_with fail
        go_quiet (fail)
        go_wp2_with fail
        go_roundw
        case rel =>
         refine⟨j+1,by omega,by go_num,hid (z0f HB.out _),hid fun i hi=>?_⟩
         by_cases e:i=j
         · subst e;rw [HX.out,HY.out,HXY.out]
         · exact HE.out i (by omega)
        case measure=>simp [intOf];omega
      · rw [decide_eq_false hxy] at hq
        have HF:Hid (decide (L=M)=false):=hid (decide_eq_false fun e=>hxy (by rw [← HX.out,← HY.out,e]))
        clear hxy
        go_wp2_with fail
        go_quiet (fail)
        go_wp2_with fail
        go_ret
        exact⟨by rw [HF.out];rfl,z0f HB.out _⟩
    · obtain rfl:j=n:=by omega
      have HF:Hid (decide (L=M)=true):=hid (decide_eq_true (lists_same HLN.out HMN.out HE.out))
      go_wp2_with fail
      go_ret
      exact⟨by rw [HF.out];rfl,HB.out⟩
 · have h0:((n:Int) != (m:Int))=true:=by simp;omega
   have HF:Hid (decide (L=M)=false):=hid (decide_eq_false fun e=>hnm (by rw [← HLN.out,← HMN.out,e]))
   clear hLl hMl
   go_enter Tryd.func21,Tryd.ntmps21
   go_wp2_with fail
   go_ret
   exact⟨by rw [HF.out];rfl,Below.refl _ _⟩
theorem line_neq (a z a' z':Int) (w:World):(binOp .neq 80 (.agg #[.int .u8 a,.int .i64 z]) (.agg #[.int .u8 a',.int .i64 z'])).run Tryd.prog w=.ok (.bool (!decide (((a,z):Ln)=(a',z')))) w:=by
 by_cases h1:a=a'
 · by_cases h4:z=z'
   · subst h1 h4
     go_simp
   · subst h1
     go_simp
 · go_simp
theorem lnlists_same {L M:List Ln} {n:Nat} (hL:L.length=n) (hM:M.length=n) (h:∀ j,j<n→L.getD j l0=M.getD j l0):L=M:=by
 apply List.ext_getElem (by omega)
 intro i h1 h2
 have:=h i (by omega)
 simpa [List.getD,List.getElem?_eq_getElem h1,List.getElem?_eq_getElem h2] using this
theorem rsame_ln (p q:Option Addr) (n m c d:Nat) (L M:List Ln) (W:World) (hL:LL W p n c L) (hM:LL W q m d M) (hn:n≤100000) (hm:m≤100000) :
 Calls Tryd.prog 59 #[.slice p n c,.slice q m d] W fun e w'=>e=.returned (.bool (decide (L=M)))∧Below W.heap.size W w':=by
 have HL:=hid hL
 have HM:=hid hM
 have hLl:=hL.len
 have hMl:=hM.len
 have HLN:=hid hLl
 have HMN:=hid hMl
 clear hL hM
 by_cases hnm:n=m
 · subst hnm
   have h0:((n:Int) != (n:Int))=false:=by simp
   have hcc:=HL.out.cap
   have hcd:=HM.out.cap
   clear hLl hMl
   go_enter Tryd.func59,Tryd.ntmps59
   go_wp2_with fail
   go_loopw [5] (fun i wr=>∃ j:Nat,j≤n∧i=.int .i64 j∧Hid (Below W.heap.size W wr)∧Hid (∀ i,i<j→L.getD i l0=M.getD i l0)) (fun i _=>n-(Go.RowKit.intOf i).toNat)
   case atStart=>exact⟨0,Nat.zero_le _,rfl,hid (Below.refl _ _),hid fun i hi=>by omega⟩
   case round =>
    obtain⟨j,hj,rfl,HB,HE⟩:=hrel
    by_cases hlt:j<n
    · have hlt':(j:Int)<n:=by omega
      obtain⟨b,off,rfl,_,c0,c1⟩:=z1m (HL.out.later HB.out) hlt
      obtain⟨b',off',rfl,_,d0,d1⟩:=z1m (HM.out.later HB.out) hlt
      generalize hx:L.getD j l0=x at *
      generalize hy:M.getD j l0=y at *
      have HX:=hid hx
      have HY:=hid hy
      have hq:=fun w=>line_neq x.1 x.2 y.1 y.2 w
      have e1:decide (((x.1,x.2):Ln)=(y.1,y.2))=decide (x=y):=rfl
      rw [e1] at hq
      clear e1 hx hy
      by_cases hxy:x=y
      · rw [decide_eq_true hxy] at hq
        have HXY:=hid hxy
        clear hxy
        go_wp2_with fail
        go_quiet (fail)
        go_wp2_with fail
        go_roundw
        case rel =>
         refine⟨j+1,by omega,by go_num,hid (z0f HB.out _),hid fun i hi=>?_⟩
         by_cases e:i=j
         · subst e;rw [HX.out,HY.out,HXY.out]
         · exact HE.out i (by omega)
        case measure=>simp [Go.RowKit.intOf];omega
      · rw [decide_eq_false hxy] at hq
        have HF:Hid (decide (L=M)=false):=hid (decide_eq_false fun e=>hxy (by rw [← HX.out,← HY.out,e]))
        clear hxy
        go_wp2_with fail
        go_quiet (fail)
        go_wp2_with fail
        go_ret
        exact⟨by rw [HF.out];rfl,z0f HB.out _⟩
    · obtain rfl:j=n:=by omega
      have HF:Hid (decide (L=M)=true):=hid (decide_eq_true (lnlists_same HLN.out HMN.out HE.out))
      go_wp2_with fail
      go_ret
      exact⟨by rw [HF.out];rfl,HB.out⟩
 · have h0:((n:Int) != (m:Int))=true:=by simp;omega
   have HF:Hid (decide (L=M)=false):=hid (decide_eq_false fun e=>hnm (by rw [← HLN.out,← HMN.out,e]))
   clear hLl hMl
   go_enter Tryd.func59,Tryd.ntmps59
   go_wp2_with fail
   go_ret
   exact⟨by rw [HF.out];rfl,Below.refl _ _⟩
theorem equal_ln (p q:Option Addr) (n m c d:Nat) (L M:List Ln) (W:World) (hL:LL W p n c L) (hM:LL W q m d M) (hn:n≤100000) (hm:m≤100000) :
 Calls Tryd.prog 81 #[.slice p n c,.slice q m d] W fun e w'=>e=.returned (.bool (decide (L=M)))∧Below W.heap.size W w':=by
 have HL:=hid hL
 have HM:=hid hM
 have HLN:=hid hL.len
 have HMN:=hid hM.len
 clear hL hM
 by_cases hnm:n=m
 · subst hnm
   have h0:((n:Int) != (n:Int))=false:=by simp
   have hcc:=HL.out.cap
   have hcd:=HM.out.cap
   go_enter Tryd.func81,Tryd.ntmps81
   go_wp2_with fail
   go_loopw [13] (fun i wr=>∃ j:Nat,j≤n∧i=.int .i64 j∧Hid (Below W.heap.size W wr)∧Hid (∀ i,i<j→L.getD i l0=M.getD i l0)) (fun i _=>n-(Go.RowKit.intOf i).toNat)
   case atStart=>exact⟨0,Nat.zero_le _,rfl,hid (Below.refl _ _),hid fun i hi=>by omega⟩
   case round =>
    obtain⟨j,hj,rfl,HB,HE⟩:=hrel
    by_cases hlt:j<n
    · have hlt':(j:Int)<n:=by omega
      obtain⟨b,off,rfl,_,c0,c1⟩:=z1m (HL.out.later HB.out) hlt
      obtain⟨b',off',rfl,_,d0,d1⟩:=z1m (HM.out.later HB.out) hlt
      generalize hx:L.getD j l0=x at *
      generalize hy:M.getD j l0=y at *
      have HX:=hid hx
      have HY:=hid hy
      have hq:=fun w=>line_neq x.1 x.2 y.1 y.2 w
      have e1:decide (((x.1,x.2):Ln)=(y.1,y.2))=decide (x=y):=rfl
      rw [e1] at hq
      clear e1 hx hy
      by_cases hxy:x=y
      · rw [decide_eq_true hxy] at hq
        have HXY:=hid hxy
        clear hxy
        go_wp2_with fail
        go_quiet (fail)
        go_wp2_with fail
        go_roundw
        case rel =>
         refine⟨j+1,by omega,by go_num,hid (z0f HB.out _),hid fun i hi=>?_⟩
         by_cases e:i=j
         · subst e;rw [HX.out,HY.out,HXY.out]
         · exact HE.out i (by omega)
        case measure=>simp [Go.RowKit.intOf];omega
      · rw [decide_eq_false hxy] at hq
        have HF:Hid (decide (L=M)=false):=hid (decide_eq_false fun e=>hxy (by rw [← HX.out,← HY.out,e]))
        clear hxy
        go_wp2_with fail
        go_quiet (fail)
        go_wp2_with fail
        go_ret
        exact⟨by rw [HF.out];rfl,z0f HB.out _⟩
    · obtain rfl:j=n:=by omega
      have HF:Hid (decide (L=M)=true):=hid (decide_eq_true (lnlists_same HLN.out HMN.out HE.out))
      go_wp2_with fail
      go_ret
      exact⟨by rw [HF.out];rfl,HB.out⟩
 · have h0:((n:Int) != (m:Int))=true:=by simp;omega
   have HF:Hid (decide (L=M)=false):=hid (decide_eq_false fun e=>hnm (by rw [← HLN.out,← HMN.out,e]))
   go_enter Tryd.func81,Tryd.ntmps81
   go_wp2_with fail
   go_ret
   exact⟨by rw [HF.out];rfl,Below.refl _ _⟩
theorem take_neq (o a w z o' a' w' z':Int) (W:World):(binOp .neq 60 (.agg #[.int .u32 o,.int .u8 a,.int .u8 w,.int .i64 z]) (.agg #[.int .u32 o',.int .u8 a',.int .u8 w',.int .i64 z'])).run Tryd.prog W=.ok (.bool (!decide (((o,a,w,z):Tk)=(o',a',w',z')))) W:=by
 by_cases h1:o=o'
 · by_cases h2:a=a'
   · by_cases h3:w=w'
     · by_cases h4:z=z'
       · subst h1 h2 h3 h4
         go_simp
       · subst h1 h2 h3
         go_simp
     · subst h1 h2
       go_simp
   · subst h1
     go_simp
 · go_simp
theorem tklists_same {L M:List Tk} {n:Nat} (hL:L.length=n) (hM:M.length=n) (h:∀ j,j<n→L.getD j tk0=M.getD j tk0):L=M:=by
 apply List.ext_getElem (by omega)
 intro i h1 h2
 have:=h i (by omega)
 simpa [List.getD,List.getElem?_eq_getElem h1,List.getElem?_eq_getElem h2] using this
theorem rsame_tk (p q:Option Addr) (n m c d:Nat) (L M:List Tk) (W:World) (hL:TKL W p n c L) (hM:TKL W q m d M) (hn:n≤100000) (hm:m≤100000) :
 Calls Tryd.prog 60 #[.slice p n c,.slice q m d] W fun e w'=>e=.returned (.bool (decide (L=M)))∧Below W.heap.size W w':=by
 have HL:=hid hL
 have HM:=hid hM
 have hLl:=hL.len
 have hMl:=hM.len
 have HLN:=hid hLl
 have HMN:=hid hMl
 clear hL hM
 by_cases hnm:n=m
 · subst hnm
   have h0:((n:Int) != (n:Int))=false:=by simp
   have hcc:=HL.out.cap
   have hcd:=HM.out.cap
   clear hLl hMl
   go_enter Tryd.func60,Tryd.ntmps60
   go_wp2_with fail
   go_loopw [5] (fun i wr=>∃ j:Nat,j≤n∧i=.int .i64 j∧Hid (Below W.heap.size W wr)∧Hid (∀ i,i<j→L.getD i tk0=M.getD i tk0)) (fun i _=>n-(Go.RowKit.intOf i).toNat)
   case atStart=>exact⟨0,Nat.zero_le _,rfl,hid (Below.refl _ _),hid fun i hi=>by omega⟩
   case round =>
    obtain⟨j,hj,rfl,HB,HE⟩:=hrel
    by_cases hlt:j<n
    · have hlt':(j:Int)<n:=by omega
      obtain⟨b,off,rfl,_,c0,c1,c2,c3⟩:=z1a (HL.out.later HB.out) hlt
      obtain⟨b',off',rfl,_,d0,d1,d2,d3⟩:=z1a (HM.out.later HB.out) hlt
      generalize hx:L.getD j tk0=x at *
      generalize hy:M.getD j tk0=y at *
      have HX:=hid hx
      have HY:=hid hy
      have hq:=fun w=>take_neq x.1 x.2.1 x.2.2.1 x.2.2.2 y.1 y.2.1 y.2.2.1 y.2.2.2 w
      have e1:decide (((x.1,x.2.1,x.2.2.1,x.2.2.2):Tk)=(y.1,y.2.1,y.2.2.1,y.2.2.2))=decide (x=y):=rfl
      rw [e1] at hq
      clear e1 hx hy
      by_cases hxy:x=y
      · rw [decide_eq_true hxy] at hq
        have HXY:=hid hxy
        clear hxy
        go_wp2_with fail
        go_quiet (fail)
        go_wp2_with fail
        go_roundw
        case rel =>
         refine⟨j+1,by omega,by go_num,hid (z0f HB.out _),hid fun i hi=>?_⟩
         by_cases e:i=j
         · subst e;rw [HX.out,HY.out,HXY.out]
         · exact HE.out i (by omega)
        case measure=>simp [Go.RowKit.intOf];omega
      · rw [decide_eq_false hxy] at hq
        have HF:Hid (decide (L=M)=false):=hid (decide_eq_false fun e=>hxy (by rw [← HX.out,← HY.out,e]))
        clear hxy
        go_wp2_with fail
        go_quiet (fail)
        go_wp2_with fail
        go_ret
        exact⟨by rw [HF.out];rfl,z0f HB.out _⟩
    · obtain rfl:j=n:=by omega
      have HF:Hid (decide (L=M)=true):=hid (decide_eq_true (tklists_same HLN.out HMN.out HE.out))
      go_wp2_with fail
      go_ret
      exact⟨by rw [HF.out];rfl,HB.out⟩
 · have h0:((n:Int) != (m:Int))=true:=by simp;omega
   have HF:Hid (decide (L=M)=false):=hid (decide_eq_false fun e=>hnm (by rw [← HLN.out,← HMN.out,e]))
   clear hLl hMl
   go_enter Tryd.func60,Tryd.ntmps60
   go_wp2_with fail
   go_ret
   exact⟨by rw [HF.out];rfl,Below.refl _ _⟩
theorem z2j (W:World) (a b:Array Value):∃ W2,(W.alloc (.cells a 26)).alloc (.cells b 26)=W2∧W2.heap[W.heap.size]?=some (.cells a 26 (0,0))∧W2.heap[W.heap.size+1]?=some (.cells b 26 (0,0))∧Below W.heap.size W W2:=by
 refine⟨_,rfl,?_,?_,((Below.refl _ _).alloc (Nat.le_refl _) _).alloc (by simp) _⟩
 · exact (Below.heap_alloc _ _ _ (by simp)).trans (z0d W _)
 · have:=z0d (W.alloc (.cells a 26)) (.cells b 26)
   rwa [World.size_alloc] at this
theorem prog_cases (k od po:Int) (L:List Ln) (T:List Tk) (M:List Ln) (sk fr to q:Int) (k' od' po':Int) (L':List Ln) (T':List Tk) (M':List Ln) (sk' fr' to' q':Int) :
 ((decide ((⟨k,od,po,L,T,M,sk,fr,to,q⟩:Pg)=⟨k',od',po',L',T',M',sk',fr',to',q'⟩):Bool)=((k==k') && (od==od') && (po==po') && decide (L=L') && decide (T=T') && decide (M=M') && (sk==sk') && (fr==fr') && (to==to') && (q==q'))):=by
 rw [Bool.eq_iff_iff]
 simp [and_assoc]
end Go.Proofs.YtnpjpelbcmgodaaDoor
