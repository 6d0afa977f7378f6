import Derived.Test.YtclbkfpbdidaiaaDoorPA22
namespace Go.Proofs.YtclbkfpbdidaiaaDoor
open Go.Lib (hid)
set_option maxHeartbeats 8000000
open Go.RowKit Go.ChangeShapes Go.WideShapes
set_option linter.unusedVariables false
set_option maxRecDepth 10000
theorem info_ln:(Tryd.prog.info? 29).map (fun i=>(i.zero,i.size,i.bytes))=some (some (.agg #[.int .u8 0,.int .i64 0]),2,16):=by kernel_rfl
theorem info_tk:(Tryd.prog.info? 89).map (fun i=>(i.zero,i.size,i.bytes))=some (some (.agg #[.int .u32 0,.int .u8 0,.int .u8 0,.int .i64 0]),4,16):=by kernel_rfl
theorem slg_cells {α:Type} {enc:α→List Value} {k:Nat} {d:α} (hk:∀ x,(enc x).length=k) (hk0:0<k) {w:World} {p:Option Addr} {n c:Nat} {L:List α} (h:SlG enc k d w p n c L):∀ ad,p=some ad→∀ j u,(z0m enc L)[j]?=some u→w.cell? (ad.add j)=some u:=by
 intro ad ha j u hu
 have hj:j<L.length*k:=by
  rw [← z1e hk L]
  exact (List.getElem?_eq_some_iff.1 hu).1
 have hn:=h.len
 have hpos:0<L.length:=by
  rcases Nat.eq_zero_or_pos L.length with h | h
  · rw [h,Nat.zero_mul] at hj;omega
  · exact h
 obtain⟨b,off,rfl,_,hc⟩:=h.cell (by omega)
 cases ha
 have hd:=Nat.div_add_mod j k
 have e:j / k*k+j % k=j:=by rw [Nat.mul_comm];exact hd
 have hq:j / k<L.length:=Nat.div_lt_of_lt_mul (by rw [Nat.mul_comm];exact hj)
 have hm:j % k<k:=Nat.mod_lt _ hk0
 have hu2:(z0m enc L)[j / k*k+j % k]?=some u:=by rw [e];exact hu
 rw [flatG_at (d:=d) hk L (j / k) (j % k) hq hm] at hu2
 have:=hc (j / k) (by omega) (j % k) u hu2
 rw [Go.WideShapes.add_plain]
 rwa [Nat.add_assoc,e] at this
theorem slg_none {α:Type} {enc:α→List Value} {k:Nat} {d:α} {w:World} {p:Option Addr} {n c:Nat} {L:List α} (h:SlG enc k d w p n c L):p=none→n=0∧c=0:=fun hp=>by
 have h1:=h.nil hp
 have h2:=h.cap
 exact⟨by omega,h1⟩
theorem own_since {w:World} {B:Nat} {T:TypeId} {k:Nat} {v:Value} {n:Nat} {xs:List Value} (h:w.ownsRow 0 T k v n xs) (hb:∀ b,v.ownBlock=some b→B≤b):w.ownsRow B T k v n xs:=by
 refine⟨h.1,?_⟩
 rcases h.2 with hn | ⟨g,cap,cur,he,h1,h2,h3⟩
 · exact .inl hn
 · exact .inr ⟨g,cap,cur,he,hb g (by rw [he];rfl),h2,h3⟩
theorem clone_ln (p:Option Addr) (n c:Nat) (L:List Ln) (W:World) (hL:LL W p n c L) (hn:n≤100000) :
 Calls Tryd.prog 51 #[.slice p n c] W fun e w'=>∃ v,e=.returned v∧FillG lc 2 29 W w' v L n:=by
 have q:=fun (w:World) (a:Option Addr) (n c n' c':Nat)=>Lib.run_eql_slice_nil w 22 29 a n c n' c' Tryd.underlying22
 cases p with
 | none =>
  obtain rfl:=hL.nil rfl
  obtain rfl:n=0:=Nat.le_zero.1 hL.cap
  obtain rfl:L=[]:=List.eq_nil_of_length_eq_zero hL.len
  go_enter Tryd.func51,Tryd.ntmps51
  go_wp2_with fail
  go_ret
  exact⟨_,rfl,FillG.nil W⟩
 | some ad =>
  have hb1:Below W.heap.size W (W.alloc (.cells #[] 29)):=(Below.refl _ _).alloc (Nat.le_refl _) _
  have HB1:=hid hb1
  have HR1:Hid ((W.alloc (.cells #[] 29)).ownsRow 0 29 2 (.slice (some ⟨W.heap.size,0,none⟩) 0 0) 0 (z0m lc [])):=hid ⟨rfl,.inr ⟨W.heap.size,0,#[],rfl,Nat.zero_le _,z0b W _,Nat.zero_le _,Nat.zero_le _,by simp,by simp [z0m]⟩⟩
  have HL1:=hid (SlG.later hL hb1)
  have HLN:=hid hL.len
  clear hL hb1
  go_enter Tryd.func51,Tryd.ntmps51
  go_wp2_with (at_builtin;refine z0z (k:=2) (by decide) Tryd.underlying22 info_ln rfl (by omega) rfl _ _ rfl (.slice (some ⟨W.heap.size,0,none⟩) 0 0) 0 (z0m lc []) rfl HR1.out (some ad) n c (z0m lc L) rfl (by rw [z1e lc_len,HLN.out]) (slg_none HL1.out) (slg_cells lc_len (by decide) HL1.out) (z1c lc_one L) (by omega) ?_;intro p' c' w3 hr3 hc3 hl3)
  rw [← z0x,List.nil_append,Nat.zero_add] at hr3
  rw [Nat.zero_add] at hl3
  have hown:∀ b,(Value.slice p' n c').ownBlock=some b→W.heap.size≤b:=fun b hb=>by
   rcases hl3 b hb with h | h
   · cases h
     exact Nat.le_refl _
   · have:=HB1.out.size
     omega
  have HF:=hid (show FillG lc 2 29 W w3 (.slice p' n c') L n from ⟨by rw [HLN.out];exact own_since hr3 hown,hc3.below HB1.out HB1.out.size fun k hk=>by cases hk;exact Nat.le_refl _,Nat.le_of_eq HLN.out⟩)
  clear hr3 hc3 hl3 hown
  go_ret
  exact⟨_,rfl,HF.out⟩
theorem clone_tk (p:Option Addr) (n c:Nat) (L:List Tk) (W:World) (hL:TKL W p n c L) (hn:n≤100000) :
 Calls Tryd.prog 57 #[.slice p n c] W fun e w'=>∃ v,e=.returned v∧FillG tkc 4 89 W w' v L n:=by
 have q:=fun (w:World) (a:Option Addr) (n c n' c':Nat)=>Lib.run_eql_slice_nil w 31 89 a n c n' c' Tryd.underlying31
 cases p with
 | none =>
  obtain rfl:=hL.nil rfl
  obtain rfl:n=0:=Nat.le_zero.1 hL.cap
  obtain rfl:L=[]:=List.eq_nil_of_length_eq_zero hL.len
  go_enter Tryd.func57,Tryd.ntmps57
  go_wp2_with fail
  go_ret
  exact⟨_,rfl,FillG.nil W⟩
 | some ad =>
  have hb1:Below W.heap.size W (W.alloc (.cells #[] 89)):=(Below.refl _ _).alloc (Nat.le_refl _) _
  have HB1:=hid hb1
  have HR1:Hid ((W.alloc (.cells #[] 89)).ownsRow 0 89 4 (.slice (some ⟨W.heap.size,0,none⟩) 0 0) 0 (z0m tkc [])):=hid ⟨rfl,.inr ⟨W.heap.size,0,#[],rfl,Nat.zero_le _,z0b W _,Nat.zero_le _,Nat.zero_le _,by simp,by simp [z0m]⟩⟩
  have HL1:=hid (SlG.later hL hb1)
  have HLN:=hid hL.len
  clear hL hb1
  go_enter Tryd.func57,Tryd.ntmps57
  go_wp2_with (at_builtin;refine z0z (k:=4) (by decide) Tryd.underlying31 info_tk rfl (by omega) rfl _ _ rfl (.slice (some ⟨W.heap.size,0,none⟩) 0 0) 0 (z0m tkc []) rfl HR1.out (some ad) n c (z0m tkc L) rfl (by rw [z1e tkc_len,HLN.out]) (slg_none HL1.out) (slg_cells tkc_len (by decide) HL1.out) (z1c tkc_one L) (by omega) ?_;intro p' c' w3 hr3 hc3 hl3)
  rw [← z0x,List.nil_append,Nat.zero_add] at hr3
  rw [Nat.zero_add] at hl3
  have hown:∀ b,(Value.slice p' n c').ownBlock=some b→W.heap.size≤b:=fun b hb=>by
   rcases hl3 b hb with h | h
   · cases h
     exact Nat.le_refl _
   · have:=HB1.out.size
     omega
  have HF:=hid (show FillG tkc 4 89 W w3 (.slice p' n c') L n from ⟨by rw [HLN.out];exact own_since hr3 hown,hc3.below HB1.out HB1.out.size fun k hk=>by cases hk;exact Nat.le_refl _,Nat.le_of_eq HLN.out⟩)
  clear hr3 hc3 hl3 hown
  go_ret
  exact⟨_,rfl,HF.out⟩
theorem filli_slice {W wr:World} {v:Value} {L:List Int} {N:Nat} (h:FillI W wr v L N):∃ p c,v=.slice p L.length c∧IL wr p L.length c L:=by
 obtain⟨p,c,hv,hs,_⟩:=SlG.of_own (d:=0) ic_len (by decide) h.own
 exact⟨p,c,hv,hs⟩
theorem line_neq (a z a' z':Int) (w:World):(binOp .neq 29 (.agg #[.int .u8 a,.int .i64 z]) (.agg #[.int .u8 a',.int .i64 z'])).run Tryd.prog w=.ok (.bool (!decide (((a,z):Ln)=(a',z')))) w:=by
 by_cases h1:a=a'
 · by_cases h4:z=z'
   · subst h1 h4
     go_simp
   · subst h1
     go_simp
 · go_simp
theorem lnlists_same {L M:List Ln} {n:Nat} (hL:L.length=n) (hM:M.length=n) (h:∀ j,j<n→L.getD j l0=M.getD j l0):L=M:=by
 apply List.ext_getElem (by omega)
 intro i h1 h2
 have:=h i (by omega)
 simpa [List.getD,List.getElem?_eq_getElem h1,List.getElem?_eq_getElem h2] using this
theorem equal_ln (p q:Option Addr) (n m c d:Nat) (L M:List Ln) (W:World) (hL:LL W p n c L) (hM:LL W q m d M) (hn:n≤100000) (hm:m≤100000) :
 Calls Tryd.prog 77 #[.slice p n c,.slice q m d] W fun e w'=>e=.returned (.bool (decide (L=M)))∧Below W.heap.size W w':=by
 have HL:=hid hL
 have HM:=hid hM
 have HLN:=hid hL.len
 have HMN:=hid hM.len
 clear hL hM
 by_cases hnm:n=m
 · subst hnm
   have h0:((n:Int) != (n:Int))=false:=by simp
   have hcc:=HL.out.cap
   have hcd:=HM.out.cap
   go_enter Tryd.func77,Tryd.ntmps77
   go_wp2_with fail
   go_loopw [13] (fun i wr=>∃ j:Nat,j≤n∧i=.int .i64 j∧Hid (Below W.heap.size W wr)∧Hid (∀ i,i<j→L.getD i l0=M.getD i l0)) (fun i _=>n-(Go.RowKit.intOf i).toNat)
   case atStart=>exact⟨0,Nat.zero_le _,rfl,hid (Below.refl _ _),hid fun i hi=>by omega⟩
   case round =>
    obtain⟨j,hj,rfl,HB,HE⟩:=hrel
    by_cases hlt:j<n
    · have hlt':(j:Int)<n:=by omega
      obtain⟨b,off,rfl,_,c0,c1⟩:=z1o (HL.out.later HB.out) hlt
      obtain⟨b',off',rfl,_,d0,d1⟩:=z1o (HM.out.later HB.out) hlt
      generalize hx:L.getD j l0=x at *
      generalize hy:M.getD j l0=y at *
      have HX:=hid hx
      have HY:=hid hy
      have hq:=fun w=>line_neq x.1 x.2 y.1 y.2 w
      have e1:decide (((x.1,x.2):Ln)=(y.1,y.2))=decide (x=y):=rfl
      rw [e1] at hq
      clear e1 hx hy
      by_cases hxy:x=y
      · rw [decide_eq_true hxy] at hq
        have HXY:=hid hxy
        clear hxy
        go_wp2_with fail
        go_quiet (fail)
        go_wp2_with fail
        go_roundw
        case rel =>
         refine⟨j+1,by omega,by go_num,hid (z0j HB.out _),hid fun i hi=>?_⟩
         by_cases e:i=j
         · subst e;rw [HX.out,HY.out,HXY.out]
         · exact HE.out i (by omega)
        case measure=>simp [Go.RowKit.intOf];omega
      · rw [decide_eq_false hxy] at hq
        have HF:Hid (decide (L=M)=false):=hid (decide_eq_false fun e=>hxy (by rw [← HX.out,← HY.out,e]))
        clear hxy
        go_wp2_with fail
        go_quiet (fail)
        go_wp2_with fail
        go_ret
        exact⟨by rw [HF.out];rfl,z0j HB.out _⟩
    · obtain rfl:j=n:=by omega
      have HF:Hid (decide (L=M)=true):=hid (decide_eq_true (lnlists_same HLN.out HMN.out HE.out))
      go_wp2_with fail
      go_ret
      exact⟨by rw [HF.out];rfl,HB.out⟩
 · have h0:((n:Int) != (m:Int))=true:=by simp;omega
   have HF:Hid (decide (L=M)=false):=hid (decide_eq_false fun e=>hnm (by rw [← HLN.out,← HMN.out,e]))
   go_enter Tryd.func77,Tryd.ntmps77
   go_wp2_with fail
   go_ret
   exact⟨by rw [HF.out];rfl,Below.refl _ _⟩
theorem take_neq (o a w z o' a' w' z':Int) (W:World):(binOp .neq 89 (.agg #[.int .u32 o,.int .u8 a,.int .u8 w,.int .i64 z]) (.agg #[.int .u32 o',.int .u8 a',.int .u8 w',.int .i64 z'])).run Tryd.prog W=.ok (.bool (!decide (((o,a,w,z):Tk)=(o',a',w',z')))) W:=by
 by_cases h1:o=o'
 · by_cases h2:a=a'
   · by_cases h3:w=w'
     · by_cases h4:z=z'
       · subst h1 h2 h3 h4
         go_simp
       · subst h1 h2 h3
         go_simp
     · subst h1 h2
       go_simp
   · subst h1
     go_simp
 · go_simp
theorem tklists_same {L M:List Tk} {n:Nat} (hL:L.length=n) (hM:M.length=n) (h:∀ j,j<n→L.getD j tk0=M.getD j tk0):L=M:=by
 apply List.ext_getElem (by omega)
 intro i h1 h2
 have:=h i (by omega)
 simpa [List.getD,List.getElem?_eq_getElem h1,List.getElem?_eq_getElem h2] using this
theorem two_progs (W:World) (a b:Array Value):∃ W2,(W.alloc (.cells a 33)).alloc (.cells b 33)=W2∧W2.heap[W.heap.size]?=some (.cells a 33 (0,0))∧W2.heap[W.heap.size+1]?=some (.cells b 33 (0,0))∧Below W.heap.size W W2:=by
 refine⟨_,rfl,?_,?_,((Below.refl _ _).alloc (Nat.le_refl _) _).alloc (by simp) _⟩
 · exact (Below.heap_alloc _ _ _ (by simp)).trans (z0b W _)
 · have:=z0b (W.alloc (.cells a 33)) (.cells b 33)
   rwa [World.size_alloc] at this
theorem prog_cases (k od po:Int) (L:List Ln) (T:List Tk) (M:List Ln) (sk fr to q:Int) (k' od' po':Int) (L':List Ln) (T':List Tk) (M':List Ln) (sk' fr' to' q':Int) :
 ((decide ((⟨k,od,po,L,T,M,sk,fr,to,q⟩:Pg)=⟨k',od',po',L',T',M',sk',fr',to',q'⟩):Bool)=((k==k') && (od==od') && (po==po') && decide (L=L') && decide (T=T') && decide (M=M') && (sk==sk') && (fr==fr') && (to==to') && (q==q'))):=by
 rw [Bool.eq_iff_iff]
 simp [and_assoc]
theorem cells_two (k od po:Int) (lp:Option Addr) (ln lcp:Nat) (tp:Option Addr) (tn tcp:Nat) (wp:Option Addr) (wn wcp:Nat) (sk fr to q:Int) (k' od' po':Int) (lp':Option Addr) (ln' lcp':Nat) (tp':Option Addr) (tn' tcp':Nat) (wp':Option Addr) (wn' wcp':Nat) (sk' fr' to' q':Int) {w:World} {X Y:Nat} (hx:w.heap[X]?=some (.cells #[.int .u8 k,.int .u32 od,.int .u8 po,.slice lp ln lcp,.slice tp tn tcp,.slice wp wn wcp,.int .u8 sk,.int .u8 fr,.int .u8 to,.int .i64 q] 33 (0,0))) (hy:w.heap[Y]?=some (.cells #[.int .u8 k',.int .u32 od',.int .u8 po',.slice lp' ln' lcp',.slice tp' tn' tcp',.slice wp' wn' wcp',.int .u8 sk',.int .u8 fr',.int .u8 to',.int .i64 q'] 33 (0,0))) :
 w.cell? ⟨X,0,none⟩=some (.int .u8 k)∧w.cell? ⟨X,1,none⟩=some (.int .u32 od)∧w.cell? ⟨X,2,none⟩=some (.int .u8 po)∧w.cell? ⟨X,3,none⟩=some (.slice lp ln lcp)∧w.cell? ⟨X,4,none⟩=some (.slice tp tn tcp)∧w.cell? ⟨X,5,none⟩=some (.slice wp wn wcp)∧w.cell? ⟨X,6,none⟩=some (.int .u8 sk)∧w.cell? ⟨X,7,none⟩=some (.int .u8 fr)∧w.cell? ⟨X,8,none⟩=some (.int .u8 to)∧w.cell? ⟨X,9,none⟩=some (.int .i64 q)∧w.cell? ⟨Y,0,none⟩=some (.int .u8 k')∧w.cell? ⟨Y,1,none⟩=some (.int .u32 od')∧w.cell? ⟨Y,2,none⟩=some (.int .u8 po')∧w.cell? ⟨Y,3,none⟩=some (.slice lp' ln' lcp')∧w.cell? ⟨Y,4,none⟩=some (.slice tp' tn' tcp')∧w.cell? ⟨Y,5,none⟩=some (.slice wp' wn' wcp')∧w.cell? ⟨Y,6,none⟩=some (.int .u8 sk')∧w.cell? ⟨Y,7,none⟩=some (.int .u8 fr')∧w.cell? ⟨Y,8,none⟩=some (.int .u8 to')∧w.cell? ⟨Y,9,none⟩=some (.int .i64 q'):=⟨z0a hx rfl,z0a hx rfl,z0a hx rfl,z0a hx rfl,z0a hx rfl,z0a hx rfl,z0a hx rfl,z0a hx rfl,z0a hx rfl,z0a hx rfl,z0a hy rfl,z0a hy rfl,z0a hy rfl,z0a hy rfl,z0a hy rfl,z0a hy rfl,z0a hy rfl,z0a hy rfl,z0a hy rfl,z0a hy rfl⟩
theorem equal_tk (p q:Option Addr) (n m c d:Nat) (L M:List Tk) (W:World) (hL:TKL W p n c L) (hM:TKL W q m d M) (hn:n≤100000) (hm:m≤100000) :
 Calls Tryd.prog 78 #[.slice p n c,.slice q m d] W fun e w'=>e=.returned (.bool (decide (L=M)))∧Below W.heap.size W w':=by
 have HL:=hid hL
 have HM:=hid hM
 have HLN:=hid hL.len
 have HMN:=hid hM.len
 clear hL hM
 by_cases hnm:n=m
 · subst hnm
   have h0:((n:Int) != (n:Int))=false:=by simp
   have hcc:=HL.out.cap
   have hcd:=HM.out.cap
   go_enter Tryd.func78,Tryd.ntmps78
   go_wp2_with fail
   go_loopw [13] (fun i wr=>∃ j:Nat,j≤n∧i=.int .i64 j∧Hid (Below W.heap.size W wr)∧Hid (∀ i,i<j→L.getD i tk0=M.getD i tk0)) (fun i _=>n-(Go.RowKit.intOf i).toNat)
   case atStart=>exact⟨0,Nat.zero_le _,rfl,hid (Below.refl _ _),hid fun i hi=>by omega⟩
   case round =>
    obtain⟨j,hj,rfl,HB,HE⟩:=hrel
    by_cases hlt:j<n
    · have hlt':(j:Int)<n:=by omega
      obtain⟨b,off,rfl,_,c0,c1,c2,c3⟩:=z1m (HL.out.later HB.out) hlt
      obtain⟨b',off',rfl,_,d0,d1,d2,d3⟩:=z1m (HM.out.later HB.out) hlt
      generalize hx:L.getD j tk0=x at *
      generalize hy:M.getD j tk0=y at *
      have HX:=hid hx
      have HY:=hid hy
      have hq:=fun w=>take_neq x.1 x.2.1 x.2.2.1 x.2.2.2 y.1 y.2.1 y.2.2.1 y.2.2.2 w
      have e1:decide (((x.1,x.2.1,x.2.2.1,x.2.2.2):Tk)=(y.1,y.2.1,y.2.2.1,y.2.2.2))=decide (x=y):=rfl
      rw [e1] at hq
      clear e1 hx hy
      by_cases hxy:x=y
      · rw [decide_eq_true hxy] at hq
        have HXY:=hid hxy
        clear hxy
        go_wp2_with fail
        go_quiet (fail)
        go_wp2_with fail
        go_roundw
        case rel =>
         refine⟨j+1,by omega,by go_num,hid (z0j HB.out _),hid fun i hi=>?_⟩
         by_cases e:i=j
         · subst e;rw [HX.out,HY.out,HXY.out]
         · exact HE.out i (by omega)
        case measure=>simp [Go.RowKit.intOf];omega
      · rw [decide_eq_false hxy] at hq
        have HF:Hid (decide (L=M)=false):=hid (decide_eq_false fun e=>hxy (by rw [← HX.out,← HY.out,e]))
        clear hxy
        go_wp2_with fail
        go_quiet (fail)
        go_wp2_with fail
        go_ret
        exact⟨by rw [HF.out];rfl,z0j HB.out _⟩
    · obtain rfl:j=n:=by omega
      have HF:Hid (decide (L=M)=true):=hid (decide_eq_true (tklists_same HLN.out HMN.out HE.out))
      go_wp2_with fail
      go_ret
      exact⟨by rw [HF.out];rfl,HB.out⟩
 · have h0:((n:Int) != (m:Int))=true:=by simp;omega
   have HF:Hid (decide (L=M)=false):=hid (decide_eq_false fun e=>hnm (by rw [← HLN.out,← HMN.out,e]))
   go_enter Tryd.func78,Tryd.ntmps78
   go_wp2_with fail
   go_ret
   exact⟨by rw [HF.out];rfl,Below.refl _ _⟩
theorem prog_order (k od po sk fr to q k' od' po' sk' fr' to' q':Int) (L:List Ln) (T:List Tk) (M:List Ln) (L':List Ln) (T':List Tk) (M':List Ln):((k==k') && (od==od') && (po==po') && decide (L=L') && decide (T=T') && decide (M=M') && (sk==sk') && (fr==fr') && (to==to') && (q==q'))=((k==k') && (od==od') && (po==po') && (sk==sk') && (fr==fr') && (to==to') && (q==q') && decide (L=L') && decide (T=T') && decide (M=M')):=by
 generalize (k==k')=x0
 generalize (od==od')=x1
 generalize (po==po')=x2
 generalize decide (L=L')=x3
 generalize decide (T=T')=x4
 generalize decide (M=M')=x5
 generalize (sk==sk')=x6
 generalize (fr==fr')=x7
 generalize (to==to')=x8
 generalize (q==q')=x9
 cases x0 <;> cases x1 <;> cases x2 <;> cases x3 <;> cases x4 <;> cases x5 <;> cases x6 <;> cases x7 <;> cases x8 <;> cases x9 <;> rfl
theorem same_p (k od po:Int) (lp:Option Addr) (ln lcp:Nat) (tp:Option Addr) (tn tcp:Nat) (wp:Option Addr) (wn wcp:Nat) (sk fr to q:Int) (k' od' po':Int) (lp':Option Addr) (ln' lcp':Nat) (tp':Option Addr) (tn' tcp':Nat) (wp':Option Addr) (wn' wcp':Nat) (sk' fr' to' q':Int) (L:List Ln) (T:List Tk) (M:List Ln) (L':List Ln) (T':List Tk) (M':List Ln) (W:World) (hP:PgM W lp ln lcp L tp tn tcp T wp wn wcp M) (hP':PgM W lp' ln' lcp' L' tp' tn' tcp' T' wp' wn' wcp' M') (h1:ln≤1000∧tn≤1000∧wn≤1000) (h2:ln'≤1000∧tn'≤1000∧wn'≤1000) :
 Calls Tryd.prog 68 #[.agg #[.int .u8 k,.int .u32 od,.int .u8 po,.slice lp ln lcp,.slice tp tn tcp,.slice wp wn wcp,.int .u8 sk,.int .u8 fr,.int .u8 to,.int .i64 q],.agg #[.int .u8 k',.int .u32 od',.int .u8 po',.slice lp' ln' lcp',.slice tp' tn' tcp',.slice wp' wn' wcp',.int .u8 sk',.int .u8 fr',.int .u8 to',.int .i64 q']] W fun e w'=>e=.returned (.bool (decide ((⟨k,od,po,L,T,M,sk,fr,to,q⟩:Pg)=⟨k',od',po',L',T',M',sk',fr',to',q'⟩)))∧Below W.heap.size W w':=by
 rw [prog_cases,prog_order]
 obtain⟨W2,hW2,b0,b1,hb⟩:=two_progs W #[.int .u8 k,.int .u32 od,.int .u8 po,.slice lp ln lcp,.slice tp tn tcp,.slice wp wn wcp,.int .u8 sk,.int .u8 fr,.int .u8 to,.int .i64 q] #[.int .u8 k',.int .u32 od',.int .u8 po',.slice lp' ln' lcp',.slice tp' tn' tcp',.slice wp' wn' wcp',.int .u8 sk',.int .u8 fr',.int .u8 to',.int .i64 q']
 have HW:=hid hW2
 have HB:=hid hb
 have HX:=hid b0
 have HY:=hid b1
 have HL:=hid fun w (h:Below W2.heap.size W2 w)=>equal_ln lp lp' ln ln' lcp lcp' L L' w ((hP.later hb).l.later h) ((hP'.later hb).l.later h) (by omega) (by omega)
 have HT:=hid fun w (h:Below W2.heap.size W2 w)=>equal_tk tp tp' tn tn' tcp tcp' T T' w ((hP.later hb).t.later h) ((hP'.later hb).t.later h) (by omega) (by omega)
 have HM:=hid fun w (h:Below W2.heap.size W2 w)=>equal_ln wp wp' wn wn' wcp wcp' M M' w ((hP.later hb).o.later h) ((hP'.later hb).o.later h) (by omega) (by omega)
 have HC:=hid fun w (h:Below W2.heap.size W2 w)=>cells_two k od po lp ln lcp tp tn tcp wp wn wcp sk fr to q k' od' po' lp' ln' lcp' tp' tn' tcp' wp' wn' wcp' sk' fr' to' q' (z0c HX.out h) (z0c HY.out h)
 clear hP hP' h1 h2 hb b0 b1 hW2
 cases h0:(k==k') with
 | false =>
  have HF:Hid (((k==k') && (od==od') && (po==po') && (sk==sk') && (fr==fr') && (to==to') && (q==q') && decide (L=L') && decide (T=T') && decide (M=M'))=false):=hid (by rw [h0];simp)
  obtain⟨a0,a1,a2,a3,a4,a5,a6,a7,a8,a9,b0,b1,b2,b3,b4,b5,b6,b7,b8,b9⟩:=HC.out W2 (Below.refl _ _)
  go_enter Tryd.func68,Tryd.ntmps68
  go_wp2_with fail
  go_ret
  rw [HW.out]
  exact⟨by first | (rw [HF.out];rfl) | simp,HB.out⟩
 | true =>
  cases h1:(od==od') with
  | false =>
   have HF:Hid (((k==k') && (od==od') && (po==po') && (sk==sk') && (fr==fr') && (to==to') && (q==q') && decide (L=L') && decide (T=T') && decide (M=M'))=false):=hid (by rw [h0,h1];simp)
   obtain⟨a0,a1,a2,a3,a4,a5,a6,a7,a8,a9,b0,b1,b2,b3,b4,b5,b6,b7,b8,b9⟩:=HC.out W2 (Below.refl _ _)
   go_enter Tryd.func68,Tryd.ntmps68
   go_wp2_with fail
   go_ret
   rw [HW.out]
   exact⟨by first | (rw [HF.out];rfl) | simp,HB.out⟩
  | true =>
   cases h2:(po==po') with
   | false =>
    have HF:Hid (((k==k') && (od==od') && (po==po') && (sk==sk') && (fr==fr') && (to==to') && (q==q') && decide (L=L') && decide (T=T') && decide (M=M'))=false):=hid (by rw [h0,h1,h2];simp)
    obtain⟨a0,a1,a2,a3,a4,a5,a6,a7,a8,a9,b0,b1,b2,b3,b4,b5,b6,b7,b8,b9⟩:=HC.out W2 (Below.refl _ _)
    go_enter Tryd.func68,Tryd.ntmps68
    go_wp2_with fail
    go_ret
    rw [HW.out]
    exact⟨by first | (rw [HF.out];rfl) | simp,HB.out⟩
   | true =>
    cases h3:(sk==sk') with
    | false =>
     have HF:Hid (((k==k') && (od==od') && (po==po') && (sk==sk') && (fr==fr') && (to==to') && (q==q') && decide (L=L') && decide (T=T') && decide (M=M'))=false):=hid (by rw [h0,h1,h2,h3];simp)
     obtain⟨a0,a1,a2,a3,a4,a5,a6,a7,a8,a9,b0,b1,b2,b3,b4,b5,b6,b7,b8,b9⟩:=HC.out W2 (Below.refl _ _)
     go_enter Tryd.func68,Tryd.ntmps68
     go_wp2_with fail
     go_ret
     rw [HW.out]
     exact⟨by first | (rw [HF.out];rfl) | simp,HB.out⟩
    | true =>
     cases h4:(fr==fr') with
     | false =>
      have HF:Hid (((k==k') && (od==od') && (po==po') && (sk==sk') && (fr==fr') && (to==to') && (q==q') && decide (L=L') && decide (T=T') && decide (M=M'))=false):=hid (by rw [h0,h1,h2,h3,h4];simp)
      obtain⟨a0,a1,a2,a3,a4,a5,a6,a7,a8,a9,b0,b1,b2,b3,b4,b5,b6,b7,b8,b9⟩:=HC.out W2 (Below.refl _ _)
      go_enter Tryd.func68,Tryd.ntmps68
      go_wp2_with fail
      go_ret
      rw [HW.out]
      exact⟨by first | (rw [HF.out];rfl) | simp,HB.out⟩
     | true =>
      cases h5:(to==to') with
      | false =>
       have HF:Hid (((k==k') && (od==od') && (po==po') && (sk==sk') && (fr==fr') && (to==to') && (q==q') && decide (L=L') && decide (T=T') && decide (M=M'))=false):=hid (by rw [h0,h1,h2,h3,h4,h5];simp)
       obtain⟨a0,a1,a2,a3,a4,a5,a6,a7,a8,a9,b0,b1,b2,b3,b4,b5,b6,b7,b8,b9⟩:=HC.out W2 (Below.refl _ _)
       go_enter Tryd.func68,Tryd.ntmps68
       go_wp2_with fail
       go_ret
       rw [HW.out]
       exact⟨by first | (rw [HF.out];rfl) | simp,HB.out⟩
      | true =>
       cases h6:(q==q') with
       | false =>
        have HF:Hid (((k==k') && (od==od') && (po==po') && (sk==sk') && (fr==fr') && (to==to') && (q==q') && decide (L=L') && decide (T=T') && decide (M=M'))=false):=hid (by rw [h0,h1,h2,h3,h4,h5,h6];simp)
        obtain⟨a0,a1,a2,a3,a4,a5,a6,a7,a8,a9,b0,b1,b2,b3,b4,b5,b6,b7,b8,b9⟩:=HC.out W2 (Below.refl _ _)
        go_enter Tryd.func68,Tryd.ntmps68
        go_wp2_with fail
        go_ret
        rw [HW.out]
        exact⟨by first | (rw [HF.out];rfl) | simp,HB.out⟩
       | true =>
        cases h7:decide (L=L') with
        | false =>
         have HF:Hid (((k==k') && (od==od') && (po==po') && (sk==sk') && (fr==fr') && (to==to') && (q==q') && decide (L=L') && decide (T=T') && decide (M=M'))=false):=hid (by rw [h0,h1,h2,h3,h4,h5,h6,h7];simp)
         obtain⟨a0,a1,a2,a3,a4,a5,a6,a7,a8,a9,b0,b1,b2,b3,b4,b5,b6,b7,b8,b9⟩:=HC.out W2 (Below.refl _ _)
         go_enter Tryd.func68,Tryd.ntmps68
         go_wp2_with fail
         rw [HW.out]
         have hc0:=HL.out W2 (Below.refl _ _)
         rw [h7] at hc0
         refine hc0.mono ?_
         rintro e w0 ⟨rfl,hb0⟩
         have HB0:Hid (Below W2.heap.size W2 w0):=hid (hb0)
         clear hc0 hb0 a0 a1 a2 a3 a4 a5 a6 a7 a8 a9 b0 b1 b2 b3 b4 b5 b6 b7 b8 b9
         obtain⟨a0,a1,a2,a3,a4,a5,a6,a7,a8,a9,b0,b1,b2,b3,b4,b5,b6,b7,b8,b9⟩:=HC.out w0 HB0.out
         go_wp2_with fail
         go_ret
         exact⟨by first | (rw [HF.out];rfl) | simp,HB.out.trans (HB0.out.mono HB.out.size)⟩
        | true =>
         cases h8:decide (T=T') with
         | false =>
          have HF:Hid (((k==k') && (od==od') && (po==po') && (sk==sk') && (fr==fr') && (to==to') && (q==q') && decide (L=L') && decide (T=T') && decide (M=M'))=false):=hid (by rw [h0,h1,h2,h3,h4,h5,h6,h7,h8];simp)
          obtain⟨a0,a1,a2,a3,a4,a5,a6,a7,a8,a9,b0,b1,b2,b3,b4,b5,b6,b7,b8,b9⟩:=HC.out W2 (Below.refl _ _)
          go_enter Tryd.func68,Tryd.ntmps68
          go_wp2_with fail
          rw [HW.out]
          have hc0:=HL.out W2 (Below.refl _ _)
          rw [h7] at hc0
          refine hc0.mono ?_
          rintro e w0 ⟨rfl,hb0⟩
          have HB0:Hid (Below W2.heap.size W2 w0):=hid (hb0)
          clear hc0 hb0 a0 a1 a2 a3 a4 a5 a6 a7 a8 a9 b0 b1 b2 b3 b4 b5 b6 b7 b8 b9
          obtain⟨a0,a1,a2,a3,a4,a5,a6,a7,a8,a9,b0,b1,b2,b3,b4,b5,b6,b7,b8,b9⟩:=HC.out w0 HB0.out
          go_wp2_with fail
          have hc1:=HT.out w0 HB0.out
          rw [h8] at hc1
          refine hc1.mono ?_
          rintro e w1 ⟨rfl,hb1⟩
          have HB1:Hid (Below W2.heap.size W2 w1):=hid (HB0.out.trans (hb1.mono HB0.out.size))
          clear hc1 hb1 a0 a1 a2 a3 a4 a5 a6 a7 a8 a9 b0 b1 b2 b3 b4 b5 b6 b7 b8 b9
          obtain⟨a0,a1,a2,a3,a4,a5,a6,a7,a8,a9,b0,b1,b2,b3,b4,b5,b6,b7,b8,b9⟩:=HC.out w1 HB1.out
          go_wp2_with fail
          go_ret
          exact⟨by first | (rw [HF.out];rfl) | simp,HB.out.trans (HB1.out.mono HB.out.size)⟩
         | true =>
          cases h9:decide (M=M') with
          | false =>
           have HF:Hid (((k==k') && (od==od') && (po==po') && (sk==sk') && (fr==fr') && (to==to') && (q==q') && decide (L=L') && decide (T=T') && decide (M=M'))=false):=hid (by rw [h0,h1,h2,h3,h4,h5,h6,h7,h8,h9];simp)
           obtain⟨a0,a1,a2,a3,a4,a5,a6,a7,a8,a9,b0,b1,b2,b3,b4,b5,b6,b7,b8,b9⟩:=HC.out W2 (Below.refl _ _)
           go_enter Tryd.func68,Tryd.ntmps68
           go_wp2_with fail
           rw [HW.out]
           have hc0:=HL.out W2 (Below.refl _ _)
           rw [h7] at hc0
           refine hc0.mono ?_
           rintro e w0 ⟨rfl,hb0⟩
           have HB0:Hid (Below W2.heap.size W2 w0):=hid (hb0)
           clear hc0 hb0 a0 a1 a2 a3 a4 a5 a6 a7 a8 a9 b0 b1 b2 b3 b4 b5 b6 b7 b8 b9
           obtain⟨a0,a1,a2,a3,a4,a5,a6,a7,a8,a9,b0,b1,b2,b3,b4,b5,b6,b7,b8,b9⟩:=HC.out w0 HB0.out
           go_wp2_with fail
           have hc1:=HT.out w0 HB0.out
           rw [h8] at hc1
           refine hc1.mono ?_
           rintro e w1 ⟨rfl,hb1⟩
           have HB1:Hid (Below W2.heap.size W2 w1):=hid (HB0.out.trans (hb1.mono HB0.out.size))
           clear hc1 hb1 a0 a1 a2 a3 a4 a5 a6 a7 a8 a9 b0 b1 b2 b3 b4 b5 b6 b7 b8 b9
           obtain⟨a0,a1,a2,a3,a4,a5,a6,a7,a8,a9,b0,b1,b2,b3,b4,b5,b6,b7,b8,b9⟩:=HC.out w1 HB1.out
           go_wp2_with fail
           have hc2:=HM.out w1 HB1.out
           rw [h9] at hc2
           refine hc2.mono ?_
           rintro e w2 ⟨rfl,hb2⟩
           have HB2:Hid (Below W2.heap.size W2 w2):=hid (HB1.out.trans (hb2.mono HB1.out.size))
           clear hc2 hb2 a0 a1 a2 a3 a4 a5 a6 a7 a8 a9 b0 b1 b2 b3 b4 b5 b6 b7 b8 b9
           obtain⟨a0,a1,a2,a3,a4,a5,a6,a7,a8,a9,b0,b1,b2,b3,b4,b5,b6,b7,b8,b9⟩:=HC.out w2 HB2.out
           go_wp2_with fail
           go_ret
           exact⟨by first | (rw [HF.out];rfl) | simp,HB.out.trans (HB2.out.mono HB.out.size)⟩
          | true =>
           have HF:Hid (((k==k') && (od==od') && (po==po') && (sk==sk') && (fr==fr') && (to==to') && (q==q') && decide (L=L') && decide (T=T') && decide (M=M'))=true):=hid (by rw [h0,h1,h2,h3,h4,h5,h6,h7,h8,h9];rfl)
           obtain⟨a0,a1,a2,a3,a4,a5,a6,a7,a8,a9,b0,b1,b2,b3,b4,b5,b6,b7,b8,b9⟩:=HC.out W2 (Below.refl _ _)
           go_enter Tryd.func68,Tryd.ntmps68
           go_wp2_with fail
           rw [HW.out]
           have hc0:=HL.out W2 (Below.refl _ _)
           rw [h7] at hc0
           refine hc0.mono ?_
           rintro e w0 ⟨rfl,hb0⟩
           have HB0:Hid (Below W2.heap.size W2 w0):=hid (hb0)
           clear hc0 hb0 a0 a1 a2 a3 a4 a5 a6 a7 a8 a9 b0 b1 b2 b3 b4 b5 b6 b7 b8 b9
           obtain⟨a0,a1,a2,a3,a4,a5,a6,a7,a8,a9,b0,b1,b2,b3,b4,b5,b6,b7,b8,b9⟩:=HC.out w0 HB0.out
           go_wp2_with fail
           have hc1:=HT.out w0 HB0.out
           rw [h8] at hc1
           refine hc1.mono ?_
           rintro e w1 ⟨rfl,hb1⟩
           have HB1:Hid (Below W2.heap.size W2 w1):=hid (HB0.out.trans (hb1.mono HB0.out.size))
           clear hc1 hb1 a0 a1 a2 a3 a4 a5 a6 a7 a8 a9 b0 b1 b2 b3 b4 b5 b6 b7 b8 b9
           obtain⟨a0,a1,a2,a3,a4,a5,a6,a7,a8,a9,b0,b1,b2,b3,b4,b5,b6,b7,b8,b9⟩:=HC.out w1 HB1.out
           go_wp2_with fail
           have hc2:=HM.out w1 HB1.out
           rw [h9] at hc2
           refine hc2.mono ?_
           rintro e w2 ⟨rfl,hb2⟩
           have HB2:Hid (Below W2.heap.size W2 w2):=hid (HB1.out.trans (hb2.mono HB1.out.size))
           clear hc2 hb2 a0 a1 a2 a3 a4 a5 a6 a7 a8 a9 b0 b1 b2 b3 b4 b5 b6 b7 b8 b9
           obtain⟨a0,a1,a2,a3,a4,a5,a6,a7,a8,a9,b0,b1,b2,b3,b4,b5,b6,b7,b8,b9⟩:=HC.out w2 HB2.out
           go_wp2_with fail
           go_ret
           exact⟨by first | (rw [HF.out];rfl) | simp,HB.out.trans (HB2.out.mono HB.out.size)⟩
end Go.Proofs.YtclbkfpbdidaiaaDoor
