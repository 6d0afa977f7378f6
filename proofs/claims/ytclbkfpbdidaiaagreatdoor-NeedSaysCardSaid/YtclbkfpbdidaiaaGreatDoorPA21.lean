import Derived.Test.YtclbkfpbdidaiaaGreatDoorPA20
namespace Go.Proofs.YtclbkfpbdidaiaaGreatDoor
open Go.Lib (hid)
set_option maxHeartbeats 8000000
open Go.RowKit Go.ChangeShapes Go.WideShapes
set_option linter.unusedVariables false
set_option maxRecDepth 10000
theorem line_neq (a z a' z':Int) (w:World):(binOp .neq 76 (.agg #[.int .u8 a,.int .i64 z]) (.agg #[.int .u8 a',.int .i64 z'])).run Tryz.prog w=.ok (.bool (!decide (((a,z):Ln)=(a',z')))) w:=by
 by_cases h1:a=a'
 · by_cases h4:z=z'
   · subst h1 h4
     go_simp
   · subst h1
     go_simp
 · go_simp
theorem lnlists_same {L M:List Ln} {n:Nat} (hL:L.length=n) (hM:M.length=n) (h:∀ j,j<n→L.getD j l0=M.getD j l0):L=M:=by
 apply List.ext_getElem (by omega)
 intro i h1 h2
 have:=h i (by omega)
 simpa [List.getD,List.getElem?_eq_getElem h1,List.getElem?_eq_getElem h2] using this
theorem rsame_ln (p q:Option Addr) (n m c d:Nat) (L M:List Ln) (W:World) (hL:LL W p n c L) (hM:LL W q m d M) (hn:n≤100000) (hm:m≤100000) :
 Calls Tryz.prog 73 #[.slice p n c,.slice q m d] W fun e w'=>e=.returned (.bool (decide (L=M)))∧Below W.heap.size W w':=by
 have HL:=hid hL
 have HM:=hid hM
 have hLl:=hL.len
 have hMl:=hM.len
 have HLN:=hid hLl
 have HMN:=hid hMl
 clear hL hM
 by_cases hnm:n=m
 · subst hnm
   have h0:((n:Int) != (n:Int))=false:=by simp
   have hcc:=HL.out.cap
   have hcd:=HM.out.cap
   clear hLl hMl
   go_enter Tryz.func73,Tryz.ntmps73
   go_wp2_with fail
   go_loopw [5] (fun i wr=>∃ j:Nat,j≤n∧i=.int .i64 j∧Hid (Below W.heap.size W wr)∧Hid (∀ i,i<j→L.getD i l0=M.getD i l0)) (fun i _=>n-(Go.RowKit.intOf i).toNat)
   case atStart=>exact⟨0,Nat.zero_le _,rfl,hid (Below.refl _ _),hid fun i hi=>by omega⟩
   case round =>
    obtain⟨j,hj,rfl,HB,HE⟩:=hrel
    by_cases hlt:j<n
    · have hlt':(j:Int)<n:=by omega
      obtain⟨b,off,rfl,_,c0,c1⟩:=z1j (HL.out.later HB.out) hlt
      obtain⟨b',off',rfl,_,d0,d1⟩:=z1j (HM.out.later HB.out) hlt
      generalize hx:L.getD j l0=x at *
      generalize hy:M.getD j l0=y at *
      have HX:=hid hx
      have HY:=hid hy
      have hq:=fun w=>line_neq x.1 x.2 y.1 y.2 w
      have e1:decide (((x.1,x.2):Ln)=(y.1,y.2))=decide (x=y):=rfl
      rw [e1] at hq
      clear e1 hx hy
      by_cases hxy:x=y
      · rw [decide_eq_true hxy] at hq
        have HXY:=hid hxy
        clear hxy
        go_wp2_with fail
        go_quiet (fail)
        go_wp2_with fail
        go_roundw
        case rel =>
         refine⟨j+1,by omega,by go_num,hid (z0i HB.out _),hid fun i hi=>?_⟩
         by_cases e:i=j
         · subst e;rw [HX.out,HY.out,HXY.out]
         · exact HE.out i (by omega)
        case measure=>simp [Go.RowKit.intOf];omega
      · rw [decide_eq_false hxy] at hq
        have HF:Hid (decide (L=M)=false):=hid (decide_eq_false fun e=>hxy (by rw [← HX.out,← HY.out,e]))
        clear hxy
        go_wp2_with fail
        go_quiet (fail)
        go_wp2_with fail
        go_ret
        exact⟨by rw [HF.out];rfl,z0i HB.out _⟩
    · obtain rfl:j=n:=by omega
      have HF:Hid (decide (L=M)=true):=hid (decide_eq_true (lnlists_same HLN.out HMN.out HE.out))
      go_wp2_with fail
      go_ret
      exact⟨by rw [HF.out];rfl,HB.out⟩
 · have h0:((n:Int) != (m:Int))=true:=by simp;omega
   have HF:Hid (decide (L=M)=false):=hid (decide_eq_false fun e=>hnm (by rw [← HLN.out,← HMN.out,e]))
   clear hLl hMl
   go_enter Tryz.func73,Tryz.ntmps73
   go_wp2_with fail
   go_ret
   exact⟨by rw [HF.out];rfl,Below.refl _ _⟩
theorem equal_ln (p q:Option Addr) (n m c d:Nat) (L M:List Ln) (W:World) (hL:LL W p n c L) (hM:LL W q m d M) (hn:n≤100000) (hm:m≤100000) :
 Calls Tryz.prog 142 #[.slice p n c,.slice q m d] W fun e w'=>e=.returned (.bool (decide (L=M)))∧Below W.heap.size W w':=by
 have HL:=hid hL
 have HM:=hid hM
 have HLN:=hid hL.len
 have HMN:=hid hM.len
 clear hL hM
 by_cases hnm:n=m
 · subst hnm
   have h0:((n:Int) != (n:Int))=false:=by simp
   have hcc:=HL.out.cap
   have hcd:=HM.out.cap
   go_enter Tryz.func142,Tryz.ntmps142
   go_wp2_with fail
   go_loopw [13] (fun i wr=>∃ j:Nat,j≤n∧i=.int .i64 j∧Hid (Below W.heap.size W wr)∧Hid (∀ i,i<j→L.getD i l0=M.getD i l0)) (fun i _=>n-(Go.RowKit.intOf i).toNat)
   case atStart=>exact⟨0,Nat.zero_le _,rfl,hid (Below.refl _ _),hid fun i hi=>by omega⟩
   case round =>
    obtain⟨j,hj,rfl,HB,HE⟩:=hrel
    by_cases hlt:j<n
    · have hlt':(j:Int)<n:=by omega
      obtain⟨b,off,rfl,_,c0,c1⟩:=z1j (HL.out.later HB.out) hlt
      obtain⟨b',off',rfl,_,d0,d1⟩:=z1j (HM.out.later HB.out) hlt
      generalize hx:L.getD j l0=x at *
      generalize hy:M.getD j l0=y at *
      have HX:=hid hx
      have HY:=hid hy
      have hq:=fun w=>line_neq x.1 x.2 y.1 y.2 w
      have e1:decide (((x.1,x.2):Ln)=(y.1,y.2))=decide (x=y):=rfl
      rw [e1] at hq
      clear e1 hx hy
      by_cases hxy:x=y
      · rw [decide_eq_true hxy] at hq
        have HXY:=hid hxy
        clear hxy
        go_wp2_with fail
        go_quiet (fail)
        go_wp2_with fail
        go_roundw
        case rel =>
         refine⟨j+1,by omega,by go_num,hid (z0i HB.out _),hid fun i hi=>?_⟩
         by_cases e:i=j
         · subst e;rw [HX.out,HY.out,HXY.out]
         · exact HE.out i (by omega)
        case measure=>simp [Go.RowKit.intOf];omega
      · rw [decide_eq_false hxy] at hq
        have HF:Hid (decide (L=M)=false):=hid (decide_eq_false fun e=>hxy (by rw [← HX.out,← HY.out,e]))
        clear hxy
        go_wp2_with fail
        go_quiet (fail)
        go_wp2_with fail
        go_ret
        exact⟨by rw [HF.out];rfl,z0i HB.out _⟩
    · obtain rfl:j=n:=by omega
      have HF:Hid (decide (L=M)=true):=hid (decide_eq_true (lnlists_same HLN.out HMN.out HE.out))
      go_wp2_with fail
      go_ret
      exact⟨by rw [HF.out];rfl,HB.out⟩
 · have h0:((n:Int) != (m:Int))=true:=by simp;omega
   have HF:Hid (decide (L=M)=false):=hid (decide_eq_false fun e=>hnm (by rw [← HLN.out,← HMN.out,e]))
   go_enter Tryz.func142,Tryz.ntmps142
   go_wp2_with fail
   go_ret
   exact⟨by rw [HF.out];rfl,Below.refl _ _⟩
theorem take_neq (o a w z o' a' w' z':Int) (W:World):(binOp .neq 73 (.agg #[.int .u32 o,.int .u8 a,.int .u8 w,.int .i64 z]) (.agg #[.int .u32 o',.int .u8 a',.int .u8 w',.int .i64 z'])).run Tryz.prog W=.ok (.bool (!decide (((o,a,w,z):Tk)=(o',a',w',z')))) W:=by
 by_cases h1:o=o'
 · by_cases h2:a=a'
   · by_cases h3:w=w'
     · by_cases h4:z=z'
       · subst h1 h2 h3 h4
         go_simp
       · subst h1 h2 h3
         go_simp
     · subst h1 h2
       go_simp
   · subst h1
     go_simp
 · go_simp
theorem tklists_same {L M:List Tk} {n:Nat} (hL:L.length=n) (hM:M.length=n) (h:∀ j,j<n→L.getD j tk0=M.getD j tk0):L=M:=by
 apply List.ext_getElem (by omega)
 intro i h1 h2
 have:=h i (by omega)
 simpa [List.getD,List.getElem?_eq_getElem h1,List.getElem?_eq_getElem h2] using this
theorem rsame_tk (p q:Option Addr) (n m c d:Nat) (L M:List Tk) (W:World) (hL:TKL W p n c L) (hM:TKL W q m d M) (hn:n≤100000) (hm:m≤100000) :
 Calls Tryz.prog 74 #[.slice p n c,.slice q m d] W fun e w'=>e=.returned (.bool (decide (L=M)))∧Below W.heap.size W w':=by
 have HL:=hid hL
 have HM:=hid hM
 have hLl:=hL.len
 have hMl:=hM.len
 have HLN:=hid hLl
 have HMN:=hid hMl
 clear hL hM
 by_cases hnm:n=m
 · subst hnm
   have h0:((n:Int) != (n:Int))=false:=by simp
   have hcc:=HL.out.cap
   have hcd:=HM.out.cap
   clear hLl hMl
   go_enter Tryz.func74,Tryz.ntmps74
   go_wp2_with fail
   go_loopw [5] (fun i wr=>∃ j:Nat,j≤n∧i=.int .i64 j∧Hid (Below W.heap.size W wr)∧Hid (∀ i,i<j→L.getD i tk0=M.getD i tk0)) (fun i _=>n-(Go.RowKit.intOf i).toNat)
   case atStart=>exact⟨0,Nat.zero_le _,rfl,hid (Below.refl _ _),hid fun i hi=>by omega⟩
   case round =>
    obtain⟨j,hj,rfl,HB,HE⟩:=hrel
    by_cases hlt:j<n
    · have hlt':(j:Int)<n:=by omega
      obtain⟨b,off,rfl,_,c0,c1,c2,c3⟩:=z0z (HL.out.later HB.out) hlt
      obtain⟨b',off',rfl,_,d0,d1,d2,d3⟩:=z0z (HM.out.later HB.out) hlt
      generalize hx:L.getD j tk0=x at *
      generalize hy:M.getD j tk0=y at *
      have HX:=hid hx
      have HY:=hid hy
      have hq:=fun w=>take_neq x.1 x.2.1 x.2.2.1 x.2.2.2 y.1 y.2.1 y.2.2.1 y.2.2.2 w
      have e1:decide (((x.1,x.2.1,x.2.2.1,x.2.2.2):Tk)=(y.1,y.2.1,y.2.2.1,y.2.2.2))=decide (x=y):=rfl
      rw [e1] at hq
      clear e1 hx hy
      by_cases hxy:x=y
      · rw [decide_eq_true hxy] at hq
        have HXY:=hid hxy
        clear hxy
        go_wp2_with fail
        go_quiet (fail)
        go_wp2_with fail
        go_roundw
        case rel =>
         refine⟨j+1,by omega,by go_num,hid (z0i HB.out _),hid fun i hi=>?_⟩
         by_cases e:i=j
         · subst e;rw [HX.out,HY.out,HXY.out]
         · exact HE.out i (by omega)
        case measure=>simp [Go.RowKit.intOf];omega
      · rw [decide_eq_false hxy] at hq
        have HF:Hid (decide (L=M)=false):=hid (decide_eq_false fun e=>hxy (by rw [← HX.out,← HY.out,e]))
        clear hxy
        go_wp2_with fail
        go_quiet (fail)
        go_wp2_with fail
        go_ret
        exact⟨by rw [HF.out];rfl,z0i HB.out _⟩
    · obtain rfl:j=n:=by omega
      have HF:Hid (decide (L=M)=true):=hid (decide_eq_true (tklists_same HLN.out HMN.out HE.out))
      go_wp2_with fail
      go_ret
      exact⟨by rw [HF.out];rfl,HB.out⟩
 · have h0:((n:Int) != (m:Int))=true:=by simp;omega
   have HF:Hid (decide (L=M)=false):=hid (decide_eq_false fun e=>hnm (by rw [← HLN.out,← HMN.out,e]))
   clear hLl hMl
   go_enter Tryz.func74,Tryz.ntmps74
   go_wp2_with fail
   go_ret
   exact⟨by rw [HF.out];rfl,Below.refl _ _⟩
theorem two_progs (W:World) (a b:Array Value):∃ W2,(W.alloc (.cells a 26)).alloc (.cells b 26)=W2∧W2.heap[W.heap.size]?=some (.cells a 26 (0,0))∧W2.heap[W.heap.size+1]?=some (.cells b 26 (0,0))∧Below W.heap.size W W2:=by
 refine⟨_,rfl,?_,?_,((Below.refl _ _).alloc (Nat.le_refl _) _).alloc (by simp) _⟩
 · exact (Below.heap_alloc _ _ _ (by simp)).trans (z0c W _)
 · have:=z0c (W.alloc (.cells a 26)) (.cells b 26)
   rwa [World.size_alloc] at this
theorem prog_cases (k od po:Int) (L:List Ln) (T:List Tk) (M:List Ln) (sk fr to q:Int) (k' od' po':Int) (L':List Ln) (T':List Tk) (M':List Ln) (sk' fr' to' q':Int) :
 ((decide ((⟨k,od,po,L,T,M,sk,fr,to,q⟩:Pg)=⟨k',od',po',L',T',M',sk',fr',to',q'⟩):Bool)=((k==k') && (od==od') && (po==po') && decide (L=L') && decide (T=T') && decide (M=M') && (sk==sk') && (fr==fr') && (to==to') && (q==q'))):=by
 rw [Bool.eq_iff_iff]
 simp [and_assoc]
theorem cells_two (k od po:Int) (lp:Option Addr) (ln lcp:Nat) (tp:Option Addr) (tn tcp:Nat) (wp:Option Addr) (wn wcp:Nat) (sk fr to q:Int) (k' od' po':Int) (lp':Option Addr) (ln' lcp':Nat) (tp':Option Addr) (tn' tcp':Nat) (wp':Option Addr) (wn' wcp':Nat) (sk' fr' to' q':Int) {w:World} {X Y:Nat} (hx:w.heap[X]?=some (.cells #[.int .u8 k,.int .u32 od,.int .u8 po,.slice lp ln lcp,.slice tp tn tcp,.slice wp wn wcp,.int .u8 sk,.int .u8 fr,.int .u8 to,.int .i64 q] 26 (0,0))) (hy:w.heap[Y]?=some (.cells #[.int .u8 k',.int .u32 od',.int .u8 po',.slice lp' ln' lcp',.slice tp' tn' tcp',.slice wp' wn' wcp',.int .u8 sk',.int .u8 fr',.int .u8 to',.int .i64 q'] 26 (0,0))) :
 w.cell? ⟨X,0,none⟩=some (.int .u8 k)∧w.cell? ⟨X,1,none⟩=some (.int .u32 od)∧w.cell? ⟨X,2,none⟩=some (.int .u8 po)∧w.cell? ⟨X,3,none⟩=some (.slice lp ln lcp)∧w.cell? ⟨X,4,none⟩=some (.slice tp tn tcp)∧w.cell? ⟨X,5,none⟩=some (.slice wp wn wcp)∧w.cell? ⟨X,6,none⟩=some (.int .u8 sk)∧w.cell? ⟨X,7,none⟩=some (.int .u8 fr)∧w.cell? ⟨X,8,none⟩=some (.int .u8 to)∧w.cell? ⟨X,9,none⟩=some (.int .i64 q)∧w.cell? ⟨Y,0,none⟩=some (.int .u8 k')∧w.cell? ⟨Y,1,none⟩=some (.int .u32 od')∧w.cell? ⟨Y,2,none⟩=some (.int .u8 po')∧w.cell? ⟨Y,3,none⟩=some (.slice lp' ln' lcp')∧w.cell? ⟨Y,4,none⟩=some (.slice tp' tn' tcp')∧w.cell? ⟨Y,5,none⟩=some (.slice wp' wn' wcp')∧w.cell? ⟨Y,6,none⟩=some (.int .u8 sk')∧w.cell? ⟨Y,7,none⟩=some (.int .u8 fr')∧w.cell? ⟨Y,8,none⟩=some (.int .u8 to')∧w.cell? ⟨Y,9,none⟩=some (.int .i64 q'):=⟨z0a hx rfl,z0a hx rfl,z0a hx rfl,z0a hx rfl,z0a hx rfl,z0a hx rfl,z0a hx rfl,z0a hx rfl,z0a hx rfl,z0a hx rfl,z0a hy rfl,z0a hy rfl,z0a hy rfl,z0a hy rfl,z0a hy rfl,z0a hy rfl,z0a hy rfl,z0a hy rfl,z0a hy rfl,z0a hy rfl⟩
theorem rsame_p (k od po:Int) (lp:Option Addr) (ln lcp:Nat) (tp:Option Addr) (tn tcp:Nat) (wp:Option Addr) (wn wcp:Nat) (sk fr to q:Int) (k' od' po':Int) (lp':Option Addr) (ln' lcp':Nat) (tp':Option Addr) (tn' tcp':Nat) (wp':Option Addr) (wn' wcp':Nat) (sk' fr' to' q':Int) (L:List Ln) (T:List Tk) (M:List Ln) (L':List Ln) (T':List Tk) (M':List Ln) (W:World) (hP:PgM W lp ln lcp L tp tn tcp T wp wn wcp M) (hP':PgM W lp' ln' lcp' L' tp' tn' tcp' T' wp' wn' wcp' M') (h1:ln≤1000∧tn≤1000∧wn≤1000) (h2:ln'≤1000∧tn'≤1000∧wn'≤1000) :
 Calls Tryz.prog 39 #[.agg #[.int .u8 k,.int .u32 od,.int .u8 po,.slice lp ln lcp,.slice tp tn tcp,.slice wp wn wcp,.int .u8 sk,.int .u8 fr,.int .u8 to,.int .i64 q],.agg #[.int .u8 k',.int .u32 od',.int .u8 po',.slice lp' ln' lcp',.slice tp' tn' tcp',.slice wp' wn' wcp',.int .u8 sk',.int .u8 fr',.int .u8 to',.int .i64 q']] W fun e w'=>e=.returned (.bool (decide ((⟨k,od,po,L,T,M,sk,fr,to,q⟩:Pg)=⟨k',od',po',L',T',M',sk',fr',to',q'⟩)))∧Below W.heap.size W w':=by
 rw [prog_cases]
 obtain⟨W2,hW2,b0,b1,hb⟩:=two_progs W #[.int .u8 k,.int .u32 od,.int .u8 po,.slice lp ln lcp,.slice tp tn tcp,.slice wp wn wcp,.int .u8 sk,.int .u8 fr,.int .u8 to,.int .i64 q] #[.int .u8 k',.int .u32 od',.int .u8 po',.slice lp' ln' lcp',.slice tp' tn' tcp',.slice wp' wn' wcp',.int .u8 sk',.int .u8 fr',.int .u8 to',.int .i64 q']
 have HW:=hid hW2
 have HB:=hid hb
 have HX:=hid b0
 have HY:=hid b1
 have HL:=hid fun w (h:Below W2.heap.size W2 w)=>rsame_ln lp lp' ln ln' lcp lcp' L L' w ((hP.later hb).l.later h) ((hP'.later hb).l.later h) (by omega) (by omega)
 have HT:=hid fun w (h:Below W2.heap.size W2 w)=>rsame_tk tp tp' tn tn' tcp tcp' T T' w ((hP.later hb).t.later h) ((hP'.later hb).t.later h) (by omega) (by omega)
 have HM:=hid fun w (h:Below W2.heap.size W2 w)=>rsame_ln wp wp' wn wn' wcp wcp' M M' w ((hP.later hb).o.later h) ((hP'.later hb).o.later h) (by omega) (by omega)
 have HC:=hid fun w (h:Below W2.heap.size W2 w)=>cells_two k od po lp ln lcp tp tn tcp wp wn wcp sk fr to q k' od' po' lp' ln' lcp' tp' tn' tcp' wp' wn' wcp' sk' fr' to' q' (z0b HX.out h) (z0b HY.out h)
 clear hP hP' h1 h2 hb b0 b1 hW2
 cases h0:(k==k') with
 | false =>
  have HF:Hid (((k==k') && (od==od') && (po==po') && decide (L=L') && decide (T=T') && decide (M=M') && (sk==sk') && (fr==fr') && (to==to') && (q==q'))=false):=hid (by rw [h0];simp)
  obtain⟨a0,a1,a2,a3,a4,a5,a6,a7,a8,a9,b0,b1,b2,b3,b4,b5,b6,b7,b8,b9⟩:=HC.out W2 (Below.refl _ _)
  go_enter Tryz.func39,Tryz.ntmps39
  go_wp2_with fail
  go_ret
  rw [HW.out]
  exact⟨by first | (rw [HF.out];rfl) | simp,HB.out⟩
 | true =>
  cases h1:(od==od') with
  | false =>
   have HF:Hid (((k==k') && (od==od') && (po==po') && decide (L=L') && decide (T=T') && decide (M=M') && (sk==sk') && (fr==fr') && (to==to') && (q==q'))=false):=hid (by rw [h0,h1];simp)
   obtain⟨a0,a1,a2,a3,a4,a5,a6,a7,a8,a9,b0,b1,b2,b3,b4,b5,b6,b7,b8,b9⟩:=HC.out W2 (Below.refl _ _)
   go_enter Tryz.func39,Tryz.ntmps39
   go_wp2_with fail
   go_ret
   rw [HW.out]
   exact⟨by first | (rw [HF.out];rfl) | simp,HB.out⟩
  | true =>
   cases h2:(po==po') with
   | false =>
    have HF:Hid (((k==k') && (od==od') && (po==po') && decide (L=L') && decide (T=T') && decide (M=M') && (sk==sk') && (fr==fr') && (to==to') && (q==q'))=false):=hid (by rw [h0,h1,h2];simp)
    obtain⟨a0,a1,a2,a3,a4,a5,a6,a7,a8,a9,b0,b1,b2,b3,b4,b5,b6,b7,b8,b9⟩:=HC.out W2 (Below.refl _ _)
    go_enter Tryz.func39,Tryz.ntmps39
    go_wp2_with fail
    go_ret
    rw [HW.out]
    exact⟨by first | (rw [HF.out];rfl) | simp,HB.out⟩
   | true =>
    cases h3:decide (L=L') with
    | false =>
     have HF:Hid (((k==k') && (od==od') && (po==po') && decide (L=L') && decide (T=T') && decide (M=M') && (sk==sk') && (fr==fr') && (to==to') && (q==q'))=false):=hid (by rw [h0,h1,h2,h3];simp)
     obtain⟨a0,a1,a2,a3,a4,a5,a6,a7,a8,a9,b0,b1,b2,b3,b4,b5,b6,b7,b8,b9⟩:=HC.out W2 (Below.refl _ _)
     go_enter Tryz.func39,Tryz.ntmps39
     go_wp2_with fail
     rw [HW.out]
     have hc0:=HL.out W2 (Below.refl _ _)
     rw [h3] at hc0
     refine hc0.mono ?_
     rintro e w0 ⟨rfl,hb0⟩
     have HB0:Hid (Below W2.heap.size W2 w0):=hid (hb0)
     clear hc0 hb0 a0 a1 a2 a3 a4 a5 a6 a7 a8 a9 b0 b1 b2 b3 b4 b5 b6 b7 b8 b9
     obtain⟨a0,a1,a2,a3,a4,a5,a6,a7,a8,a9,b0,b1,b2,b3,b4,b5,b6,b7,b8,b9⟩:=HC.out w0 HB0.out
     go_wp2_with fail
     go_ret
     exact⟨by first | (rw [HF.out];rfl) | simp,HB.out.trans (HB0.out.mono HB.out.size)⟩
    | true =>
     cases h4:decide (T=T') with
     | false =>
      have HF:Hid (((k==k') && (od==od') && (po==po') && decide (L=L') && decide (T=T') && decide (M=M') && (sk==sk') && (fr==fr') && (to==to') && (q==q'))=false):=hid (by rw [h0,h1,h2,h3,h4];simp)
      obtain⟨a0,a1,a2,a3,a4,a5,a6,a7,a8,a9,b0,b1,b2,b3,b4,b5,b6,b7,b8,b9⟩:=HC.out W2 (Below.refl _ _)
      go_enter Tryz.func39,Tryz.ntmps39
      go_wp2_with fail
      rw [HW.out]
      have hc0:=HL.out W2 (Below.refl _ _)
      rw [h3] at hc0
      refine hc0.mono ?_
      rintro e w0 ⟨rfl,hb0⟩
      have HB0:Hid (Below W2.heap.size W2 w0):=hid (hb0)
      clear hc0 hb0 a0 a1 a2 a3 a4 a5 a6 a7 a8 a9 b0 b1 b2 b3 b4 b5 b6 b7 b8 b9
      obtain⟨a0,a1,a2,a3,a4,a5,a6,a7,a8,a9,b0,b1,b2,b3,b4,b5,b6,b7,b8,b9⟩:=HC.out w0 HB0.out
      go_wp2_with fail
      have hc1:=HT.out w0 HB0.out
      rw [h4] at hc1
      refine hc1.mono ?_
      rintro e w1 ⟨rfl,hb1⟩
      have HB1:Hid (Below W2.heap.size W2 w1):=hid (HB0.out.trans (hb1.mono HB0.out.size))
      clear hc1 hb1 a0 a1 a2 a3 a4 a5 a6 a7 a8 a9 b0 b1 b2 b3 b4 b5 b6 b7 b8 b9
      obtain⟨a0,a1,a2,a3,a4,a5,a6,a7,a8,a9,b0,b1,b2,b3,b4,b5,b6,b7,b8,b9⟩:=HC.out w1 HB1.out
      go_wp2_with fail
      go_ret
      exact⟨by first | (rw [HF.out];rfl) | simp,HB.out.trans (HB1.out.mono HB.out.size)⟩
     | true =>
      cases h5:decide (M=M') with
      | false =>
       have HF:Hid (((k==k') && (od==od') && (po==po') && decide (L=L') && decide (T=T') && decide (M=M') && (sk==sk') && (fr==fr') && (to==to') && (q==q'))=false):=hid (by rw [h0,h1,h2,h3,h4,h5];simp)
       obtain⟨a0,a1,a2,a3,a4,a5,a6,a7,a8,a9,b0,b1,b2,b3,b4,b5,b6,b7,b8,b9⟩:=HC.out W2 (Below.refl _ _)
       go_enter Tryz.func39,Tryz.ntmps39
       go_wp2_with fail
       rw [HW.out]
       have hc0:=HL.out W2 (Below.refl _ _)
       rw [h3] at hc0
       refine hc0.mono ?_
       rintro e w0 ⟨rfl,hb0⟩
       have HB0:Hid (Below W2.heap.size W2 w0):=hid (hb0)
       clear hc0 hb0 a0 a1 a2 a3 a4 a5 a6 a7 a8 a9 b0 b1 b2 b3 b4 b5 b6 b7 b8 b9
       obtain⟨a0,a1,a2,a3,a4,a5,a6,a7,a8,a9,b0,b1,b2,b3,b4,b5,b6,b7,b8,b9⟩:=HC.out w0 HB0.out
       go_wp2_with fail
       have hc1:=HT.out w0 HB0.out
       rw [h4] at hc1
       refine hc1.mono ?_
       rintro e w1 ⟨rfl,hb1⟩
       have HB1:Hid (Below W2.heap.size W2 w1):=hid (HB0.out.trans (hb1.mono HB0.out.size))
       clear hc1 hb1 a0 a1 a2 a3 a4 a5 a6 a7 a8 a9 b0 b1 b2 b3 b4 b5 b6 b7 b8 b9
       obtain⟨a0,a1,a2,a3,a4,a5,a6,a7,a8,a9,b0,b1,b2,b3,b4,b5,b6,b7,b8,b9⟩:=HC.out w1 HB1.out
       go_wp2_with fail
       have hc2:=HM.out w1 HB1.out
       rw [h5] at hc2
       refine hc2.mono ?_
       rintro e w2 ⟨rfl,hb2⟩
       have HB2:Hid (Below W2.heap.size W2 w2):=hid (HB1.out.trans (hb2.mono HB1.out.size))
       clear hc2 hb2 a0 a1 a2 a3 a4 a5 a6 a7 a8 a9 b0 b1 b2 b3 b4 b5 b6 b7 b8 b9
       obtain⟨a0,a1,a2,a3,a4,a5,a6,a7,a8,a9,b0,b1,b2,b3,b4,b5,b6,b7,b8,b9⟩:=HC.out w2 HB2.out
       go_wp2_with fail
       go_ret
       exact⟨by first | (rw [HF.out];rfl) | simp,HB.out.trans (HB2.out.mono HB.out.size)⟩
      | true =>
       cases h6:(sk==sk') with
       | false =>
        have HF:Hid (((k==k') && (od==od') && (po==po') && decide (L=L') && decide (T=T') && decide (M=M') && (sk==sk') && (fr==fr') && (to==to') && (q==q'))=false):=hid (by rw [h0,h1,h2,h3,h4,h5,h6];simp)
        obtain⟨a0,a1,a2,a3,a4,a5,a6,a7,a8,a9,b0,b1,b2,b3,b4,b5,b6,b7,b8,b9⟩:=HC.out W2 (Below.refl _ _)
        go_enter Tryz.func39,Tryz.ntmps39
        go_wp2_with fail
        rw [HW.out]
        have hc0:=HL.out W2 (Below.refl _ _)
        rw [h3] at hc0
        refine hc0.mono ?_
        rintro e w0 ⟨rfl,hb0⟩
        have HB0:Hid (Below W2.heap.size W2 w0):=hid (hb0)
        clear hc0 hb0 a0 a1 a2 a3 a4 a5 a6 a7 a8 a9 b0 b1 b2 b3 b4 b5 b6 b7 b8 b9
        obtain⟨a0,a1,a2,a3,a4,a5,a6,a7,a8,a9,b0,b1,b2,b3,b4,b5,b6,b7,b8,b9⟩:=HC.out w0 HB0.out
        go_wp2_with fail
        have hc1:=HT.out w0 HB0.out
        rw [h4] at hc1
        refine hc1.mono ?_
        rintro e w1 ⟨rfl,hb1⟩
        have HB1:Hid (Below W2.heap.size W2 w1):=hid (HB0.out.trans (hb1.mono HB0.out.size))
        clear hc1 hb1 a0 a1 a2 a3 a4 a5 a6 a7 a8 a9 b0 b1 b2 b3 b4 b5 b6 b7 b8 b9
        obtain⟨a0,a1,a2,a3,a4,a5,a6,a7,a8,a9,b0,b1,b2,b3,b4,b5,b6,b7,b8,b9⟩:=HC.out w1 HB1.out
        go_wp2_with fail
        have hc2:=HM.out w1 HB1.out
        rw [h5] at hc2
        refine hc2.mono ?_
        rintro e w2 ⟨rfl,hb2⟩
        have HB2:Hid (Below W2.heap.size W2 w2):=hid (HB1.out.trans (hb2.mono HB1.out.size))
        clear hc2 hb2 a0 a1 a2 a3 a4 a5 a6 a7 a8 a9 b0 b1 b2 b3 b4 b5 b6 b7 b8 b9
        obtain⟨a0,a1,a2,a3,a4,a5,a6,a7,a8,a9,b0,b1,b2,b3,b4,b5,b6,b7,b8,b9⟩:=HC.out w2 HB2.out
        go_wp2_with fail
        go_ret
        exact⟨by first | (rw [HF.out];rfl) | simp,HB.out.trans (HB2.out.mono HB.out.size)⟩
       | true =>
        cases h7:(fr==fr') with
        | false =>
         have HF:Hid (((k==k') && (od==od') && (po==po') && decide (L=L') && decide (T=T') && decide (M=M') && (sk==sk') && (fr==fr') && (to==to') && (q==q'))=false):=hid (by rw [h0,h1,h2,h3,h4,h5,h6,h7];simp)
         obtain⟨a0,a1,a2,a3,a4,a5,a6,a7,a8,a9,b0,b1,b2,b3,b4,b5,b6,b7,b8,b9⟩:=HC.out W2 (Below.refl _ _)
         go_enter Tryz.func39,Tryz.ntmps39
         go_wp2_with fail
         rw [HW.out]
         have hc0:=HL.out W2 (Below.refl _ _)
         rw [h3] at hc0
         refine hc0.mono ?_
         rintro e w0 ⟨rfl,hb0⟩
         have HB0:Hid (Below W2.heap.size W2 w0):=hid (hb0)
         clear hc0 hb0 a0 a1 a2 a3 a4 a5 a6 a7 a8 a9 b0 b1 b2 b3 b4 b5 b6 b7 b8 b9
         obtain⟨a0,a1,a2,a3,a4,a5,a6,a7,a8,a9,b0,b1,b2,b3,b4,b5,b6,b7,b8,b9⟩:=HC.out w0 HB0.out
         go_wp2_with fail
         have hc1:=HT.out w0 HB0.out
         rw [h4] at hc1
         refine hc1.mono ?_
         rintro e w1 ⟨rfl,hb1⟩
         have HB1:Hid (Below W2.heap.size W2 w1):=hid (HB0.out.trans (hb1.mono HB0.out.size))
         clear hc1 hb1 a0 a1 a2 a3 a4 a5 a6 a7 a8 a9 b0 b1 b2 b3 b4 b5 b6 b7 b8 b9
         obtain⟨a0,a1,a2,a3,a4,a5,a6,a7,a8,a9,b0,b1,b2,b3,b4,b5,b6,b7,b8,b9⟩:=HC.out w1 HB1.out
         go_wp2_with fail
         have hc2:=HM.out w1 HB1.out
         rw [h5] at hc2
         refine hc2.mono ?_
         rintro e w2 ⟨rfl,hb2⟩
         have HB2:Hid (Below W2.heap.size W2 w2):=hid (HB1.out.trans (hb2.mono HB1.out.size))
         clear hc2 hb2 a0 a1 a2 a3 a4 a5 a6 a7 a8 a9 b0 b1 b2 b3 b4 b5 b6 b7 b8 b9
         obtain⟨a0,a1,a2,a3,a4,a5,a6,a7,a8,a9,b0,b1,b2,b3,b4,b5,b6,b7,b8,b9⟩:=HC.out w2 HB2.out
         go_wp2_with fail
         go_ret
         exact⟨by first | (rw [HF.out];rfl) | simp,HB.out.trans (HB2.out.mono HB.out.size)⟩
        | true =>
         cases h8:(to==to') with
         | false =>
          have HF:Hid (((k==k') && (od==od') && (po==po') && decide (L=L') && decide (T=T') && decide (M=M') && (sk==sk') && (fr==fr') && (to==to') && (q==q'))=false):=hid (by rw [h0,h1,h2,h3,h4,h5,h6,h7,h8];simp)
          obtain⟨a0,a1,a2,a3,a4,a5,a6,a7,a8,a9,b0,b1,b2,b3,b4,b5,b6,b7,b8,b9⟩:=HC.out W2 (Below.refl _ _)
          go_enter Tryz.func39,Tryz.ntmps39
          go_wp2_with fail
          rw [HW.out]
          have hc0:=HL.out W2 (Below.refl _ _)
          rw [h3] at hc0
          refine hc0.mono ?_
          rintro e w0 ⟨rfl,hb0⟩
          have HB0:Hid (Below W2.heap.size W2 w0):=hid (hb0)
          clear hc0 hb0 a0 a1 a2 a3 a4 a5 a6 a7 a8 a9 b0 b1 b2 b3 b4 b5 b6 b7 b8 b9
          obtain⟨a0,a1,a2,a3,a4,a5,a6,a7,a8,a9,b0,b1,b2,b3,b4,b5,b6,b7,b8,b9⟩:=HC.out w0 HB0.out
          go_wp2_with fail
          have hc1:=HT.out w0 HB0.out
          rw [h4] at hc1
          refine hc1.mono ?_
          rintro e w1 ⟨rfl,hb1⟩
          have HB1:Hid (Below W2.heap.size W2 w1):=hid (HB0.out.trans (hb1.mono HB0.out.size))
          clear hc1 hb1 a0 a1 a2 a3 a4 a5 a6 a7 a8 a9 b0 b1 b2 b3 b4 b5 b6 b7 b8 b9
          obtain⟨a0,a1,a2,a3,a4,a5,a6,a7,a8,a9,b0,b1,b2,b3,b4,b5,b6,b7,b8,b9⟩:=HC.out w1 HB1.out
          go_wp2_with fail
          have hc2:=HM.out w1 HB1.out
          rw [h5] at hc2
          refine hc2.mono ?_
          rintro e w2 ⟨rfl,hb2⟩
          have HB2:Hid (Below W2.heap.size W2 w2):=hid (HB1.out.trans (hb2.mono HB1.out.size))
          clear hc2 hb2 a0 a1 a2 a3 a4 a5 a6 a7 a8 a9 b0 b1 b2 b3 b4 b5 b6 b7 b8 b9
          obtain⟨a0,a1,a2,a3,a4,a5,a6,a7,a8,a9,b0,b1,b2,b3,b4,b5,b6,b7,b8,b9⟩:=HC.out w2 HB2.out
          go_wp2_with fail
          go_ret
          exact⟨by first | (rw [HF.out];rfl) | simp,HB.out.trans (HB2.out.mono HB.out.size)⟩
         | true =>
          cases h9:(q==q') with
          | false =>
           have HF:Hid (((k==k') && (od==od') && (po==po') && decide (L=L') && decide (T=T') && decide (M=M') && (sk==sk') && (fr==fr') && (to==to') && (q==q'))=false):=hid (by rw [h0,h1,h2,h3,h4,h5,h6,h7,h8,h9];simp)
           obtain⟨a0,a1,a2,a3,a4,a5,a6,a7,a8,a9,b0,b1,b2,b3,b4,b5,b6,b7,b8,b9⟩:=HC.out W2 (Below.refl _ _)
           go_enter Tryz.func39,Tryz.ntmps39
           go_wp2_with fail
           rw [HW.out]
           have hc0:=HL.out W2 (Below.refl _ _)
           rw [h3] at hc0
           refine hc0.mono ?_
           rintro e w0 ⟨rfl,hb0⟩
           have HB0:Hid (Below W2.heap.size W2 w0):=hid (hb0)
           clear hc0 hb0 a0 a1 a2 a3 a4 a5 a6 a7 a8 a9 b0 b1 b2 b3 b4 b5 b6 b7 b8 b9
           obtain⟨a0,a1,a2,a3,a4,a5,a6,a7,a8,a9,b0,b1,b2,b3,b4,b5,b6,b7,b8,b9⟩:=HC.out w0 HB0.out
           go_wp2_with fail
           have hc1:=HT.out w0 HB0.out
           rw [h4] at hc1
           refine hc1.mono ?_
           rintro e w1 ⟨rfl,hb1⟩
           have HB1:Hid (Below W2.heap.size W2 w1):=hid (HB0.out.trans (hb1.mono HB0.out.size))
           clear hc1 hb1 a0 a1 a2 a3 a4 a5 a6 a7 a8 a9 b0 b1 b2 b3 b4 b5 b6 b7 b8 b9
           obtain⟨a0,a1,a2,a3,a4,a5,a6,a7,a8,a9,b0,b1,b2,b3,b4,b5,b6,b7,b8,b9⟩:=HC.out w1 HB1.out
           go_wp2_with fail
           have hc2:=HM.out w1 HB1.out
           rw [h5] at hc2
           refine hc2.mono ?_
           rintro e w2 ⟨rfl,hb2⟩
           have HB2:Hid (Below W2.heap.size W2 w2):=hid (HB1.out.trans (hb2.mono HB1.out.size))
           clear hc2 hb2 a0 a1 a2 a3 a4 a5 a6 a7 a8 a9 b0 b1 b2 b3 b4 b5 b6 b7 b8 b9
           obtain⟨a0,a1,a2,a3,a4,a5,a6,a7,a8,a9,b0,b1,b2,b3,b4,b5,b6,b7,b8,b9⟩:=HC.out w2 HB2.out
           go_wp2_with fail
           go_ret
           exact⟨by first | (rw [HF.out];rfl) | simp,HB.out.trans (HB2.out.mono HB.out.size)⟩
          | true =>
           have HF:Hid (((k==k') && (od==od') && (po==po') && decide (L=L') && decide (T=T') && decide (M=M') && (sk==sk') && (fr==fr') && (to==to') && (q==q'))=true):=hid (by rw [h0,h1,h2,h3,h4,h5,h6,h7,h8,h9];rfl)
           obtain⟨a0,a1,a2,a3,a4,a5,a6,a7,a8,a9,b0,b1,b2,b3,b4,b5,b6,b7,b8,b9⟩:=HC.out W2 (Below.refl _ _)
           go_enter Tryz.func39,Tryz.ntmps39
           go_wp2_with fail
           rw [HW.out]
           have hc0:=HL.out W2 (Below.refl _ _)
           rw [h3] at hc0
           refine hc0.mono ?_
           rintro e w0 ⟨rfl,hb0⟩
           have HB0:Hid (Below W2.heap.size W2 w0):=hid (hb0)
           clear hc0 hb0 a0 a1 a2 a3 a4 a5 a6 a7 a8 a9 b0 b1 b2 b3 b4 b5 b6 b7 b8 b9
           obtain⟨a0,a1,a2,a3,a4,a5,a6,a7,a8,a9,b0,b1,b2,b3,b4,b5,b6,b7,b8,b9⟩:=HC.out w0 HB0.out
           go_wp2_with fail
           have hc1:=HT.out w0 HB0.out
           rw [h4] at hc1
           refine hc1.mono ?_
           rintro e w1 ⟨rfl,hb1⟩
           have HB1:Hid (Below W2.heap.size W2 w1):=hid (HB0.out.trans (hb1.mono HB0.out.size))
           clear hc1 hb1 a0 a1 a2 a3 a4 a5 a6 a7 a8 a9 b0 b1 b2 b3 b4 b5 b6 b7 b8 b9
           obtain⟨a0,a1,a2,a3,a4,a5,a6,a7,a8,a9,b0,b1,b2,b3,b4,b5,b6,b7,b8,b9⟩:=HC.out w1 HB1.out
           go_wp2_with fail
           have hc2:=HM.out w1 HB1.out
           rw [h5] at hc2
           refine hc2.mono ?_
           rintro e w2 ⟨rfl,hb2⟩
           have HB2:Hid (Below W2.heap.size W2 w2):=hid (HB1.out.trans (hb2.mono HB1.out.size))
           clear hc2 hb2 a0 a1 a2 a3 a4 a5 a6 a7 a8 a9 b0 b1 b2 b3 b4 b5 b6 b7 b8 b9
           obtain⟨a0,a1,a2,a3,a4,a5,a6,a7,a8,a9,b0,b1,b2,b3,b4,b5,b6,b7,b8,b9⟩:=HC.out w2 HB2.out
           go_wp2_with fail
           go_ret
           exact⟨by first | (rw [HF.out];rfl) | simp,HB.out.trans (HB2.out.mono HB.out.size)⟩
theorem equal_tk (p q:Option Addr) (n m c d:Nat) (L M:List Tk) (W:World) (hL:TKL W p n c L) (hM:TKL W q m d M) (hn:n≤100000) (hm:m≤100000) :
 Calls Tryz.prog 143 #[.slice p n c,.slice q m d] W fun e w'=>e=.returned (.bool (decide (L=M)))∧Below W.heap.size W w':=by
 have HL:=hid hL
 have HM:=hid hM
 have HLN:=hid hL.len
 have HMN:=hid hM.len
 clear hL hM
 by_cases hnm:n=m
 · subst hnm
   have h0:((n:Int) != (n:Int))=false:=by simp
   have hcc:=HL.out.cap
   have hcd:=HM.out.cap
   go_enter Tryz.func143,Tryz.ntmps143
   go_wp2_with fail
   go_loopw [13] (fun i wr=>∃ j:Nat,j≤n∧i=.int .i64 j∧Hid (Below W.heap.size W wr)∧Hid (∀ i,i<j→L.getD i tk0=M.getD i tk0)) (fun i _=>n-(Go.RowKit.intOf i).toNat)
   case atStart=>exact⟨0,Nat.zero_le _,rfl,hid (Below.refl _ _),hid fun i hi=>by omega⟩
   case round =>
    obtain⟨j,hj,rfl,HB,HE⟩:=hrel
    by_cases hlt:j<n
    · have hlt':(j:Int)<n:=by omega
      obtain⟨b,off,rfl,_,c0,c1,c2,c3⟩:=z0z (HL.out.later HB.out) hlt
      obtain⟨b',off',rfl,_,d0,d1,d2,d3⟩:=z0z (HM.out.later HB.out) hlt
      generalize hx:L.getD j tk0=x at *
      generalize hy:M.getD j tk0=y at *
      have HX:=hid hx
      have HY:=hid hy
      have hq:=fun w=>take_neq x.1 x.2.1 x.2.2.1 x.2.2.2 y.1 y.2.1 y.2.2.1 y.2.2.2 w
      have e1:decide (((x.1,x.2.1,x.2.2.1,x.2.2.2):Tk)=(y.1,y.2.1,y.2.2.1,y.2.2.2))=decide (x=y):=rfl
      rw [e1] at hq
      clear e1 hx hy
      by_cases hxy:x=y
      · rw [decide_eq_true hxy] at hq
        have HXY:=hid hxy
        clear hxy
        go_wp2_with fail
        go_quiet (fail)
        go_wp2_with fail
        go_roundw
        case rel =>
         refine⟨j+1,by omega,by go_num,hid (z0i HB.out _),hid fun i hi=>?_⟩
         by_cases e:i=j
         · subst e;rw [HX.out,HY.out,HXY.out]
         · exact HE.out i (by omega)
        case measure=>simp [Go.RowKit.intOf];omega
      · rw [decide_eq_false hxy] at hq
        have HF:Hid (decide (L=M)=false):=hid (decide_eq_false fun e=>hxy (by rw [← HX.out,← HY.out,e]))
        clear hxy
        go_wp2_with fail
        go_quiet (fail)
        go_wp2_with fail
        go_ret
        exact⟨by rw [HF.out];rfl,z0i HB.out _⟩
    · obtain rfl:j=n:=by omega
      have HF:Hid (decide (L=M)=true):=hid (decide_eq_true (tklists_same HLN.out HMN.out HE.out))
      go_wp2_with fail
      go_ret
      exact⟨by rw [HF.out];rfl,HB.out⟩
 · have h0:((n:Int) != (m:Int))=true:=by simp;omega
   have HF:Hid (decide (L=M)=false):=hid (decide_eq_false fun e=>hnm (by rw [← HLN.out,← HMN.out,e]))
   go_enter Tryz.func143,Tryz.ntmps143
   go_wp2_with fail
   go_ret
   exact⟨by rw [HF.out];rfl,Below.refl _ _⟩
theorem prog_order (k od po sk fr to q k' od' po' sk' fr' to' q':Int) (L:List Ln) (T:List Tk) (M:List Ln) (L':List Ln) (T':List Tk) (M':List Ln):((k==k') && (od==od') && (po==po') && decide (L=L') && decide (T=T') && decide (M=M') && (sk==sk') && (fr==fr') && (to==to') && (q==q'))=((k==k') && (od==od') && (po==po') && (sk==sk') && (fr==fr') && (to==to') && (q==q') && decide (L=L') && decide (T=T') && decide (M=M')):=by
 generalize (k==k')=x0
 generalize (od==od')=x1
 generalize (po==po')=x2
 generalize decide (L=L')=x3
 generalize decide (T=T')=x4
 generalize decide (M=M')=x5
 generalize (sk==sk')=x6
 generalize (fr==fr')=x7
 generalize (to==to')=x8
 generalize (q==q')=x9
 cases x0 <;> cases x1 <;> cases x2 <;> cases x3 <;> cases x4 <;> cases x5 <;> cases x6 <;> cases x7 <;> cases x8 <;> cases x9 <;> rfl
theorem same_p (k od po:Int) (lp:Option Addr) (ln lcp:Nat) (tp:Option Addr) (tn tcp:Nat) (wp:Option Addr) (wn wcp:Nat) (sk fr to q:Int) (k' od' po':Int) (lp':Option Addr) (ln' lcp':Nat) (tp':Option Addr) (tn' tcp':Nat) (wp':Option Addr) (wn' wcp':Nat) (sk' fr' to' q':Int) (L:List Ln) (T:List Tk) (M:List Ln) (L':List Ln) (T':List Tk) (M':List Ln) (W:World) (hP:PgM W lp ln lcp L tp tn tcp T wp wn wcp M) (hP':PgM W lp' ln' lcp' L' tp' tn' tcp' T' wp' wn' wcp' M') (h1:ln≤1000∧tn≤1000∧wn≤1000) (h2:ln'≤1000∧tn'≤1000∧wn'≤1000) :
 Calls Tryz.prog 122 #[.agg #[.int .u8 k,.int .u32 od,.int .u8 po,.slice lp ln lcp,.slice tp tn tcp,.slice wp wn wcp,.int .u8 sk,.int .u8 fr,.int .u8 to,.int .i64 q],.agg #[.int .u8 k',.int .u32 od',.int .u8 po',.slice lp' ln' lcp',.slice tp' tn' tcp',.slice wp' wn' wcp',.int .u8 sk',.int .u8 fr',.int .u8 to',.int .i64 q']] W fun e w'=>e=.returned (.bool (decide ((⟨k,od,po,L,T,M,sk,fr,to,q⟩:Pg)=⟨k',od',po',L',T',M',sk',fr',to',q'⟩)))∧Below W.heap.size W w':=by
 rw [prog_cases,prog_order]
 obtain⟨W2,hW2,b0,b1,hb⟩:=two_progs W #[.int .u8 k,.int .u32 od,.int .u8 po,.slice lp ln lcp,.slice tp tn tcp,.slice wp wn wcp,.int .u8 sk,.int .u8 fr,.int .u8 to,.int .i64 q] #[.int .u8 k',.int .u32 od',.int .u8 po',.slice lp' ln' lcp',.slice tp' tn' tcp',.slice wp' wn' wcp',.int .u8 sk',.int .u8 fr',.int .u8 to',.int .i64 q']
 have HW:=hid hW2
 have HB:=hid hb
 have HX:=hid b0
 have HY:=hid b1
 have HL:=hid fun w (h:Below W2.heap.size W2 w)=>equal_ln lp lp' ln ln' lcp lcp' L L' w ((hP.later hb).l.later h) ((hP'.later hb).l.later h) (by omega) (by omega)
 have HT:=hid fun w (h:Below W2.heap.size W2 w)=>equal_tk tp tp' tn tn' tcp tcp' T T' w ((hP.later hb).t.later h) ((hP'.later hb).t.later h) (by omega) (by omega)
 have HM:=hid fun w (h:Below W2.heap.size W2 w)=>equal_ln wp wp' wn wn' wcp wcp' M M' w ((hP.later hb).o.later h) ((hP'.later hb).o.later h) (by omega) (by omega)
 have HC:=hid fun w (h:Below W2.heap.size W2 w)=>cells_two k od po lp ln lcp tp tn tcp wp wn wcp sk fr to q k' od' po' lp' ln' lcp' tp' tn' tcp' wp' wn' wcp' sk' fr' to' q' (z0b HX.out h) (z0b HY.out h)
 clear hP hP' h1 h2 hb b0 b1 hW2
 cases h0:(k==k') with
 | false =>
  have HF:Hid (((k==k') && (od==od') && (po==po') && (sk==sk') && (fr==fr') && (to==to') && (q==q') && decide (L=L') && decide (T=T') && decide (M=M'))=false):=hid (by rw [h0];simp)
  obtain⟨a0,a1,a2,a3,a4,a5,a6,a7,a8,a9,b0,b1,b2,b3,b4,b5,b6,b7,b8,b9⟩:=HC.out W2 (Below.refl _ _)
  go_enter Tryz.func122,Tryz.ntmps122
  go_wp2_with fail
  go_ret
  rw [HW.out]
  exact⟨by first | (rw [HF.out];rfl) | simp,HB.out⟩
 | true =>
  cases h1:(od==od') with
  | false =>
   have HF:Hid (((k==k') && (od==od') && (po==po') && (sk==sk') && (fr==fr') && (to==to') && (q==q') && decide (L=L') && decide (T=T') && decide (M=M'))=false):=hid (by rw [h0,h1];simp)
   obtain⟨a0,a1,a2,a3,a4,a5,a6,a7,a8,a9,b0,b1,b2,b3,b4,b5,b6,b7,b8,b9⟩:=HC.out W2 (Below.refl _ _)
   go_enter Tryz.func122,Tryz.ntmps122
   go_wp2_with fail
   go_ret
   rw [HW.out]
   exact⟨by first | (rw [HF.out];rfl) | simp,HB.out⟩
  | true =>
   cases h2:(po==po') with
   | false =>
    have HF:Hid (((k==k') && (od==od') && (po==po') && (sk==sk') && (fr==fr') && (to==to') && (q==q') && decide (L=L') && decide (T=T') && decide (M=M'))=false):=hid (by rw [h0,h1,h2];simp)
    obtain⟨a0,a1,a2,a3,a4,a5,a6,a7,a8,a9,b0,b1,b2,b3,b4,b5,b6,b7,b8,b9⟩:=HC.out W2 (Below.refl _ _)
    go_enter Tryz.func122,Tryz.ntmps122
    go_wp2_with fail
    go_ret
    rw [HW.out]
    exact⟨by first | (rw [HF.out];rfl) | simp,HB.out⟩
   | true =>
    cases h3:(sk==sk') with
    | false =>
     have HF:Hid (((k==k') && (od==od') && (po==po') && (sk==sk') && (fr==fr') && (to==to') && (q==q') && decide (L=L') && decide (T=T') && decide (M=M'))=false):=hid (by rw [h0,h1,h2,h3];simp)
     obtain⟨a0,a1,a2,a3,a4,a5,a6,a7,a8,a9,b0,b1,b2,b3,b4,b5,b6,b7,b8,b9⟩:=HC.out W2 (Below.refl _ _)
     go_enter Tryz.func122,Tryz.ntmps122
     go_wp2_with fail
     go_ret
     rw [HW.out]
     exact⟨by first | (rw [HF.out];rfl) | simp,HB.out⟩
    | true =>
     cases h4:(fr==fr') with
     | false =>
      have HF:Hid (((k==k') && (od==od') && (po==po') && (sk==sk') && (fr==fr') && (to==to') && (q==q') && decide (L=L') && decide (T=T') && decide (M=M'))=false):=hid (by rw [h0,h1,h2,h3,h4];simp)
      obtain⟨a0,a1,a2,a3,a4,a5,a6,a7,a8,a9,b0,b1,b2,b3,b4,b5,b6,b7,b8,b9⟩:=HC.out W2 (Below.refl _ _)
      go_enter Tryz.func122,Tryz.ntmps122
      go_wp2_with fail
      go_ret
      rw [HW.out]
      exact⟨by first | (rw [HF.out];rfl) | simp,HB.out⟩
     | true =>
      cases h5:(to==to') with
      | false =>
       have HF:Hid (((k==k') && (od==od') && (po==po') && (sk==sk') && (fr==fr') && (to==to') && (q==q') && decide (L=L') && decide (T=T') && decide (M=M'))=false):=hid (by rw [h0,h1,h2,h3,h4,h5];simp)
       obtain⟨a0,a1,a2,a3,a4,a5,a6,a7,a8,a9,b0,b1,b2,b3,b4,b5,b6,b7,b8,b9⟩:=HC.out W2 (Below.refl _ _)
       go_enter Tryz.func122,Tryz.ntmps122
       go_wp2_with fail
       go_ret
       rw [HW.out]
       exact⟨by first | (rw [HF.out];rfl) | simp,HB.out⟩
      | true =>
       cases h6:(q==q') with
       | false =>
        have HF:Hid (((k==k') && (od==od') && (po==po') && (sk==sk') && (fr==fr') && (to==to') && (q==q') && decide (L=L') && decide (T=T') && decide (M=M'))=false):=hid (by rw [h0,h1,h2,h3,h4,h5,h6];simp)
        obtain⟨a0,a1,a2,a3,a4,a5,a6,a7,a8,a9,b0,b1,b2,b3,b4,b5,b6,b7,b8,b9⟩:=HC.out W2 (Below.refl _ _)
        go_enter Tryz.func122,Tryz.ntmps122
        go_wp2_with fail
        go_ret
        rw [HW.out]
        exact⟨by first | (rw [HF.out];rfl) | simp,HB.out⟩
       | true =>
        cases h7:decide (L=L') with
        | false =>
         have HF:Hid (((k==k') && (od==od') && (po==po') && (sk==sk') && (fr==fr') && (to==to') && (q==q') && decide (L=L') && decide (T=T') && decide (M=M'))=false):=hid (by rw [h0,h1,h2,h3,h4,h5,h6,h7];simp)
         obtain⟨a0,a1,a2,a3,a4,a5,a6,a7,a8,a9,b0,b1,b2,b3,b4,b5,b6,b7,b8,b9⟩:=HC.out W2 (Below.refl _ _)
         go_enter Tryz.func122,Tryz.ntmps122
         go_wp2_with fail
         rw [HW.out]
         have hc0:=HL.out W2 (Below.refl _ _)
         rw [h7] at hc0
         refine hc0.mono ?_
         rintro e w0 ⟨rfl,hb0⟩
         have HB0:Hid (Below W2.heap.size W2 w0):=hid (hb0)
         clear hc0 hb0 a0 a1 a2 a3 a4 a5 a6 a7 a8 a9 b0 b1 b2 b3 b4 b5 b6 b7 b8 b9
         obtain⟨a0,a1,a2,a3,a4,a5,a6,a7,a8,a9,b0,b1,b2,b3,b4,b5,b6,b7,b8,b9⟩:=HC.out w0 HB0.out
         go_wp2_with fail
         go_ret
         exact⟨by first | (rw [HF.out];rfl) | simp,HB.out.trans (HB0.out.mono HB.out.size)⟩
        | true =>
         cases h8:decide (T=T') with
         | false =>
          have HF:Hid (((k==k') && (od==od') && (po==po') && (sk==sk') && (fr==fr') && (to==to') && (q==q') && decide (L=L') && decide (T=T') && decide (M=M'))=false):=hid (by rw [h0,h1,h2,h3,h4,h5,h6,h7,h8];simp)
          obtain⟨a0,a1,a2,a3,a4,a5,a6,a7,a8,a9,b0,b1,b2,b3,b4,b5,b6,b7,b8,b9⟩:=HC.out W2 (Below.refl _ _)
          go_enter Tryz.func122,Tryz.ntmps122
          go_wp2_with fail
          rw [HW.out]
          have hc0:=HL.out W2 (Below.refl _ _)
          rw [h7] at hc0
          refine hc0.mono ?_
          rintro e w0 ⟨rfl,hb0⟩
          have HB0:Hid (Below W2.heap.size W2 w0):=hid (hb0)
          clear hc0 hb0 a0 a1 a2 a3 a4 a5 a6 a7 a8 a9 b0 b1 b2 b3 b4 b5 b6 b7 b8 b9
          obtain⟨a0,a1,a2,a3,a4,a5,a6,a7,a8,a9,b0,b1,b2,b3,b4,b5,b6,b7,b8,b9⟩:=HC.out w0 HB0.out
          go_wp2_with fail
          have hc1:=HT.out w0 HB0.out
          rw [h8] at hc1
          refine hc1.mono ?_
          rintro e w1 ⟨rfl,hb1⟩
          have HB1:Hid (Below W2.heap.size W2 w1):=hid (HB0.out.trans (hb1.mono HB0.out.size))
          clear hc1 hb1 a0 a1 a2 a3 a4 a5 a6 a7 a8 a9 b0 b1 b2 b3 b4 b5 b6 b7 b8 b9
          obtain⟨a0,a1,a2,a3,a4,a5,a6,a7,a8,a9,b0,b1,b2,b3,b4,b5,b6,b7,b8,b9⟩:=HC.out w1 HB1.out
          go_wp2_with fail
          go_ret
          exact⟨by first | (rw [HF.out];rfl) | simp,HB.out.trans (HB1.out.mono HB.out.size)⟩
         | true =>
          cases h9:decide (M=M') with
          | false =>
           have HF:Hid (((k==k') && (od==od') && (po==po') && (sk==sk') && (fr==fr') && (to==to') && (q==q') && decide (L=L') && decide (T=T') && decide (M=M'))=false):=hid (by rw [h0,h1,h2,h3,h4,h5,h6,h7,h8,h9];simp)
           obtain⟨a0,a1,a2,a3,a4,a5,a6,a7,a8,a9,b0,b1,b2,b3,b4,b5,b6,b7,b8,b9⟩:=HC.out W2 (Below.refl _ _)
           go_enter Tryz.func122,Tryz.ntmps122
           go_wp2_with fail
           rw [HW.out]
           have hc0:=HL.out W2 (Below.refl _ _)
           rw [h7] at hc0
           refine hc0.mono ?_
           rintro e w0 ⟨rfl,hb0⟩
           have HB0:Hid (Below W2.heap.size W2 w0):=hid (hb0)
           clear hc0 hb0 a0 a1 a2 a3 a4 a5 a6 a7 a8 a9 b0 b1 b2 b3 b4 b5 b6 b7 b8 b9
           obtain⟨a0,a1,a2,a3,a4,a5,a6,a7,a8,a9,b0,b1,b2,b3,b4,b5,b6,b7,b8,b9⟩:=HC.out w0 HB0.out
           go_wp2_with fail
           have hc1:=HT.out w0 HB0.out
           rw [h8] at hc1
           refine hc1.mono ?_
           rintro e w1 ⟨rfl,hb1⟩
           have HB1:Hid (Below W2.heap.size W2 w1):=hid (HB0.out.trans (hb1.mono HB0.out.size))
           clear hc1 hb1 a0 a1 a2 a3 a4 a5 a6 a7 a8 a9 b0 b1 b2 b3 b4 b5 b6 b7 b8 b9
           obtain⟨a0,a1,a2,a3,a4,a5,a6,a7,a8,a9,b0,b1,b2,b3,b4,b5,b6,b7,b8,b9⟩:=HC.out w1 HB1.out
           go_wp2_with fail
           have hc2:=HM.out w1 HB1.out
           rw [h9] at hc2
           refine hc2.mono ?_
           rintro e w2 ⟨rfl,hb2⟩
           have HB2:Hid (Below W2.heap.size W2 w2):=hid (HB1.out.trans (hb2.mono HB1.out.size))
           clear hc2 hb2 a0 a1 a2 a3 a4 a5 a6 a7 a8 a9 b0 b1 b2 b3 b4 b5 b6 b7 b8 b9
           obtain⟨a0,a1,a2,a3,a4,a5,a6,a7,a8,a9,b0,b1,b2,b3,b4,b5,b6,b7,b8,b9⟩:=HC.out w2 HB2.out
           go_wp2_with fail
           go_ret
           exact⟨by first | (rw [HF.out];rfl) | simp,HB.out.trans (HB2.out.mono HB.out.size)⟩
          | true =>
           have HF:Hid (((k==k') && (od==od') && (po==po') && (sk==sk') && (fr==fr') && (to==to') && (q==q') && decide (L=L') && decide (T=T') && decide (M=M'))=true):=hid (by rw [h0,h1,h2,h3,h4,h5,h6,h7,h8,h9];rfl)
           obtain⟨a0,a1,a2,a3,a4,a5,a6,a7,a8,a9,b0,b1,b2,b3,b4,b5,b6,b7,b8,b9⟩:=HC.out W2 (Below.refl _ _)
           go_enter Tryz.func122,Tryz.ntmps122
           go_wp2_with fail
           rw [HW.out]
           have hc0:=HL.out W2 (Below.refl _ _)
           rw [h7] at hc0
           refine hc0.mono ?_
           rintro e w0 ⟨rfl,hb0⟩
           have HB0:Hid (Below W2.heap.size W2 w0):=hid (hb0)
           clear hc0 hb0 a0 a1 a2 a3 a4 a5 a6 a7 a8 a9 b0 b1 b2 b3 b4 b5 b6 b7 b8 b9
           obtain⟨a0,a1,a2,a3,a4,a5,a6,a7,a8,a9,b0,b1,b2,b3,b4,b5,b6,b7,b8,b9⟩:=HC.out w0 HB0.out
           go_wp2_with fail
           have hc1:=HT.out w0 HB0.out
           rw [h8] at hc1
           refine hc1.mono ?_
           rintro e w1 ⟨rfl,hb1⟩
           have HB1:Hid (Below W2.heap.size W2 w1):=hid (HB0.out.trans (hb1.mono HB0.out.size))
           clear hc1 hb1 a0 a1 a2 a3 a4 a5 a6 a7 a8 a9 b0 b1 b2 b3 b4 b5 b6 b7 b8 b9
           obtain⟨a0,a1,a2,a3,a4,a5,a6,a7,a8,a9,b0,b1,b2,b3,b4,b5,b6,b7,b8,b9⟩:=HC.out w1 HB1.out
           go_wp2_with fail
           have hc2:=HM.out w1 HB1.out
           rw [h9] at hc2
           refine hc2.mono ?_
           rintro e w2 ⟨rfl,hb2⟩
           have HB2:Hid (Below W2.heap.size W2 w2):=hid (HB1.out.trans (hb2.mono HB1.out.size))
           clear hc2 hb2 a0 a1 a2 a3 a4 a5 a6 a7 a8 a9 b0 b1 b2 b3 b4 b5 b6 b7 b8 b9
           obtain⟨a0,a1,a2,a3,a4,a5,a6,a7,a8,a9,b0,b1,b2,b3,b4,b5,b6,b7,b8,b9⟩:=HC.out w2 HB2.out
           go_wp2_with fail
           go_ret
           exact⟨by first | (rw [HF.out];rfl) | simp,HB.out.trans (HB2.out.mono HB.out.size)⟩
end Go.Proofs.YtclbkfpbdidaiaaGreatDoor
