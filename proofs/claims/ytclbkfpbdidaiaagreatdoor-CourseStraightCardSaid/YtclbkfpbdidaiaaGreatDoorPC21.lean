import Derived.Test.YtclbkfpbdidaiaaGreatDoorPC20
import Derived.LaidMore
namespace Go.Proofs.YtclbkfpbdidaiaaGreatDoor
open Go.Lib (hid)
set_option maxHeartbeats 8000000
open Go.RowKit Go.ChangeShapes Go.WideShapes
set_option linter.unusedVariables false
set_option maxRecDepth 10000
def wordsL:List (List UInt8):=[[],[116,97,107,101],[102,114,101,101],[115,101,110,100],[98,97,99,107],[112,117,116],[100,114,97,119],[111,119,101],[112,97,121]]
def z9p (t:Nat):ByteArray:=⟨(wordsL.getD t []).toArray⟩
theorem cells_of_strs {H:Type} {enc:TypeId × Value→H} {P:Program} {w:World} {base:Nat} {sp:Nat→Bool} {held:Bool} {fuel:Nat} {t e:TypeId} {n:Nat} {cs:List Value} {zs:List (List UInt8)} {p:List MemPlace}
 (ht:P.underlying t=some (.array n e)) (he:P.underlying e=some .string) (hce:P.cellsOf e=1) (hct:P.cellsOf t=n)
 (h:DataW.trod enc P w base sp held fuel t cs=some (.agg (zs.map fun z=>.lit (.string z)),p)):cs=zs.map fun z=>Value.string ⟨z.toArray⟩:=by
 cases fuel with
 | zero=>simp [DataW.trod] at h
 | succ fuel =>
  simp only [DataW.trod,ht,hce,hct,Nat.mul_one] at h
  split at h
  · rename_i hl
    obtain⟨xs,hm,hx⟩:=Option.map_eq_some_iff.1 h
    have hxs:xs.map (·.1)=zs.map fun z=>(DataW.lit (.string z):DataW H):=by
     have:=congrArg Prod.fst hx
     simpa using this
    have hxl:xs.length=n:=by simpa using Lib.mapM_length hm
    have hzl:zs.length=n:=by
     have:=congrArg List.length hxs
     simp at this
     omega
    apply List.ext_getElem?
    intro i
    by_cases hi:i<n
    · obtain⟨b,hb,hf⟩:=Lib.mapM_at hm i i (by simp [hi])
      obtain⟨z,hc,rfl,_⟩:=DataW.trod_string he hf
      have h1:cs[i]?=some (.string z):=by
       have:=congrArg (·[0]?) hc
       simpa [List.getElem?_take,List.getElem?_drop] using this
      have h2:(xs.map (·.1))[i]?=some (DataW.lit (.string z.data.toList):DataW H):=by simp [hb]
      rw [hxs] at h2
      simp only [List.getElem?_map,Option.map_eq_some_iff,DataW.lit.injEq,Lit.string.injEq] at h2
      obtain⟨z',hz',hzz⟩:=h2
      have hz2:(⟨z'.toArray⟩:ByteArray)=z:=by rw [hzz]
      simp [h1,hz',hz2]
    · rw [List.getElem?_eq_none (by omega),List.getElem?_eq_none (by simp;omega)]
  · cases h
def Words (W : World) : Prop := W.var? Tryz.prog "pledge/step.words" = some (wordsL.map fun z => Value.string ⟨z.toArray⟩).toArray
theorem gWords : Tryz.prog.globalNamed "pledge/step.words" = some 0 := by kernel_rfl
theorem tWords:(Tryz.prog.globals[0]?).map (·.type)=some 194:=by kernel_rfl
theorem Words.later {W W':World} (h:Words W) (hb:Below W.heap.size W W'):Words W':=Go.Joins.var_stays gWords h hb (Nat.le_refl _)
theorem Words.cell {W:World} (h:Words W) (t:Nat) (ht:t<9):W.cell? ⟨0,t,none⟩=some (.string (z9p t)):=by
 have:=World.var?_cell gWords h t
 rw [this]
 rcases (by omega:t=0∨t=1∨t=2∨t=3∨t=4∨t=5∨t=6∨t=7∨t=8) with rfl | rfl | rfl | rfl | rfl | rfl | rfl | rfl | rfl <;> rfl
theorem tagword_any (t:Int) (h0:0≤t) (h255:t≤255) (W:World) (hw:Words W) :
 Calls Tryz.prog 155 #[.int .u8 t] W fun e w'=>e=.returned (.string (z9p t.toNat))∧w'=W:=by
 by_cases h9:t<9
 · obtain⟨k,rfl⟩:∃ k:Nat,t=(k:Int):=⟨t.toNat,by omega⟩
   have hc:=hw.cell k (by omega)
   have hd:decide (9≤(k:Int))=false:=decide_eq_false (by omega)
   have hk:((k:Nat):Int).toNat=k:=rfl
   rw [hk]
   generalize z9p k=s at *
   clear hw hk
   go_enter Tryz.func155,Tryz.ntmps155
   go_wp2_with fail
   go_ret
   exact⟨rfl,rfl⟩
 · have hd:decide (9≤t)=true:=decide_eq_true (by omega)
   have hk:z9p t.toNat=⟨#[]⟩:=by
    unfold z9p wordsL
    rw [List.getD,List.getElem?_eq_none (by simp;omega)];rfl
   rw [hk]
   clear hw hk
   go_enter Tryz.func155,Tryz.ntmps155
   go_wp2_with fail
   go_ret
   exact⟨rfl,rfl⟩
theorem lineB_at (s:Int) (L:List Ln) (j:Nat) (x:Ln) (h:L.getD j l0=x):z2e s L j=(decide (x.1<s) && decide (1≤x.2) && (decide (j=0) || decide ((L.getD (j-1) l0).1<x.1))):=by
 unfold z2e
 rw [h]
theorem z7v (s:Int) (p:Option Addr) (n c:Nat) (L:List Ln) (W:World) (hL:LL W p n c L) (hok:∀ x∈L,Lnok x) (hn:n≤1000) :
 Calls Tryz.prog 35 #[.int .i64 s,.slice p n c] W fun e w'=>e=.returned (.bool (z0q s L))∧Below W.heap.size W w':=by
 have HL:=hid hL
 have HLN:=hid hL.len
 have HOK:=hid fun j (hj:j<n)=>q1g hok (show j<L.length by rw [hL.len];exact hj)
 have HFA:=hid fun j (hj:j<n)=>lines_false s L j (by rw [hL.len];exact hj)
 have HTR:=hid (lines_true s L)
 have hcap:=hL.cap
 clear hL hok
 go_enter Tryz.func35,Tryz.ntmps35
 go_wp2_with fail
 go_loopw [5] (fun i wr=>∃ j:Nat,j≤n∧i=.int .i64 j∧Hid (Below W.heap.size W wr)∧Hid (∀ i,i<j→z2e s L i=true)) (fun i _=>n-(Go.RowKit.intOf i).toNat)
 case atStart=>exact⟨0,Nat.zero_le _,rfl,hid (Below.refl _ _),hid fun i hi=>by omega⟩
 case round =>
  obtain⟨j,hj,rfl,HB,HE⟩:=hrel
  by_cases hlt:j<n
  · have hlt':(j:Int)<n:=by omega
    obtain⟨b,off,rfl,_,c0,c1⟩:=z1o (HL.out.later HB.out) hlt
    obtain⟨⟨hx0,hx1⟩,hx2,hx3⟩:=HOK.out j hlt
    have hfa:=HFA.out j hlt
    have hlb:=lineB_at s L j _ rfl
    have HPV:Hid (∀ k,k<n→wr.cell? ⟨b,off+k*2,none⟩=some (.int .u8 (L.getD k l0).1)):=hid fun k hk=>by
     obtain⟨b',off',he,_,d0,_⟩:=z1o (HL.out.later HB.out) hk
     cases he
     exact d0
    generalize L.getD j l0=x at *
    obtain⟨a,q⟩:=x
    dsimp only at c0 c1 hx0 hx1 hx2 hx3 hlb
    have HFA1:=hid hfa
    have HLB:=hid hlb
    clear hfa hlb
    have hwa:IntKind.i64.wrap a=a:=IntWalk.i64_in _ (by omega)
    by_cases hs:s≤a
    · have hd:decide (s≤a)=true:=decide_eq_true hs
      have HF:Hid (z0q s L=false):=hid (HFA1.out (by rw [HLB.out,decide_eq_false (by omega)];rfl))
      clear hs
      go_wp2_with fail
      go_quiet (fail)
      go_wp2_with fail
      go_ret
      exact⟨by rw [HF.out];rfl,z0e HB.out _⟩
    have hd:decide (s≤a)=false:=decide_eq_false hs
    have hd':decide (a<s)=true:=decide_eq_true (by omega)
    by_cases hq:q<1
    · have hd2:decide (q<1)=true:=decide_eq_true hq
      have HF:Hid (z0q s L=false):=hid (HFA1.out (by rw [HLB.out,decide_eq_false (show ¬ 1≤q by omega),Bool.and_false];rfl))
      clear hs hq hd'
      go_wp2_with fail
      go_quiet (fail)
      go_wp2_with fail
      go_ret
      exact⟨by rw [HF.out];rfl,z0e HB.out _⟩
    have hd2:decide (q<1)=false:=decide_eq_false hq
    have hd2':decide (1≤q)=true:=decide_eq_true (by omega)
    by_cases hj0:j=0
    · have hd3:decide (0<(j:Int))=false:=decide_eq_false (by omega)
      have hd3n:decide (0<j)=false:=decide_eq_false (by omega)
      have HT:Hid (z2e s L j=true):=hid (by rw [HLB.out,hd',hd2',decide_eq_true hj0];rfl)
      clear hs hq hd' hd2' hj0
      go_wp2_with fail
      go_quiet (fail)
      go_wp2_with fail
      go_roundw
      case rel =>
       refine⟨j+1,by omega,by go_num,hid (z0e HB.out _),hid fun i hi=>?_⟩
       by_cases e:i=j
       · subst e;exact HT.out
       · exact HE.out i (by omega)
      case measure=>simp [Go.RowKit.intOf];omega
    obtain⟨k,hk⟩:∃ k,j=k+1:=⟨j-1,by omega⟩
    have d0:=HPV.out k (by omega)
    have hj1:j-1=k:=by omega
    have hji:(j:Int)-1=k:=by omega
    have hd3:decide (0<(j:Int))=true:=decide_eq_true (by omega)
    have hd3n:decide (0<j)=true:=decide_eq_true (by omega)
    have hkn:(k:Int)<n:=by omega
    rw [hj1] at HLB
    generalize (L.getD k l0).1=y at *
    have HJ:=hid hj0
    clear hj1
    by_cases hy:a≤y
    · have hd4:decide (a≤y)=true:=decide_eq_true hy
      have HF:Hid (z0q s L=false):=hid (HFA1.out (by rw [HLB.out,decide_eq_false HJ.out,decide_eq_false (show ¬ y<a by omega)];simp))
      clear hs hq hd' hd2' hk hj0 hy
      go_wp2_with fail
      go_quiet (fail)
      go_wp2_with fail
      go_ret
      exact⟨by rw [HF.out];rfl,z0e HB.out _⟩
    · have hd4:decide (a≤y)=false:=decide_eq_false hy
      have HT:Hid (z2e s L j=true):=hid (by rw [HLB.out,hd',hd2',decide_eq_true (show y<a by omega)];simp)
      clear hs hq hd' hd2' hk hj0 hy
      go_wp2_with fail
      go_quiet (fail)
      go_wp2_with fail
      go_roundw
      case rel =>
       refine⟨j+1,by omega,by go_num,hid (z0e HB.out _),hid fun i hi=>?_⟩
       by_cases e:i=j
       · subst e;exact HT.out
       · exact HE.out i (by omega)
      case measure=>simp [Go.RowKit.intOf];omega
  · obtain rfl:j=n:=by omega
    have HF:Hid (z0q s L=decide ((j:Int)≤3)):=hid (by
     rw [HTR.out (fun i hi=>HE.out i (by rw [← HLN.out];exact hi)),HLN.out]
     exact decide_eq_decide.2 (by omega))
    go_wp2_with fail
    go_ret
    exact⟨by rw [HF.out];rfl,HB.out⟩
theorem q0h (s w t r:Int) (L:List Ln) (h:z0m s w=false∨¬ (1≤t∧t≤8)∨L.length=0∨z0q s L=false):z3i s w t r L=false:=by
 unfold z3i
 rcases h with h | h | h | h
 · simp [h]
 · rw [decide_eq_false h];simp
 · rw [decide_eq_false (show ¬ 1≤L.length by omega)];simp
 · simp [h]
def tkA (s w o:Int) (x:Tk):Bool:=decide (x.1=o) && decide (x.2.1<s) && decide (x.2.2.1<w) && decide (1≤x.2.2.2)
def tkB (j:Nat) (x y:Tk):Bool:=decide (j=0) || decide (y.2.2.1<x.2.2.1) || (decide (y.2.2.1=x.2.2.1) && decide (y.2.1<x.2.1))
def tkC (j:Nat) (x z:Tk):Bool:=decide (j<3) || decide (z.2.2.1≠x.2.2.1)
theorem takeAt_eq (s w o:Int) (T:List Tk) (j:Nat):z6v s w o T j=(tkA s w o (T.getD j tk0) && tkB j (T.getD j tk0) (T.getD (j-1) tk0) && tkC j (T.getD j tk0) (T.getD (j-3) tk0)):=rfl
theorem z0d (k od po:Int) (lp:Option Addr) (ln lcp:Nat) (tp:Option Addr) (tn tcp:Nat) (wp:Option Addr) (wn wcp:Nat) (sk fr to q:Int) {w:World} {X:Nat} (hx:w.heap[X]?=some (.cells #[.int .u8 k,.int .u32 od,.int .u8 po,.slice lp ln lcp,.slice tp tn tcp,.slice wp wn wcp,.int .u8 sk,.int .u8 fr,.int .u8 to,.int .i64 q] 26 (0,0))) :
 w.cell? ⟨X,0,none⟩=some (.int .u8 k)∧w.cell? ⟨X,1,none⟩=some (.int .u32 od)∧w.cell? ⟨X,2,none⟩=some (.int .u8 po)∧w.cell? ⟨X,3,none⟩=some (.slice lp ln lcp)∧w.cell? ⟨X,4,none⟩=some (.slice tp tn tcp)∧w.cell? ⟨X,5,none⟩=some (.slice wp wn wcp)∧w.cell? ⟨X,6,none⟩=some (.int .u8 sk)∧w.cell? ⟨X,7,none⟩=some (.int .u8 fr)∧w.cell? ⟨X,8,none⟩=some (.int .u8 to)∧w.cell? ⟨X,9,none⟩=some (.int .i64 q) :=
 ⟨z0a hx rfl,z0a hx rfl,z0a hx rfl,z0a hx rfl,z0a hx rfl,z0a hx rfl,z0a hx rfl,z0a hx rfl,z0a hx rfl,z0a hx rfl⟩
theorem z5y (s w:Int) (k od po:Int) (lp:Option Addr) (ln lcp:Nat) (tp:Option Addr) (tn tcp:Nat) (wp:Option Addr) (wn wcp:Nat) (sk fr to q:Int) (T:List Tk) (W:World) (hT:TKL W tp tn tcp T) (hTok:∀ x∈T,Tkok x) (hn:tn≤1000) :
 Calls Tryz.prog 36 #[.int .i64 s,.int .i64 w,.agg #[.int .u8 k,.int .u32 od,.int .u8 po,.slice lp ln lcp,.slice tp tn tcp,.slice wp wn wcp,.int .u8 sk,.int .u8 fr,.int .u8 to,.int .i64 q]] W fun e w'=>e=.returned (.bool (z0s s w od T))∧Below W.heap.size W w':=by
 have hb1:Below W.heap.size W (W.alloc (.cells #[.int .u8 k,.int .u32 od,.int .u8 po,.slice lp ln lcp,.slice tp tn tcp,.slice wp wn wcp,.int .u8 sk,.int .u8 fr,.int .u8 to,.int .i64 q] 26)):=(Below.refl _ _).alloc (Nat.le_refl _) _
 have HB1:=hid hb1
 have HT:=hid (hT.later hb1)
 have HLN:=hid hT.len
 have HX:=hid (z0c W (.cells #[.int .u8 k,.int .u32 od,.int .u8 po,.slice lp ln lcp,.slice tp tn tcp,.slice wp wn wcp,.int .u8 sk,.int .u8 fr,.int .u8 to,.int .i64 q] 26))
 have HOK:=hid fun j (hj:j<tn)=>q0w hTok (show j<T.length by rw [hT.len];exact hj)
 have HFA:=hid fun j (hj:j<tn)=>takes_false s w od T j (by rw [hT.len];exact hj)
 have HTR:=hid (takes_true s w od T)
 have hcap:=hT.cap
 clear hT hTok hb1
 go_enter Tryz.func36,Tryz.ntmps36
 go_wp2_with fail
 generalize W.alloc (.cells #[.int .u8 k,.int .u32 od,.int .u8 po,.slice lp ln lcp,.slice tp tn tcp,.slice wp wn wcp,.int .u8 sk,.int .u8 fr,.int .u8 to,.int .i64 q] 26)=W1 at *
 go_loopw [8] (fun i wr=>∃ j:Nat,j≤tn∧i=.int .i64 j∧Hid (Below W1.heap.size W1 wr)∧Hid (∀ i,i<j→z6v s w od T i=true)) (fun i _=>tn-(Go.RowKit.intOf i).toNat)
 case atStart=>exact⟨0,Nat.zero_le _,rfl,hid (Below.refl _ _),hid fun i hi=>by omega⟩
 case round =>
  obtain⟨j,hj,rfl,HB,HE⟩:=hrel
  by_cases hlt:j<tn
  case neg =>
   obtain rfl:j=tn:=by omega
   have HF:Hid (z0s s w od T=decide ((j:Int)≤12)):=hid (by
    rw [HTR.out (fun i hi=>HE.out i (by rw [← HLN.out];exact hi)),HLN.out]
    exact decide_eq_decide.2 (by omega))
   go_wp2_with fail
   go_ret
   exact⟨by rw [HF.out];rfl,HB1.out.trans (HB.out.mono HB1.out.size)⟩
  have hlt':(j:Int)<tn:=by omega
  have hat:=takeAt_eq s w od T j
  obtain⟨b,off,rfl,_,_⟩:=z1g (HT.out.later HB.out) hlt
  have HTC:Hid (∀ k,k<tn→∀ w',Below W1.heap.size W1 w'→w'.cell? ⟨b,off+k*4,none⟩=some (.int .u32 (T.getD k tk0).1)∧w'.cell? ⟨b,off+k*4+1,none⟩=some (.int .u8 (T.getD k tk0).2.1)∧w'.cell? ⟨b,off+k*4+2,none⟩=some (.int .u8 (T.getD k tk0).2.2.1)∧w'.cell? ⟨b,off+k*4+3,none⟩=some (.int .i64 (T.getD k tk0).2.2.2)):=hid fun k hk w' h=>by
   obtain⟨b',off',he,_,d0,d1,d2,d3⟩:=z1g (HT.out.later h) hk
   cases he
   exact⟨d0,d1,d2,d3⟩
  have HFAJ:=hid (HFA.out j hlt)
  obtain⟨⟨ho0,ho1⟩,⟨ha0,ha1⟩,⟨hw0,hw1⟩,hq0,hq1⟩:=HOK.out j hlt
  obtain⟨c0,c1,c2,c3⟩:=HTC.out j hlt wr HB.out
  obtain⟨_,e1,_,_,_,_,_,_,_,_⟩:=z0d _ _ _ _ _ _ _ _ _ _ _ _ _ _ _ _ (z0b HX.out HB.out)
  generalize hx:T.getD j tk0=x at *
  generalize hy:T.getD (j-1) tk0=y at *
  generalize hz:T.getD (j-3) tk0=z at *
  obtain⟨o,a,v,qq⟩:=x
  dsimp only at c0 c1 c2 c3 ho0 ho1 ha0 ha1 hw0 hw1 hq0 hq1
  have hwa:IntKind.i64.wrap a=a:=IntWalk.i64_in _ (by omega)
  have hwv:IntKind.i64.wrap v=v:=IntWalk.i64_in _ (by omega)
  have HAT:=hid hat
  have HX1:=hid hx
  have HY1:=hid hy
  have HZ1:=hid hz
  clear hat hx hy hz
  by_cases h1:o=od
  case neg =>
   have d1:(o != od)=true:=by simpa using h1
   have HF:=hid (HFAJ.out (by rw [HAT.out,show tkA s w od (o,a,v,qq)=false from by unfold tkA;simp;omega];simp))
   go_wp2_with fail
   go_quiet (fail)
   go_wp2_with fail
   go_ret
   exact⟨by rw [HF.out];rfl,HB1.out.trans ((z0e HB.out _).mono HB1.out.size)⟩
  have d1:(o != od)=false:=by simpa using h1
  by_cases h2:s≤a
  case pos =>
   have d2:decide (s≤a)=true:=decide_eq_true h2
   have HF:=hid (HFAJ.out (by rw [HAT.out,show tkA s w od (o,a,v,qq)=false from by unfold tkA;simp;omega];simp))
   go_wp2_with fail
   go_quiet (fail)
   go_wp2_with fail
   go_ret
   exact⟨by rw [HF.out];rfl,HB1.out.trans ((z0e HB.out _).mono HB1.out.size)⟩
  have d2:decide (s≤a)=false:=decide_eq_false h2
  by_cases h3:w≤v
  case pos =>
   have d3:decide (w≤v)=true:=decide_eq_true h3
   have HF:=hid (HFAJ.out (by rw [HAT.out,show tkA s w od (o,a,v,qq)=false from by unfold tkA;simp;omega];simp))
   go_wp2_with fail
   go_quiet (fail)
   go_wp2_with fail
   go_ret
   exact⟨by rw [HF.out];rfl,HB1.out.trans ((z0e HB.out _).mono HB1.out.size)⟩
  have d3:decide (w≤v)=false:=decide_eq_false h3
  by_cases h4:qq<1
  case pos =>
   have d4:decide (qq<1)=true:=decide_eq_true h4
   have HF:=hid (HFAJ.out (by rw [HAT.out,show tkA s w od (o,a,v,qq)=false from by unfold tkA;simp;omega];simp))
   go_wp2_with fail
   go_quiet (fail)
   go_wp2_with fail
   go_ret
   exact⟨by rw [HF.out];rfl,HB1.out.trans ((z0e HB.out _).mono HB1.out.size)⟩
  have d4:decide (qq<1)=false:=decide_eq_false h4
  have HA:Hid (tkA s w od (o,a,v,qq)=true):=hid (by unfold tkA;simp;omega)
  have hav:¬ s≤a∧¬ w≤v:=⟨h2,h3⟩
  clear h1 h2 h3 h4
  go_wp2_with fail
  go_quiet (fail)
  go_wp2_with fail
  by_cases hj0:j=0
  case pos =>
   have d5:decide (0<(j:Int))=false:=decide_eq_false (by omega)
   have d5n:decide (0<j)=false:=decide_eq_false (by omega)
   have HBT:Hid (tkB j (o,a,v,qq) y=true):=hid (by unfold tkB;rw [decide_eq_true hj0];rfl)
   go_quiet (fail)
   go_wp2_with fail
   have d7:decide (3≤(j:Int))=false:=decide_eq_false (by omega)
   have d7n:decide (3≤j)=false:=decide_eq_false (by omega)
   have HCT:Hid (tkC j (o,a,v,qq) z=true):=hid (by unfold tkC;rw [decide_eq_true (show j<3 by omega)];rfl)
   clear hj0
   go_quiet (fail)
   go_wp2_with fail
   go_roundw
   case rel =>
    refine⟨j+1,by omega,by go_num,hid (by repeat (first | exact HB.out | refine z0e ?_ _)),hid fun i hi=>?_⟩
    by_cases e:i=j
    · subst e;rw [HAT.out,HA.out,HBT.out,HCT.out];rfl
    · exact HE.out i (by omega)
   case measure=>simp [Go.RowKit.intOf];omega
  obtain⟨k',hk⟩:∃ k,j=k+1:=⟨j-1,by omega⟩
  obtain⟨y0,y1,y2,y3⟩:=HTC.out k' (by omega) wr HB.out
  have hj1:j-1=k':=by omega
  have HY2:=HY1.out
  rw [hj1] at HY2
  rw [HY2] at y0 y1 y2 y3
  have hji:(j:Int)-1=k':=by omega
  have hkn:(k':Int)<tn:=by omega
  have d5:decide (0<(j:Int))=true:=decide_eq_true (by omega)
  have d5n:decide (0<j)=true:=decide_eq_true (by omega)
  obtain⟨yo,ya,yw,yq⟩:=y
  dsimp only at y0 y1 y2 y3
  have HJ0:=hid hj0
  clear hj1 HY2 hj0 hk
  by_cases g1:v<yw
  case pos =>
   have d6:decide (v<yw)=true:=decide_eq_true g1
   have HF:=hid (HFAJ.out (by rw [HAT.out,show tkB j (o,a,v,qq) (yo,ya,yw,yq)=false from by unfold tkB;rw [decide_eq_false HJ0.out];simp;omega];simp))
   go_wp2_with fail
   go_quiet (fail)
   go_wp2_with fail
   go_ret
   exact⟨by rw [HF.out];rfl,HB1.out.trans ((z0e (z0e HB.out _) _).mono HB1.out.size)⟩
  have d6:decide (v<yw)=false:=decide_eq_false g1
  by_cases g2:yw=v
  case pos =>
   have d9:(yw==v)=true:=by simpa using g2
   by_cases g3:a≤ya
   case pos =>
    have d10:decide (a≤ya)=true:=decide_eq_true g3
    have HF:=hid (HFAJ.out (by rw [HAT.out,show tkB j (o,a,v,qq) (yo,ya,yw,yq)=false from by unfold tkB;rw [decide_eq_false HJ0.out];simp;omega];simp))
    go_wp2_with fail
    go_quiet (fail)
    go_wp2_with fail
    go_ret
    exact⟨by rw [HF.out];rfl,HB1.out.trans ((z0e (z0e HB.out _) _).mono HB1.out.size)⟩
   have d10:decide (a≤ya)=false:=decide_eq_false g3
   have HBT:Hid (tkB j (o,a,v,qq) (yo,ya,yw,yq)=true):=hid (by unfold tkB;simp;omega)
   clear g1 g2 g3
   go_quiet (fail)
   go_wp2_with fail
   by_cases h3:j<3
   case pos =>
    have d7:decide (3≤(j:Int))=false:=decide_eq_false (by omega)
    have d7n:decide (3≤j)=false:=decide_eq_false (by omega)
    have HCT:Hid (tkC j (o,a,v,qq) z=true):=hid (by unfold tkC;rw [decide_eq_true h3];rfl)
    clear h3
    go_quiet (fail)
    go_wp2_with fail
    go_roundw
    case rel =>
     refine⟨j+1,by omega,by go_num,hid (by repeat (first | exact HB.out | refine z0e ?_ _)),hid fun i hi=>?_⟩
     by_cases e:i=j
     · subst e;rw [HAT.out,HA.out,HBT.out,HCT.out];rfl
     · exact HE.out i (by omega)
    case measure=>simp [Go.RowKit.intOf];omega
   obtain⟨m,hm⟩:∃ m,j=m+3:=⟨j-3,by omega⟩
   obtain⟨z0,z1,z2,z3⟩:=HTC.out m (by omega) wr HB.out
   have hj3:j-3=m:=by omega
   have HZ2:=HZ1.out
   rw [hj3] at HZ2
   rw [HZ2] at z0 z1 z2 z3
   have hji3:(j:Int)-3=m:=by omega
   have hmn:(m:Int)<tn:=by omega
   have d7:decide (3≤(j:Int))=true:=decide_eq_true (by omega)
   have d7n:decide (3≤j)=true:=decide_eq_true (by omega)
   have hm3:¬ j<3:=h3
   obtain⟨zo,za,zw,zq⟩:=z
   dsimp only at z0 z1 z2 z3
   have HM3:=hid hm3
   clear hj3 HZ2 h3 hm3 hm
   by_cases g5:zw=v
   case pos =>
    have d8:(zw==v)=true:=by simpa using g5
    have HF:=hid (HFAJ.out (by rw [HAT.out,show tkC j (o,a,v,qq) (zo,za,zw,zq)=false from by unfold tkC;rw [decide_eq_false HM3.out];simpa using g5];simp))
    go_wp2_with fail
    go_quiet (fail)
    go_wp2_with fail
    go_ret
    exact⟨by rw [HF.out];rfl,HB1.out.trans ((z0e (z0e (z0e HB.out _) _) _).mono HB1.out.size)⟩
   have d8:(zw==v)=false:=by simpa using g5
   have HCT:Hid (tkC j (o,a,v,qq) (zo,za,zw,zq)=true):=hid (by unfold tkC;simp [g5])
   clear g5
   go_quiet (fail)
   go_wp2_with fail
   go_roundw
   case rel =>
    refine⟨j+1,by omega,by go_num,hid (by repeat (first | exact HB.out | refine z0e ?_ _)),hid fun i hi=>?_⟩
    by_cases e:i=j
    · subst e;rw [HAT.out,HA.out,HBT.out,HCT.out];rfl
    · exact HE.out i (by omega)
   case measure=>simp [Go.RowKit.intOf];omega
  have d9:(yw==v)=false:=by simpa using g2
  have HBT:Hid (tkB j (o,a,v,qq) (yo,ya,yw,yq)=true):=hid (by unfold tkB;simp;omega)
  clear g1 g2
  go_quiet (fail)
  go_wp2_with fail
  by_cases h3:j<3
  case pos =>
   have d7:decide (3≤(j:Int))=false:=decide_eq_false (by omega)
   have d7n:decide (3≤j)=false:=decide_eq_false (by omega)
   have HCT:Hid (tkC j (o,a,v,qq) z=true):=hid (by unfold tkC;rw [decide_eq_true h3];rfl)
   clear h3
   go_quiet (fail)
   go_wp2_with fail
   go_roundw
   case rel =>
    refine⟨j+1,by omega,by go_num,hid (by repeat (first | exact HB.out | refine z0e ?_ _)),hid fun i hi=>?_⟩
    by_cases e:i=j
    · subst e;rw [HAT.out,HA.out,HBT.out,HCT.out];rfl
    · exact HE.out i (by omega)
   case measure=>simp [Go.RowKit.intOf];omega
  obtain⟨m,hm⟩:∃ m,j=m+3:=⟨j-3,by omega⟩
  obtain⟨z0,z1,z2,z3⟩:=HTC.out m (by omega) wr HB.out
  have hj3:j-3=m:=by omega
  have HZ2:=HZ1.out
  rw [hj3] at HZ2
  rw [HZ2] at z0 z1 z2 z3
  have hji3:(j:Int)-3=m:=by omega
  have hmn:(m:Int)<tn:=by omega
  have d7:decide (3≤(j:Int))=true:=decide_eq_true (by omega)
  have d7n:decide (3≤j)=true:=decide_eq_true (by omega)
  have hm3:¬ j<3:=h3
  obtain⟨zo,za,zw,zq⟩:=z
  dsimp only at z0 z1 z2 z3
  have HM3:=hid hm3
  clear hj3 HZ2 h3 hm3 hm
  by_cases g5:zw=v
  case pos =>
   have d8:(zw==v)=true:=by simpa using g5
   have HF:=hid (HFAJ.out (by rw [HAT.out,show tkC j (o,a,v,qq) (zo,za,zw,zq)=false from by unfold tkC;rw [decide_eq_false HM3.out];simpa using g5];simp))
   go_wp2_with fail
   go_quiet (fail)
   go_wp2_with fail
   go_ret
   exact⟨by rw [HF.out];rfl,HB1.out.trans ((z0e (z0e (z0e HB.out _) _) _).mono HB1.out.size)⟩
  have d8:(zw==v)=false:=by simpa using g5
  have HCT:Hid (tkC j (o,a,v,qq) (zo,za,zw,zq)=true):=hid (by unfold tkC;simp [g5])
  clear g5
  go_quiet (fail)
  go_wp2_with fail
  go_roundw
  case rel =>
   refine⟨j+1,by omega,by go_num,hid (by repeat (first | exact HB.out | refine z0e ?_ _)),hid fun i hi=>?_⟩
   by_cases e:i=j
   · subst e;rw [HAT.out,HA.out,HBT.out,HCT.out];rfl
   · exact HE.out i (by omega)
  case measure=>simp [Go.RowKit.intOf];omega
abbrev Hs:=Int × Int × Option Addr × Nat × Nat
abbrev hs0:Hs:=(0,0,none,0,0)
def sc (h:Hs):List Value:=[.int .u8 h.1,.int .u8 h.2.1,.slice h.2.2.1 h.2.2.2.1 h.2.2.2.2]
theorem z8u (h:Hs):(sc h).length=3:=rfl
theorem z9l (h:Hs):∀ u∈sc h,u.oneCell'=true:=by
 intro u hu
 simp only [sc,List.mem_cons,List.not_mem_nil,or_false] at hu
 rcases hu with rfl | rfl | rfl <;> rfl
def Tells (w:World) (h:Hs) (s:Stp):Prop:=h.1=s.1∧h.2.1=s.2.1∧LL w h.2.2.1 h.2.2.2.1 h.2.2.2.2 s.2.2
theorem Tells.later {w w':World} {h:Hs} {s:Stp} (ht:Tells w h s) (hb:Below w.heap.size w w'):Tells w' h s:=⟨ht.1,ht.2.1,ht.2.2.later hb⟩
def TellsAll (w:World):List Hs→List Stp→Prop
 | [],[]=>True
 | h::H,s::S=>Tells w h s∧TellsAll w H S
 | _,_=>False
theorem TellsAll.later {w w':World} (hb:Below w.heap.size w w'):∀ {H:List Hs} {S:List Stp},TellsAll w H S→TellsAll w' H S
 | [],[],_=>trivial
 | _::_,_::_,h=>⟨h.1.later hb,TellsAll.later hb h.2⟩
 | [],_::_,h=>h.elim
 | _::_,[],h=>h.elim
theorem TellsAll.len {w:World}:∀ {H:List Hs} {S:List Stp},TellsAll w H S→H.length=S.length
 | [],[],_=>rfl
 | _::_,_::_,h=>by rw [List.length_cons,List.length_cons,TellsAll.len h.2]
 | [],_::_,h=>h.elim
 | _::_,[],h=>h.elim
theorem TellsAll.append {w:World}:∀ {H H':List Hs} {S S':List Stp},TellsAll w H S→TellsAll w H' S'→TellsAll w (H++H') (S++S')
 | [],_,[],_,_,h=>h
 | _::_,_,_::_,_,h,h'=>⟨h.1,TellsAll.append h.2 h'⟩
 | [],_,_::_,_,h,_=>h.elim
 | _::_,_,[],_,h,_=>h.elim
theorem TellsAll.at {w:World}:∀ {H:List Hs} {S:List Stp} (j:Nat),TellsAll w H S→j<H.length→Tells w (H.getD j hs0) (S.getD j (0,0,[]))
 | _::_,_::_,0,h,_=>h.1
 | _::_,_::_,j+1,h,hj=>by simpa using TellsAll.at j h.2 (by simpa using hj)
 | [],[],j,_,hj=>by simp at hj
 | [],_::_,_,h,_=>h.elim
 | _::_,[],_,h,_=>h.elim
abbrev HL (w:World) (p:Option Addr) (n c:Nat) (H:List Hs):Prop:=SlG sc 3 hs0 w p n c H
structure SL (w:World) (p:Option Addr) (n c:Nat) (H:List Hs) (S:List Stp):Prop where
 row:HL w p n c H
 tells:TellsAll w H S
theorem SL.later {w w':World} {p:Option Addr} {n c:Nat} {H:List Hs} {S:List Stp} (h:SL w p n c H S) (hb:Below w.heap.size w w'):SL w' p n c H S:=⟨h.row.later hb,h.tells.later hb⟩
theorem z4p:(Tryz.prog.info? 52).map (fun i=>(i.zero,i.size,i.bytes))=some (some (.agg #[.int .u8 0,.int .u8 0,.slice none 0 0]),3,32):=by kernel_rfl
structure FillS (W wr:World) (v:Value) (H:List Hs) (S:List Stp) (N:Nat):Prop where
 own:wr.ownsRow W.heap.size 52 3 v H.length (z0n sc H)
 below:Below W.heap.size W wr
 most:H.length≤N
 tells:TellsAll wr H S
 apart:∀ h∈H,0<h.2.2.2.1→∀ ad,h.2.2.1=some ad→v.ownBlock≠some ad.block
theorem FillS.nil (W:World):FillS W W (.slice none 0 0) [] [] 0:=⟨World.ownsRow_nil _ _ _ _,Below.refl _ _,Nat.le_refl _,trivial,fun h hh=>by cases hh⟩
theorem FillS.later {W wr w':World} {v:Value} {H:List Hs} {S:List Stp} {N:Nat} (h:FillS W wr v H S N) (hb:Below wr.heap.size wr w'):FillS W w' v H S N:=by
 refine⟨⟨h.own.1,?_⟩,h.below.trans (hb.mono h.below.size),h.most,h.tells.later hb,h.apart⟩
 rcases h.own.2 with hn | ⟨g,cap,cur,rfl,h1,h2,h3⟩
 · exact .inl hn
 · exact .inr ⟨g,cap,cur,rfl,h1,(hb.block g (Array.getElem?_eq_some_iff.1 h2).1).trans h2,h3⟩
theorem FillS.mono {W wr:World} {v:Value} {H:List Hs} {S:List Stp} {N K:Nat} (h:FillS W wr v H S N) (hn:N≤K):FillS W wr v H S K:=⟨h.own,h.below,Nat.le_trans h.most hn,h.tells,h.apart⟩
def GivesS (W:World) (S:List Stp) (e:Ending) (w':World):Prop:=∃ p c H,e=.returned (.slice p S.length c)∧SL w' p S.length c H S∧Below W.heap.size W w'
theorem FillS.gives {W wr:World} {v:Value} {H:List Hs} {S:List Stp} {N:Nat} (h:FillS W wr v H S N):GivesS W S (.returned v) wr:=by
 obtain⟨p,c,rfl,hs,hp⟩:=SlG.of_own (d:=hs0) z8u (by decide) h.own
 rw [h.tells.len] at hs ⊢
 exact⟨p,c,H,rfl,⟨hs,h.tells⟩,h.below⟩
theorem GivesS.since {W W2:World} {S:List Stp} {e:Ending} {w':World} (h:GivesS W2 S e w') (hb:Below W.heap.size W W2):GivesS W S e w':=by
 obtain⟨p,c,H,rfl,hs,hb2⟩:=h
 exact⟨p,c,H,rfl,hs,hb.trans (hb2.mono hb.size)⟩
theorem z5p {w:World} {B:Nat} {c:Array Value} {H:List Hs} (h:w.heap[B]?=some (.cells c 52 (0,0))) (hc:c.toList=z0n sc H):∀ ad,(some (⟨B,0,none⟩:Addr))=some ad→∀ j u,(z0n sc H)[j]?=some u→w.cell? (ad.add j)=some u:=by
 intro ad he j u hu
 cases he
 rw [Go.WideShapes.add_plain,Nat.zero_add]
 refine z0a h ?_
 rw [← hc] at hu
 simpa using hu
theorem wpList_append_steps {W w:World} {ops:Array Oper} {rest:List Oper} {o:Oper} {a:Act} {Q:Exit→Act→World→Prop} (hgd:o.guard=none) (s x:Operand)
 (ho:o.op=.call { callee:=.builtin .append,args:=#[s,x],argTypes:=#[48,48] })
 (v:Value) (H:List Hs) (S:List Stp) (N:Nat) (hs:a.eval s=v) (hF:FillS W w v H S N) (B m:Nat) (H':List Hs) (S':List Stp) (hx:a.eval x=.slice (some ⟨B,0,none⟩) m m) (hm:H'.length=m)
 (hnews:∀ ad,(some (⟨B,0,none⟩:Addr))=some ad→∀ j u,(z0n sc H')[j]?=some u→w.cell? (ad.add j)=some u) (hT:TellsAll w H' S') (hapart':∀ h∈H',0<h.2.2.2.1→∀ ad,h.2.2.1=some ad→v.ownBlock≠some ad.block) (hbig:N+m≤1000000)
 (h:∀ p' n' c' w',FillS W w' (.slice p' n' c') (H++H') (S++S') (N+m)→wpList Tryz.prog ops Q rest (a.put o.dst (.slice p' n' c')) w'):wpList Tryz.prog ops Q (o::rest) a w:=by
 have hmost:=hF.most
 have hapart:∀ h∈H++H',0<h.2.2.2.1→∀ ad,h.2.2.1=some ad→v.ownBlock≠some ad.block:=fun h hh=>by
  rcases List.mem_append.1 hh with hh | hh
  · exact hF.apart h hh
  · exact hapart' h hh
 have hold:∀ {K:List Hs} {R:List Stp},TellsAll w K R→∀ h∈K,0<h.2.2.2.1→∀ ad,h.2.2.1=some ad→ad.block<w.heap.size:=by
  intro K
  induction K with
  | nil=>intro R _ h hh;cases hh
  | cons g K ih=>intro R ht h hh h0 ad he;cases R with
   | nil=>exact ht.elim
   | cons s R =>
    rcases List.mem_cons.1 hh with rfl | hh
    · obtain⟨b,off,hp,hlt,_⟩:=ht.1.2.2.cell h0
      rw [he] at hp
      cases hp
      exact hlt
    · exact ih ht.2 h hh h0 ad he
 refine z1i (k:=3) (by decide) Tryz.underlying48 z4p rfl (by omega) hgd s x ho v H.length (z0n sc H) hs (z2a hF.own) (some ⟨B,0,none⟩) m m (z0n sc H') hx (by rw [z1m z8u,hm]) (fun h=>by cases h) hnews (z1n z9l H') (by omega) fun p' c' w' h1 h2 h3=>?_
 rw [← z1d] at h1
 have htell:∀ {K:List Hs} {R:List Stp},(∀ h∈K,0<h.2.2.2.1→∀ ad,h.2.2.1=some ad→v.ownBlock≠some ad.block)→TellsAll w K R→TellsAll w' K R:=by
  intro K
  induction K with
  | nil=>intro R _ hh;cases R with
   | nil=>trivial
   | cons s R=>exact hh.elim
  | cons g K ih=>intro R ha hh;cases R with
   | nil=>exact hh.elim
   | cons s R =>
    refine⟨⟨hh.1.1,hh.1.2.1,?_⟩,ih (fun x hx=>ha x (List.mem_cons.2 (.inr hx))) hh.2⟩
    exact hh.1.2.2.turn h2.size fun h0 ad he hlt=>h2.block ad.block hlt (ha g (List.mem_cons.2 (.inl rfl)) h0 ad he)
 have hall:=htell hapart (hF.tells.append hT)
 refine h p' (H.length+m) c' w' ⟨?_,Chg.below hF.below hF.below.size h2 fun k hk=>(hF.own.lt k hk).1,by rw [List.length_append,hm];omega,hall,fun g hg h0 ad he hb=>?_⟩
 · have hlen:(H++H').length=H.length+m:=by rw [List.length_append,hm]
   rw [hlen]
   refine⟨h1.1,?_⟩
   rcases h1.2 with hn | ⟨g,cap,cur,he,g1,g2,g3⟩
   · exact .inl hn
   · refine .inr ⟨g,cap,cur,he,?_,g2,g3⟩
     rcases h3 g (by rw [he];rfl) with hk | hk
     · exact (hF.own.lt g hk).1
     · exact Nat.le_trans hF.below.size hk
 · rcases h3 ad.block hb with hk | hk
   · exact hapart g hg h0 ad he hk
   · exact absurd (hold (hF.tells.append hT) g hg h0 ad he) (by omega)
theorem z3k {W w:World} {ops:Array Oper} {o:Oper} {a:Act} {K:Act→World→Prop} {Q:Exit→Act→World→Prop} {E:Prop} (hgd:o.guard=none) (s x:Operand)
 (ho:o.op=.call { callee:=.builtin .append,args:=#[s,x],argTypes:=#[48,48] })
 (v:Value) (H:List Hs) (S:List Stp) (N:Nat) (hs:a.eval s=v) (hF:FillS W w v H S N) (B m:Nat) (H':List Hs) (S':List Stp) (hx:a.eval x=.slice (some ⟨B,0,none⟩) m m) (hm:H'.length=m)
 (hnews:∀ ad,(some (⟨B,0,none⟩:Addr))=some ad→∀ j u,(z0n sc H')[j]?=some u→w.cell? (ad.add j)=some u) (hT:TellsAll w H' S') (hapart':∀ h∈H',0<h.2.2.2.1→∀ ad,h.2.2.1=some ad→v.ownBlock≠some ad.block) (hbig:N+m≤1000000)
 (h:∀ p' n' c' w',FillS W w' (.slice p' n' c') (H++H') (S++S') (N+m)→K (a.put o.dst (.slice p' n' c')) w') :
 if Region.wanted o (yielded ops a.tmps)=true then Oper.wp Tryz.prog o a w K Q else E:=by
 have hmost:=hF.most
 have hapart:∀ h∈H++H',0<h.2.2.2.1→∀ ad,h.2.2.1=some ad→v.ownBlock≠some ad.block:=fun h hh=>by
  rcases List.mem_append.1 hh with hh | hh
  · exact hF.apart h hh
  · exact hapart' h hh
 have hold:∀ {K:List Hs} {R:List Stp},TellsAll w K R→∀ h∈K,0<h.2.2.2.1→∀ ad,h.2.2.1=some ad→ad.block<w.heap.size:=by
  intro K
  induction K with
  | nil=>intro R _ h hh;cases hh
  | cons g K ih=>intro R ht h hh h0 ad he;cases R with
   | nil=>exact ht.elim
   | cons s R =>
    rcases List.mem_cons.1 hh with rfl | hh
    · obtain⟨b,off,hp,hlt,_⟩:=ht.1.2.2.cell h0
      rw [he] at hp
      cases hp
      exact hlt
    · exact ih ht.2 h hh h0 ad he
 refine z1b (k:=3) (by decide) Tryz.underlying48 z4p rfl (by omega) hgd s x ho v H.length (z0n sc H) hs (z2a hF.own) (some ⟨B,0,none⟩) m m (z0n sc H') hx (by rw [z1m z8u,hm]) (fun h=>by cases h) hnews (z1n z9l H') (by omega) fun p' c' w' h1 h2 h3=>?_
 rw [← z1d] at h1
 have htell:∀ {K:List Hs} {R:List Stp},(∀ h∈K,0<h.2.2.2.1→∀ ad,h.2.2.1=some ad→v.ownBlock≠some ad.block)→TellsAll w K R→TellsAll w' K R:=by
  intro K
  induction K with
  | nil=>intro R _ hh;cases R with
   | nil=>trivial
   | cons s R=>exact hh.elim
  | cons g K ih=>intro R ha hh;cases R with
   | nil=>exact hh.elim
   | cons s R =>
    refine⟨⟨hh.1.1,hh.1.2.1,?_⟩,ih (fun x hx=>ha x (List.mem_cons.2 (.inr hx))) hh.2⟩
    exact hh.1.2.2.turn h2.size fun h0 ad he hlt=>h2.block ad.block hlt (ha g (List.mem_cons.2 (.inl rfl)) h0 ad he)
 have hall:=htell hapart (hF.tells.append hT)
 refine h p' (H.length+m) c' w' ⟨?_,Chg.below hF.below hF.below.size h2 fun k hk=>(hF.own.lt k hk).1,by rw [List.length_append,hm];omega,hall,fun g hg h0 ad he hb=>?_⟩
 · have hlen:(H++H').length=H.length+m:=by rw [List.length_append,hm]
   rw [hlen]
   refine⟨h1.1,?_⟩
   rcases h1.2 with hn | ⟨g,cap,cur,he,g1,g2,g3⟩
   · exact .inl hn
   · refine .inr ⟨g,cap,cur,he,?_,g2,g3⟩
     rcases h3 g (by rw [he];rfl) with hk | hk
     · exact (hF.own.lt g hk).1
     · exact Nat.le_trans hF.below.size hk
 · rcases h3 ad.block hb with hk | hk
   · exact hapart g hg h0 ad he hk
   · exact absurd (hold (hF.tells.append hT) g hg h0 ad he) (by omega)
theorem named_any (t r:Int) (p:Option Addr) (n c:Nat) (x:Ln) (W:World) :
 Calls Tryz.prog 156 #[.agg #[.int .u8 t,.int .u8 r,.slice p n c],.agg #[.int .u8 x.1,.int .i64 x.2]] W fun e w'=>e=.returned (.agg #[.int .u8 (q2a t),.int .u8 x.1,.int .u8 r])∧Below W.heap.size W w':=by
 obtain⟨s,q⟩:=x
 dsimp only
 obtain⟨k,hk⟩:∃ k,q2a t=k:=⟨_,rfl⟩
 rw [hk]
 have hb3:Below W.heap.size W (((W.alloc (.cells #[.int .u8 t,.int .u8 r,.slice p n c] 52)).alloc (.cells #[.int .u8 s,.int .i64 q] 76)).alloc (.cells #[.int .u8 k,.int .u8 s,.int .u8 r] 40)):=by
  repeat (refine Below.alloc ?_ (by simp;try omega) _)
  exact Below.refl _ _
 have ha:=z0c ((W.alloc (.cells #[.int .u8 t,.int .u8 r,.slice p n c] 52)).alloc (.cells #[.int .u8 s,.int .i64 q] 76)) (.cells #[.int .u8 k,.int .u8 s,.int .u8 r] 40)
 simp only [World.size_alloc] at ha
 have HA:=hid ha
 have HB:=hid hb3
 clear ha hb3
 by_cases h7:t=7
 · subst h7
   obtain rfl:k=4:=by rw [← hk];rfl
   clear hk
   go_enter Tryz.func156,Tryz.ntmps156
   go_wp2_with fail
   refine bodyPost_ret (v:=.agg #[.int .u8 4,.int .u8 s,.int .u8 r]) ?_ rfl ⟨rfl,HB.out⟩
   exact results_cell_row rfl _ _ (W.heap.size+1+1) 40 _ (0,0) _ rfl HA.out Tryz.underlying40 rfl (by kernel_rfl)
 by_cases h8:t=8
 · subst h8
   obtain rfl:k=4:=by rw [← hk];rfl
   clear hk h7
   go_enter Tryz.func156,Tryz.ntmps156
   go_wp2_with fail
   refine bodyPost_ret (v:=.agg #[.int .u8 4,.int .u8 s,.int .u8 r]) ?_ rfl ⟨rfl,HB.out⟩
   exact results_cell_row rfl _ _ (W.heap.size+1+1) 40 _ (0,0) _ rfl HA.out Tryz.underlying40 rfl (by kernel_rfl)
 · obtain rfl:k=1:=by rw [← hk];unfold q2a;rw [if_neg (by omega)]
   have e7:(t==7)=false:=by simpa using h7
   have e8:(t==8)=false:=by simpa using h8
   clear hk h7 h8
   go_enter Tryz.func156,Tryz.ntmps156
   go_wp2_with fail
   refine bodyPost_ret (v:=.agg #[.int .u8 1,.int .u8 s,.int .u8 r]) ?_ rfl ⟨rfl,HB.out⟩
   exact results_cell_row rfl _ _ (W.heap.size+1+1) 40 _ (0,0) _ rfl HA.out Tryz.underlying40 rfl (by kernel_rfl)
theorem good_round {s w t r:Int} {L:List Ln} {n j:Nat} (hn:L.length=n) (hj:j<n) (h:z2e s L j=false∨z0m s w=false∨(if 7≤t then decide (r=0) else decide (r<w))=false):z3i s w t r L=false:=by
 rcases h with h | h | h
 · exact q0h s w t r L (.inr (.inr (.inr (lines_false s L j (by omega) h))))
 · exact q0h s w t r L (.inl h)
 · unfold z3i;rw [h];simp
theorem good_end {s w t r:Int} {L:List Ln} {n:Nat} (hn:L.length=n) (ht:1≤t∧t≤8) (h1:1≤n) (h3:n≤3) (h:∀ j,j<n→z2e s L j=true∧z0m s w=true∧(if 7≤t then decide (r=0) else decide (r<w))=true):z3i s w t r L=true:=by
 obtain⟨_,hs,hw⟩:=h 0 (by omega)
 unfold z3i
 rw [hs,hw,decide_eq_true ht,decide_eq_true (show 1≤L.length by omega),lines_true s L (fun j hj=>(h j (by omega)).1),decide_eq_true (show L.length≤3 by omega)]
 rfl
theorem word_empty (t:Int) (h0:0≤t):(z9p t.toNat).toList.isEmpty=!decide (1≤t∧t≤8):=by
 rw [ByteArray.toList_eq]
 by_cases h9:t<9
 · rcases (by omega:t=0∨t=1∨t=2∨t=3∨t=4∨t=5∨t=6∨t=7∨t=8) with rfl | rfl | rfl | rfl | rfl | rfl | rfl | rfl | rfl <;> rfl
 · rw [decide_eq_false (by omega)]
   have hk:z9p t.toNat=⟨#[]⟩:=by
    unfold z9p wordsL
    rw [List.getD,List.getElem?_eq_none (by simp;omega)];rfl
   rw [hk];rfl
theorem q1r (s w t r:Int) (p:Option Addr) (n c:Nat) (L:List Ln) (W:World) (hw:Words W) (hL:LL W p n c L) (hok:∀ x∈L,Lnok x) (ht:0≤t∧t≤255) (hr:0≤r∧r≤255) (hn:n≤1000) :
 Calls Tryz.prog 147 #[.int .i64 s,.int .i64 w,.agg #[.int .u8 t,.int .u8 r,.slice p n c]] W fun e w'=>e=.returned (.bool (z3i s w t r L))∧Below W.heap.size W w':=by
 have hb1:Below W.heap.size W (W.alloc (.cells #[.int .u8 t,.int .u8 r,.slice p n c] 52)):=(Below.refl _ _).alloc (Nat.le_refl _) _
 have hwd:=fun W hv=>tagword_any t ht.1 ht.2 W hv
 have hwe:=word_empty t ht.1
 have HW:=hid (hw.later hb1)
 have HN:=hid (q0h s w t r L)
 have HLN:=hid hL.len
 have HB:=hid hb1
 have HL:=hid (hL.later hb1)
 have HX:=hid (z0c W (.cells #[.int .u8 t,.int .u8 r,.slice p n c] 52))
 have HOK:=hid fun j (hj:j<n)=>q1g hok (show j<L.length by rw [hL.len];exact hj)
 obtain⟨ht0,ht1⟩:=ht
 obtain⟨hr0,hr1⟩:=hr
 have hcap:=hL.cap
 clear hL hok hb1 hw
 generalize z9p t.toNat=ss at *
 by_cases hg:1≤t∧t≤8
 case neg =>
  have HF:=hid (HN.out (.inr (.inl hg)))
  rw [decide_eq_false hg,Bool.not_false] at hwe
  clear hg
  go_enter Tryz.func147,Tryz.ntmps147
  go_wp2_with fail
  refine (hwd _ HW.out).mono ?_
  rintro e w' ⟨rfl,rfl⟩
  clear hwd
  go_wp2_with fail
  go_ret
  exact⟨by rw [HF.out];rfl,HB.out⟩
 rw [decide_eq_true hg,Bool.not_true] at hwe
 have HG:=hid hg
 have HNG:=hid fun x=>named_good s w t r x hr0 hg
 clear hg
 by_cases h1:n<1
 · have HF:=hid (HN.out (.inr (.inr (.inl (by rw [HLN.out];omega)))))
   obtain rfl:n=0:=by omega
   go_enter Tryz.func147,Tryz.ntmps147
   go_wp2_with fail
   refine (hwd _ HW.out).mono ?_
   rintro e w' ⟨rfl,rfl⟩
   clear hwd
   go_wp2_with fail
   go_ret
   exact⟨by rw [HF.out];rfl,HB.out⟩
 have h1n:decide (n<1)=false:=decide_eq_false h1
 have h1i:decide ((n:Int)<1)=false:=decide_eq_false (by omega)
 by_cases h3:3<n
 · have HF:=hid (HN.out (.inr (.inr (.inr (by unfold z0q;rw [HLN.out,decide_eq_false (show ¬ n≤3 by omega),Bool.and_false])))))
   have h3n:decide (3<n)=true:=decide_eq_true h3
   have h3i:decide (3<(n:Int))=true:=decide_eq_true (by omega)
   go_enter Tryz.func147,Tryz.ntmps147
   go_wp2_with fail
   refine (hwd _ HW.out).mono ?_
   rintro e w' ⟨rfl,rfl⟩
   clear hwd
   go_wp2_with fail
   go_ret
   exact⟨by rw [HF.out];rfl,HB.out⟩
 have h3n:decide (3<n)=false:=decide_eq_false h3
 have h3i:decide (3<(n:Int))=false:=decide_eq_false (by omega)
 have H1:=hid h1
 have H3:=hid h3
 clear h1 h3
 go_enter Tryz.func147,Tryz.ntmps147
 go_wp2_with fail
 refine (hwd _ HW.out).mono ?_
 rintro e w' ⟨rfl,rfl⟩
 clear hwd HN
 go_wp2_with fail
 clear hwe h1n h1i h3n h3i
 generalize W.alloc (.cells #[.int .u8 t,.int .u8 r,.slice p n c] 52)=W1 at *
 go_loopw [28] (fun i wr=>∃ j:Nat,j≤n∧i=.int .i64 j∧Hid (Below W1.heap.size W1 wr)∧Hid (∀ i,i<j→z2e s L i=true∧z0m s w=true∧(if 7≤t then decide (r=0) else decide (r<w))=true)) (fun i _=>n-(Go.RowKit.intOf i).toNat)
 case atStart=>exact⟨0,Nat.zero_le _,rfl,hid (Below.refl _ _),hid fun i hi=>by omega⟩
 case round =>
  obtain⟨j,hj,rfl,HBR,HE⟩:=hrel
  by_cases hlt:j<n
  case neg =>
   obtain rfl:j=n:=by omega
   have HF:=hid (good_end HLN.out HG.out (by have:=H1.out;omega) (by have:=H3.out;omega) HE.out)
   go_wp2_with fail
   go_ret
   exact⟨by rw [HF.out];rfl,HB.out.trans (HBR.out.mono HB.out.size)⟩
  have hlt':(j:Int)<n:=by omega
  obtain⟨b,off,rfl,_,c0,c1⟩:=z1o (HL.out.later HBR.out) hlt
  obtain⟨⟨hx0,hx1⟩,hx2,hx3⟩:=HOK.out j hlt
  have hlb:=lineB_at s L j _ rfl
  have HRD:=hid fun h=>good_round (t:=t) (r:=r) (s:=s) (w:=w) HLN.out hlt h
  have HPV:Hid (∀ k,k<n→∀ w',Below W1.heap.size W1 w'→w'.cell? ⟨b,off+k*2,none⟩=some (.int .u8 (L.getD k l0).1)):=hid fun k hk w' h=>by
   obtain⟨b',off',he,_,d0,_⟩:=z1o (HL.out.later h) hk
   cases he
   exact d0
  generalize L.getD j l0=x at *
  have hng:=HNG.out x
  obtain⟨a,q⟩:=x
  dsimp only at c0 c1 hx0 hx1 hx2 hx3 hlb hng
  have hnm:=fun W=>named_any t r (some ⟨b,off,none⟩) n c (a,q) W
  have hkg:=fun W=>good_any s w (q2a t) a r ⟨hx0,hx1⟩ ⟨hr0,hr1⟩ W
  rw [hng] at hkg
  have HLB:=hid hlb
  clear hng hlb
  have hba:Below wr.heap.size wr (wr.alloc (.cells #[.int .u8 a,.int .i64 q] 76)):=(Below.refl _ _).alloc (Nat.le_refl _) _
  have HBA:=hid (HBR.out.trans (hba.mono HBR.out.size))
  obtain⟨e0,e1,e2⟩:=z4y (z0b HX.out HBA.out)
  have hbl:=z0c wr (.cells #[.int .u8 a,.int .i64 q] 76)
  have f0:(wr.alloc (.cells #[.int .u8 a,.int .i64 q] 76)).cell? ⟨wr.heap.size,0,none⟩=some (.int .u8 a):=z0a hbl rfl
  have f1:(wr.alloc (.cells #[.int .u8 a,.int .i64 q] 76)).cell? ⟨wr.heap.size,1,none⟩=some (.int .i64 q):=z0a hbl rfl
  clear hba hbl
  have HPW:=hid fun k hk=>HPV.out k hk _ HBA.out
  go_wp2_with fail
  clear c0 c1 HPV
  generalize wr.alloc (.cells #[.int .u8 a,.int .i64 q] 76)=Wa at *
  generalize wr.heap.size=Y at *
  by_cases hj0:j=0
  · have hd3:decide (0<(j:Int))=false:=decide_eq_false (by omega)
    have hd3n:decide (0<j)=false:=decide_eq_false (by omega)
    have HR:Hid (z2e s L j=(decide (a<s) && decide (1≤q))):=hid (by rw [HLB.out,decide_eq_true hj0,Bool.true_or,Bool.and_true])
    clear hj0 HLB
    by_cases hq:q<1
    · have hd2:decide (q<1)=true:=decide_eq_true hq
      have HF:=hid (HRD.out (.inl (by rw [HR.out,decide_eq_false (show ¬ 1≤q by omega),Bool.and_false])))
      clear hq hnm hkg
      go_quiet (fail)
      go_wp2_with fail
      go_ret
      exact⟨by rw [HF.out];rfl,HB.out.trans ((z0e HBA.out _).mono HB.out.size)⟩
    have hd2:decide (q<1)=false:=decide_eq_false hq
    have hd2':decide (1≤q)=true:=decide_eq_true (by omega)
    rw [hd2',Bool.and_true] at HR
    clear hd2' hq
    generalize hwb:(if 7≤t then decide (r=0) else decide (r<w))=wb at *
    generalize hsb:z0m s w=sb at *
    cases hgv:(sb && decide (a<s) && wb) with
    | false =>
     have HF:=hid (HRD.out (by
      rw [HR.out]
      cases h5:decide (a<s) with
      | false=>exact .inl rfl
      | true =>
       rw [h5] at hgv
       cases sb <;> cases wb <;> simp at hgv ⊢))
     rw [hgv] at hkg
     clear hgv hwb hsb
     go_quiet (fail)
     go_wp2_with fail
     refine (hnm _).mono ?_
     rintro e w3 ⟨rfl,h3⟩
     have HB3:=hid ((z0e HBA.out _).trans (h3.mono (z0e HBA.out _).size))
     clear hnm h3
     go_wp2_with fail
     refine (hkg _).mono ?_
     rintro e w4 ⟨rfl,h4⟩
     have HB4:=hid (HB3.out.trans (h4.below.mono HB3.out.size))
     clear hkg h4
     go_wp2_with fail
     go_ret
     exact⟨by rw [HF.out];rfl,HB.out.trans (HB4.out.mono HB.out.size)⟩
    | true =>
     have HT:Hid (z2e s L j=true∧sb=true∧wb=true):=hid (by
      rw [HR.out]
      cases h5:decide (a<s) with
      | false=>rw [h5] at hgv;cases sb <;> cases wb <;> simp at hgv
      | true =>
       rw [h5] at hgv
       cases sb <;> cases wb <;> simp at hgv ⊢)
     rw [hgv] at hkg
     have HWB:=hid hwb
     have HSB:=hid hsb
     clear hgv hwb hsb HRD
     go_quiet (fail)
     go_wp2_with fail
     refine (hnm _).mono ?_
     rintro e w3 ⟨rfl,h3⟩
     have HB3:=hid ((z0e HBA.out _).trans (h3.mono (z0e HBA.out _).size))
     clear hnm h3
     go_wp2_with fail
     refine (hkg _).mono ?_
     rintro e w4 ⟨rfl,h4⟩
     have HB4:=hid (HB3.out.trans (h4.below.mono HB3.out.size))
     clear hkg h4
     go_wp2_with fail
     go_roundw
     case rel =>
      refine⟨j+1,by omega,by go_num,HB4,hid fun i hi=>?_⟩
      rw [HSB.out,HWB.out]
      by_cases e:i=j
      · subst e;exact HT.out
      · exact HE.out i (by omega)
     case measure=>simp [Go.RowKit.intOf];omega
  obtain⟨k,hk⟩:∃ k,j=k+1:=⟨j-1,by omega⟩
  have d0:=HPW.out k (by omega)
  have hj1:j-1=k:=by omega
  have hji:(j:Int)-1=k:=by omega
  have hd3:decide (0<(j:Int))=true:=decide_eq_true (by omega)
  have hd3n:decide (0<j)=true:=decide_eq_true (by omega)
  have hkn:(k:Int)<n:=by omega
  rw [hj1] at HLB
  generalize (L.getD k l0).1=y at *
  clear hj1
  by_cases hy:a≤y
  · have hd4:decide (a≤y)=true:=decide_eq_true hy
    have HF:=hid (HRD.out (.inl (by rw [HLB.out,decide_eq_false hj0,decide_eq_false (show ¬ y<a by omega)];simp)))
    clear hk hj0 hy hnm hkg
    go_quiet (fail)
    go_wp2_with fail
    go_ret
    exact⟨by rw [HF.out];rfl,HB.out.trans ((z0e HBA.out _).mono HB.out.size)⟩
  have hd4:decide (a≤y)=false:=decide_eq_false hy
  have HR:Hid (z2e s L j=(decide (a<s) && decide (1≤q))):=hid (by rw [HLB.out,decide_eq_true (show y<a by omega),Bool.or_true,Bool.and_true])
  clear hk hj0 hy HLB
  by_cases hq:q<1
  · have hd2:decide (q<1)=true:=decide_eq_true hq
    have HF:=hid (HRD.out (.inl (by rw [HR.out,decide_eq_false (show ¬ 1≤q by omega),Bool.and_false])))
    clear hq hnm hkg
    go_quiet (fail)
    go_wp2_with fail
    go_ret
    exact⟨by rw [HF.out];rfl,HB.out.trans ((z0e HBA.out _).mono HB.out.size)⟩
  have hd2:decide (q<1)=false:=decide_eq_false hq
  have hd2':decide (1≤q)=true:=decide_eq_true (by omega)
  rw [hd2',Bool.and_true] at HR
  clear hd2' hq
  generalize hwb:(if 7≤t then decide (r=0) else decide (r<w))=wb at *
  generalize hsb:z0m s w=sb at *
  cases hgv:(sb && decide (a<s) && wb) with
  | false =>
   have HF:=hid (HRD.out (by
    rw [HR.out]
    cases h5:decide (a<s) with
    | false=>exact .inl rfl
    | true =>
     rw [h5] at hgv
     cases sb <;> cases wb <;> simp at hgv ⊢))
   rw [hgv] at hkg
   clear hgv hwb hsb
   go_quiet (fail)
   go_wp2_with fail
   refine (hnm _).mono ?_
   rintro e w3 ⟨rfl,h3⟩
   have HB3:=hid ((z0e HBA.out _).trans (h3.mono (z0e HBA.out _).size))
   clear hnm h3
   go_wp2_with fail
   refine (hkg _).mono ?_
   rintro e w4 ⟨rfl,h4⟩
   have HB4:=hid (HB3.out.trans (h4.below.mono HB3.out.size))
   clear hkg h4
   go_wp2_with fail
   go_ret
   exact⟨by rw [HF.out];rfl,HB.out.trans (HB4.out.mono HB.out.size)⟩
  | true =>
   have HT:Hid (z2e s L j=true∧sb=true∧wb=true):=hid (by
    rw [HR.out]
    cases h5:decide (a<s) with
    | false=>rw [h5] at hgv;cases sb <;> cases wb <;> simp at hgv
    | true =>
     rw [h5] at hgv
     cases sb <;> cases wb <;> simp at hgv ⊢)
   rw [hgv] at hkg
   have HWB:=hid hwb
   have HSB:=hid hsb
   clear hgv hwb hsb HRD
   go_quiet (fail)
   go_wp2_with fail
   refine (hnm _).mono ?_
   rintro e w3 ⟨rfl,h3⟩
   have HB3:=hid ((z0e HBA.out _).trans (h3.mono (z0e HBA.out _).size))
   clear hnm h3
   go_wp2_with fail
   refine (hkg _).mono ?_
   rintro e w4 ⟨rfl,h4⟩
   have HB4:=hid (HB3.out.trans (h4.below.mono HB3.out.size))
   clear hkg h4
   go_wp2_with fail
   go_roundw
   case rel =>
    refine⟨j+1,by omega,by go_num,HB4,hid fun i hi=>?_⟩
    rw [HSB.out,HWB.out]
    by_cases e:i=j
    · subst e;exact HT.out
    · exact HE.out i (by omega)
   case measure=>simp [Go.RowKit.intOf];omega
def fiA (sk to:Int) (x:Tk):Bool:=decide (x.1≠0) && decide (x.2.1=sk) && decide (x.2.2.1=to) && decide (1≤x.2.2.2)
theorem z9d (sk to:Int) (T:List Tk) (j:Nat):z4f sk to T j=(fiA sk to (T.getD j tk0) && (List.range j).all fun k=>decide ((T.getD k tk0).1≠(T.getD j tk0).1)):=rfl
theorem all_yes {j:Nat} {f:Nat→Bool} (h:∀ k,k<j→f k=true):(List.range j).all f=true:=by
 rw [List.all_eq_true]
 exact fun k hk=>h k (List.mem_range.1 hk)
theorem all_no {j k:Nat} {f:Nat→Bool} (hk:k<j) (h:f k=false):(List.range j).all f=false:=by
 cases hc:(List.range j).all f with
 | false=>rfl
 | true =>
  have:=List.all_eq_true.1 hc k (List.mem_range.2 hk)
  rw [h] at this
  cases this
theorem rfills_any (k od po:Int) (lp:Option Addr) (ln lcp:Nat) (tp:Option Addr) (tn tcp:Nat) (wp:Option Addr) (wn wcp:Nat) (sk fr to q:Int) (T:List Tk) (W:World) (hT:TKL W tp tn tcp T) (hTok:∀ x∈T,Tkok x) (hn:tn≤1000) :
 Calls Tryz.prog 38 #[.agg #[.int .u8 k,.int .u32 od,.int .u8 po,.slice lp ln lcp,.slice tp tn tcp,.slice wp wn wcp,.int .u8 sk,.int .u8 fr,.int .u8 to,.int .i64 q]] W fun e w'=>e=.returned (.bool (z2c sk to q T))∧Below W.heap.size W w':=by
 have hb1:Below W.heap.size W (W.alloc (.cells #[.int .u8 k,.int .u32 od,.int .u8 po,.slice lp ln lcp,.slice tp tn tcp,.slice wp wn wcp,.int .u8 sk,.int .u8 fr,.int .u8 to,.int .i64 q] 26)):=(Below.refl _ _).alloc (Nat.le_refl _) _
 have HB1:=hid hb1
 have HT:=hid (hT.later hb1)
 have HLN:=hid hT.len
 have HX:=hid (z0c W (.cells #[.int .u8 k,.int .u32 od,.int .u8 po,.slice lp ln lcp,.slice tp tn tcp,.slice wp wn wcp,.int .u8 sk,.int .u8 fr,.int .u8 to,.int .i64 q] 26))
 have HOK:=hid fun j (hj:j<tn)=>q0w hTok (show j<T.length by rw [hT.len];exact hj)
 have HFA:=hid fun j (hj:j<tn)=>fills_false sk to q T j (by rw [hT.len];exact hj)
 have HTR:=hid (fills_true sk to q T)
 have HNA:=hid fun w (h:TKL w tp tn tcp T)=>z7u tp tn tcp T none 0 0 [] sk w h (SlG.empty w) hTok (fun x hx=>by cases hx) hn (by omega)
 have hcap:=hT.cap
 clear hT hTok hb1
 go_enter Tryz.func38,Tryz.ntmps38
 go_wp2_with fail
 generalize W.alloc (.cells #[.int .u8 k,.int .u32 od,.int .u8 po,.slice lp ln lcp,.slice tp tn tcp,.slice wp wn wcp,.int .u8 sk,.int .u8 fr,.int .u8 to,.int .i64 q] 26)=W1 at *
 go_loopw [4] (fun i wr=>∃ j:Nat,j≤tn∧i=.int .i64 j∧Hid (Below W1.heap.size W1 wr)∧Hid (∀ i,i<j→z4f sk to T i=true)) (fun i _=>tn-(Go.RowKit.intOf i).toNat)
 case atStart=>exact⟨0,Nat.zero_le _,rfl,hid (Below.refl _ _),hid fun i hi=>by omega⟩
 case round =>
  obtain⟨j,hj,rfl,HB,HE⟩:=hrel
  by_cases hlt:j<tn
  case neg =>
   obtain rfl:j=tn:=by omega
   have hna:=HNA.out wr (HT.out.later HB.out)
   have HF:Hid (z2c sk to q T=(decide ((j:Int)≤12) && okB (z1c T [] sk) && decide (z1c T [] sk≤q))):=hid (by
    rw [HTR.out (fun i hi=>HE.out i (by rw [← HLN.out];exact hi)),HLN.out]
    have:decide (j≤12)=decide ((j:Int)≤12):=decide_eq_decide.2 (by omega)
    rw [this])
   obtain⟨_,_,_,_,_,_,c6,_,_,c9⟩:=z0d _ _ _ _ _ _ _ _ _ _ _ _ _ _ _ _ (z0b HX.out HB.out)
   go_wp2_with fail
   refine hna.mono ?_
   rintro e w3 ⟨rfl,h3⟩
   have HB3:=hid (HB.out.trans (h3.mono HB.out.size))
   clear hna h3 c6 c9
   obtain⟨_,_,_,_,_,_,c6,_,_,c9⟩:=z0d _ _ _ _ _ _ _ _ _ _ _ _ _ _ _ _ (z0b HX.out HB3.out)
   generalize z1c T [] sk=z at *
   by_cases h12:j≤12
   case neg =>
    have d1:decide ((j:Int)≤12)=false:=decide_eq_false (by omega)
    have d1n:decide (j≤12)=false:=decide_eq_false h12
    rw [d1] at HF
    clear h12
    go_wp2_with fail
    go_ret
    exact⟨by rw [HF.out];rfl,HB1.out.trans (HB3.out.mono HB1.out.size)⟩
   have d1:decide ((j:Int)≤12)=true:=decide_eq_true (by omega)
   have d1n:decide (j≤12)=true:=decide_eq_true h12
   rw [d1] at HF
   clear h12
   cases o1:okB z with
   | false =>
    rw [o1] at HF
    go_wp2_with fail
    go_ret
    exact⟨by rw [HF.out];rfl,HB1.out.trans (HB3.out.mono HB1.out.size)⟩
   | true =>
    rw [o1] at HF
    have v1:val z=z:=z6t _ ((z3x _).1 o1)
    go_wp2_with fail
    go_ret
    exact⟨by rw [HF.out];simp,HB1.out.trans (HB3.out.mono HB1.out.size)⟩
  have hlt':(j:Int)<tn:=by omega
  have hat:=z9d sk to T j
  obtain⟨b,off,rfl,_,_⟩:=z1g (HT.out.later HB.out) hlt
  have HTC:Hid (∀ k,k<tn→∀ w',Below W1.heap.size W1 w'→w'.cell? ⟨b,off+k*4,none⟩=some (.int .u32 (T.getD k tk0).1)∧w'.cell? ⟨b,off+k*4+1,none⟩=some (.int .u8 (T.getD k tk0).2.1)∧w'.cell? ⟨b,off+k*4+2,none⟩=some (.int .u8 (T.getD k tk0).2.2.1)∧w'.cell? ⟨b,off+k*4+3,none⟩=some (.int .i64 (T.getD k tk0).2.2.2)):=hid fun k hk w' h=>by
   obtain⟨b',off',he,_,d0,d1,d2,d3⟩:=z1g (HT.out.later h) hk
   cases he
   exact⟨d0,d1,d2,d3⟩
  have HFAJ:=hid (HFA.out j hlt)
  obtain⟨⟨ho0,ho1⟩,⟨ha0,ha1⟩,⟨hw0,hw1⟩,hq0,hq1⟩:=HOK.out j hlt
  obtain⟨c0,c1,c2,c3⟩:=HTC.out j hlt wr HB.out
  obtain⟨_,_,_,_,_,_,e6,_,e8,_⟩:=z0d _ _ _ _ _ _ _ _ _ _ _ _ _ _ _ _ (z0b HX.out HB.out)
  generalize hx:T.getD j tk0=x at *
  obtain⟨o,a,v,qq⟩:=x
  dsimp only at c0 c1 c2 c3 ho0 ho1 ha0 ha1 hw0 hw1 hq0 hq1 hat
  have HAT:=hid hat
  have HX1:=hid hx
  clear hat hx
  by_cases h1:o=0
  case pos =>
   have d1:(o==0)=true:=by simpa using h1
   have HF:=hid (HFAJ.out (by rw [HAT.out,show fiA sk to (o,a,v,qq)=false from by unfold fiA;simp;omega];simp))
   go_wp2_with fail
   go_quiet (fail)
   go_wp2_with fail
   go_ret
   exact⟨by rw [HF.out];rfl,HB1.out.trans ((z0e HB.out _).mono HB1.out.size)⟩
  have d1:(o==0)=false:=by simpa using h1
  by_cases h2:a=sk
  case neg =>
   have d2:(a != sk)=true:=by simpa using h2
   have HF:=hid (HFAJ.out (by rw [HAT.out,show fiA sk to (o,a,v,qq)=false from by unfold fiA;simp;omega];simp))
   go_wp2_with fail
   go_quiet (fail)
   go_wp2_with fail
   go_ret
   exact⟨by rw [HF.out];rfl,HB1.out.trans ((z0e HB.out _).mono HB1.out.size)⟩
  have d2:(a != sk)=false:=by simpa using h2
  by_cases h3:v=to
  case neg =>
   have d3:(v != to)=true:=by simpa using h3
   have HF:=hid (HFAJ.out (by rw [HAT.out,show fiA sk to (o,a,v,qq)=false from by unfold fiA;simp;omega];simp))
   go_wp2_with fail
   go_quiet (fail)
   go_wp2_with fail
   go_ret
   exact⟨by rw [HF.out];rfl,HB1.out.trans ((z0e HB.out _).mono HB1.out.size)⟩
  have d3:(v != to)=false:=by simpa using h3
  by_cases h4:qq<1
  case pos =>
   have d4:decide (qq<1)=true:=decide_eq_true h4
   have HF:=hid (HFAJ.out (by rw [HAT.out,show fiA sk to (o,a,v,qq)=false from by unfold fiA;simp;omega];simp))
   go_wp2_with fail
   go_quiet (fail)
   go_wp2_with fail
   go_ret
   exact⟨by rw [HF.out];rfl,HB1.out.trans ((z0e HB.out _).mono HB1.out.size)⟩
  have d4:decide (qq<1)=false:=decide_eq_false h4
  have HA:Hid (fiA sk to (o,a,v,qq)=true):=hid (by unfold fiA;simp;omega)
  clear h1 h2 h3 h4
  go_wp2_with fail
  go_quiet (fail)
  go_wp2_with fail
  clear c0 c1 c2 c3 e6 e8
  go_loopw [5] (fun i wq=>∃ m:Nat,m≤j∧i=.int .i64 m∧Hid (Below W1.heap.size W1 wq)∧Hid (∀ i,i<m→decide ((T.getD i tk0).1≠o)=true)) (fun i _=>j-(Go.RowKit.intOf i).toNat)
  case atStart=>exact⟨0,Nat.zero_le _,rfl,hid (by repeat (first | exact HB.out | refine z0e ?_ _)),hid fun i hi=>by omega⟩
  case round =>
   obtain⟨m,hm,rfl,HBQ,HEQ⟩:=hrel
   by_cases hlt2:m<j
   case neg =>
    obtain rfl:m=j:=by omega
    have HAJ:Hid (z4f sk to T m=true):=hid (by rw [HAT.out,HA.out];exact all_yes HEQ.out)
    go_wp2_with fail
    go_roundw
    case rel =>
     refine⟨m+1,by omega,by go_num,HBQ,hid fun i hi=>?_⟩
     by_cases e:i=m
     · subst e;exact HAJ.out
     · exact HE.out i (by omega)
    case measure=>simp [Go.RowKit.intOf];omega
   have hlt2':(m:Int)<j:=by omega
   have hmn:(m:Int)<tn:=by omega
   obtain⟨c0,c1,c2,c3⟩:=HTC.out j hlt _ HBQ.out
   obtain⟨k0,k1,k2,k3⟩:=HTC.out m (by omega) _ HBQ.out
   rw [HX1.out] at c0 c1 c2 c3
   dsimp only at c0 c1 c2 c3
   have hfm:=fun (h:decide ((T.getD m tk0).1≠o)=false)=>all_no (f:=fun k=>decide ((T.getD k tk0).1≠o)) hlt2 h
   have HFM:=hid hfm
   clear hfm
   generalize hy:T.getD m tk0=y at *
   obtain⟨yo,ya,yw,yq⟩:=y
   dsimp only at k0 k1 k2 k3
   have HY:=hid hy
   clear hy
   by_cases g1:yo=o
   case pos =>
    have d5:(yo==o)=true:=by simpa using g1
    have HF:=hid (HFAJ.out (by rw [HAT.out,HFM.out (by simpa using g1),Bool.and_false]))
    clear g1
    go_wp2_with fail
    go_quiet (fail)
    go_wp2_with fail
    go_ret
    exact⟨by rw [HF.out];rfl,HB1.out.trans ((z0e HBQ.out _).mono HB1.out.size)⟩
   have d5:(yo==o)=false:=by simpa using g1
   have HNE:Hid (decide ((T.getD m tk0).1≠o)=true):=hid (by rw [HY.out];simpa using g1)
   clear g1
   go_wp2_with fail
   go_quiet (fail)
   go_wp2_with fail
   go_roundw
   case rel =>
    refine⟨m+1,by omega,by go_num,hid (by repeat (first | exact HBQ.out | refine z0e ?_ _)),hid fun i hi=>?_⟩
    by_cases e:i=m
    · subst e;exact HNE.out
    · exact HEQ.out i (by omega)
   case measure=>simp [Go.RowKit.intOf];omega
end Go.Proofs.YtclbkfpbdidaiaaGreatDoor
