import Derived.Test.YtfdgnniicjdjdaaGreatDoorPS31
import Derived.Test.YtfdgnniicjdjdaaGreatDoorPS02
import Derived.Test.YtfdgnniicjdjdaaGreatDoorPS01
import Derived.Test.YtfdgnniicjdjdaaGreatDoorPS06
namespace Go.Proofs.YtfdgnniicjdjdaaGreatDoor
open Go.Lib (hid)
set_option maxHeartbeats 8000000
open Go.RowKit Go.ChangeShapes Go.WideShapes Go.Deep
set_option linter.unusedVariables false
set_option maxRecDepth 10000
def oc (o:O):List Value:=[.int .u8 o.1.1,.int .u8 o.1.2.1,.int .u8 o.1.2.2,.int .i64 o.2]
theorem oc_one (o:O):∀ u∈oc o,u.oneCell'=true:=by
 intro u hu
 simp only [oc,List.mem_cons,List.not_mem_nil,or_false] at hu
 rcases hu with rfl | rfl | rfl | rfl <;> rfl
theorem info_int:(Tryz.prog.info? 2).map (fun i=>(i.zero,i.size,i.bytes))=some (some (.int .i64 0),1,8):=by kernel_rfl
def ic (x:Int):List Value:=[.int .i64 x]
theorem ic_len (x:Int):(ic x).length=1:=rfl
theorem ic_one (x:Int):∀ u∈ic x,u.oneCell'=true:=by
 intro u hu
 simp only [ic,List.mem_cons,List.not_mem_nil,or_false] at hu
 rw [hu];rfl
abbrev IL (w:World) (p:Option Addr) (n c:Nat) (L:List Int):Prop:=SlG ic 1 0 w p n c L
abbrev q1a (W wr:World) (v:Value) (L:List Int) (N:Nat):Prop:=FillG ic 1 2 W wr v L N
theorem z8x (w:World) (x:Int):∀ i u,(ic x)[i]?=some u→(w.alloc (.cells #[.int .i64 x] 2)).cell? ⟨w.heap.size,i,none⟩=some u :=
 fun i u hu=>z0a (z0b w _) (by simpa [ic] using hu)
theorem z3o {w:World} {ops:Array Oper} {rest:List Oper} {o:Oper} {a:Act} {Q:Exit→Act→World→Prop} (hgd:o.guard=none) (s x:Operand)
 (ho:o.op=.call { callee:=.builtin .append,args:=#[s,x],argTypes:=#[256,256] })
 (base:Nat) (v:Value) (n:Nat) (L:List Int) (hs:a.eval s=v) (hr:w.ownsRow base 2 1 v n (z1e ic L)) (hn:n≤1000000) (e:Int) (B:Nat)
 (hx:a.eval x=.slice (some ⟨B,0,none⟩) 1 1) (hc:∀ i u,(ic e)[i]?=some u→w.cell? ⟨B,i,none⟩=some u) (hbase:base≤w.heap.size)
 (h:∀ v' w',w'.ownsRow base 2 1 v' (n+1) (z1e ic (L ++ [e]))→w.grownBy w' v.ownBlock→wpList Tryz.prog ops Q rest (a.put o.dst v') w'):wpList Tryz.prog ops Q (o::rest) a w :=
 wpList_append_g ic_len ic_one (by decide) hgd s x _ _ ho Tryz.underlying256 _ 8 info_int rfl (by omega) base v n L hs hr hn e B hx hc hbase h
theorem IL.row {w:World} {p:Option Addr} {n c:Nat} {xs:List Int} (h:IL w p n c xs) (hr:∀ x∈xs,In64 x):RowN w p n xs:=by
 refine⟨h.len.symm,hr,?_⟩
 by_cases h0:n=0
 · exact .inl h0
 · obtain⟨b,off,rfl,hb,hc⟩:=h.cell (by omega)
   refine .inr ⟨b,off,rfl,hb,fun j hj=>?_⟩
   have:=hc j (by rw [← h.len];exact hj) 0 _ rfl
   simpa using this
section
variable {H:Type} {enc:TypeId × Value→H} {w:World} {base:Nat} {spare:Nat→Bool} {held:Bool}
end
def lc (x:Ln):List Value:=[.int .u8 x.1,.int .i64 x.2]
theorem q1g (x:Ln):(lc x).length=2:=rfl
abbrev LL (w:World) (p:Option Addr) (n c:Nat) (L:List Ln):Prop:=SlG lc 2 l0 w p n c L
theorem z2f {w:World} {p:Option Addr} {n c:Nat} {L:List Ln} (h:LL w p n c L) {j:Nat} (hj:j<n):∃ b off,p=some ⟨b,off,none⟩∧b<w.heap.size∧w.cell? ⟨b,off+j*2,none⟩=some (.int .u8 (L.getD j l0).1)∧w.cell? ⟨b,off+j*2+1,none⟩=some (.int .i64 (L.getD j l0).2):=by
 obtain⟨b,off,rfl,hb,hc⟩:=h.cell (by omega)
 exact⟨b,off,rfl,hb,hc j hj 0 _ rfl,hc j hj 1 _ rfl⟩
theorem lnok_at {L:List Ln} (h:∀ x∈L,Lnok x) {j:Nat} (hj:j<L.length):Lnok (L.getD j l0):=by
 rw [List.getD,List.getElem?_eq_getElem hj]
 exact h _ (List.getElem_mem _)
section
variable {H:Type} {enc:TypeId × Value→H} {w:World} {base:Nat} {held:Bool}
end
theorem z3g {w:World} {B:Nat} {T:TypeId} {k:Nat} {v:Value} {n:Nat} {xs:List Value} (h:w.ownsRow B T k v n xs):w.ownsRow 0 T k v n xs:=by
 refine⟨h.1,?_⟩
 rcases h.2 with hn | ⟨g,cap,cur,rfl,h1,h2,h3⟩
 · exact .inl hn
 · exact .inr ⟨g,cap,cur,rfl,Nat.zero_le _,h2,h3⟩
def tkc (x:Tk):List Value:=[.int .u32 x.1,.int .u8 x.2.1,.int .u8 x.2.2.1,.int .i64 x.2.2.2]
theorem q1l (x:Tk):(tkc x).length=4:=rfl
theorem tkc_one (x:Tk):∀ u∈tkc x,u.oneCell'=true:=by
 intro u hu
 simp only [tkc,List.mem_cons,List.not_mem_nil,or_false] at hu
 rcases hu with rfl | rfl | rfl | rfl <;> rfl
theorem z8o (x:Ln):∀ u∈lc x,u.oneCell'=true:=by
 intro u hu
 simp only [lc,List.mem_cons,List.not_mem_nil,or_false] at hu
 rcases hu with rfl | rfl <;> rfl
abbrev TKL (w:World) (p:Option Addr) (n c:Nat) (T:List Tk):Prop:=SlG tkc 4 tk0 w p n c T
theorem z1l {w:World} {p:Option Addr} {n c:Nat} {T:List Tk} (h:TKL w p n c T) {j:Nat} (hj:j<n):∃ b off,p=some ⟨b,off,none⟩∧b<w.heap.size∧w.cell? ⟨b,off+j*4,none⟩=some (.int .u32 (T.getD j tk0).1)∧w.cell? ⟨b,off+j*4+1,none⟩=some (.int .u8 (T.getD j tk0).2.1)∧w.cell? ⟨b,off+j*4+2,none⟩=some (.int .u8 (T.getD j tk0).2.2.1)∧w.cell? ⟨b,off+j*4+3,none⟩=some (.int .i64 (T.getD j tk0).2.2.2):=by
 obtain⟨b,off,rfl,hb,hc⟩:=h.cell (by omega)
 exact⟨b,off,rfl,hb,hc j hj 0 _ rfl,hc j hj 1 _ rfl,hc j hj 2 _ rfl,hc j hj 3 _ rfl⟩
theorem q1k {T:List Tk} (h:∀ x∈T,Tkok x) {j:Nat} (hj:j<T.length):Tkok (T.getD j tk0):=by
 rw [List.getD,List.getElem?_eq_getElem hj]
 exact h _ (List.getElem_mem _)
section
variable {H:Type} {enc:TypeId × Value→H} {w:World} {base:Nat} {held:Bool}
end
structure PgM (w:World) (lp:Option Addr) (ln lcp:Nat) (L:List Ln) (tp:Option Addr) (tn tcp:Nat) (T:List Tk) (wp:Option Addr) (wn wcp:Nat) (M:List Ln):Prop where
 l:LL w lp ln lcp L
 t:TKL w tp tn tcp T
 o:LL w wp wn wcp M
theorem PgM.later {w w':World} {lp:Option Addr} {ln lcp:Nat} {L:List Ln} {tp:Option Addr} {tn tcp:Nat} {T:List Tk} {wp:Option Addr} {wn wcp:Nat} {M:List Ln} (h:PgM w lp ln lcp L tp tn tcp T wp wn wcp M) (hb:Below w.heap.size w w'):PgM w' lp ln lcp L tp tn tcp T wp wn wcp M:=⟨h.l.later hb,h.t.later hb,h.o.later hb⟩
end Go.Proofs.YtfdgnniicjdjdaaGreatDoor
namespace Go.Proofs.YtfdgnniicjdjdaaGreatDoor
open Go.Lib (hid)
set_option maxHeartbeats 8000000
open Go.RowKit Go.ChangeShapes Go.WideShapes
set_option linter.unusedVariables false
set_option maxRecDepth 10000
theorem cells_step {w:World} {X:Nat} {t r:Int} {s:Value} (h:w.heap[X]?=some (.cells #[.int .u8 t,.int .u8 r,s] 268 (0,0))) :
 w.cell? ⟨X,0,none⟩=some (.int .u8 t)∧w.cell? ⟨X,1,none⟩=some (.int .u8 r)∧w.cell? ⟨X,2,none⟩=some s:=⟨z0a h rfl,z0a h rfl,z0a h rfl⟩
theorem info_ln:(Tryz.prog.info? 234).map (fun i=>(i.zero,i.size,i.bytes))=some (some (.agg #[.int .u8 0,.int .i64 0]),2,16):=by kernel_rfl
theorem info_tk:(Tryz.prog.info? 204).map (fun i=>(i.zero,i.size,i.bytes))=some (some (.agg #[.int .u32 0,.int .u8 0,.int .u8 0,.int .i64 0]),4,16):=by kernel_rfl
theorem z9k {w:World} {B:Nat} {T:TypeId} {k:Nat} {v:Value} {n:Nat} {xs:List Value} (h:w.ownsRow 0 T k v n xs) (hb:∀ b,v.ownBlock=some b→B≤b):w.ownsRow B T k v n xs:=by
 refine⟨h.1,?_⟩
 rcases h.2 with hn | ⟨g,cap,cur,he,h1,h2,h3⟩
 · exact .inl hn
 · exact .inr ⟨g,cap,cur,he,hb g (by rw [he];rfl),h2,h3⟩
theorem z5y {W wr:World} {v:Value} {L:List Int} {N:Nat} (h:q1a W wr v L N):∃ p c,v=.slice p L.length c∧IL wr p L.length c L:=by
 obtain⟨p,c,hv,hs,_⟩:=SlG.of_own (d:=0) ic_len (by decide) h.own
 exact⟨p,c,hv,hs⟩
theorem z7v (tp:Option Addr) (tn tcp:Nat) (T:List Tk) (wp:Option Addr) (wn wcp:Nat) (M:List Ln) (s:Int) (W:World) (hT:TKL W tp tn tcp T) (hM:LL W wp wn wcp M) (hTok:∀ x∈T,Tkok x) (hMok:∀ x∈M,Lnok x) (htn:tn≤1000) (hwn:wn≤1000) :
 Calls Tryz.prog 164 #[.slice tp tn tcp,.slice wp wn wcp,.int .u8 s] W fun e w'=>e=.returned (.tuple #[.int .i64 (val (z1x T M s)),.bool (okB (z1x T M s))])∧Below W.heap.size W w':=by
 have HT:=hid hT
 have HM:=hid hM
 have HST:=hid fun j (hj:j<tn)=>tkparts_take T s j (by rw [hT.len];exact hj)
 have HSM:=hid fun j (hj:j<wn)=>z5i M s j (by rw [hM.len];exact hj)
 have HET:Hid (z1o (T.take tn) s=z1o T s):=hid (by rw [← hT.len,List.take_length])
 have HEM:Hid (z1h (M.take wn) s=z1h M s):=hid (by rw [← hM.len,List.take_length])
 have HIN:Hid (∀ z∈z1o T s++z1h M s,In64 z):=hid fun z hz=>by
  rcases List.mem_append.1 hz with hz | hz
  · exact tkparts_in hTok s z hz
  · exact z8d hMok s z hz
 have hc1:=hT.cap
 have hc2:=hM.cap
 clear hT hM hTok hMok
 go_enter Tryz.func164,Tryz.ntmps164
 go_wp2_with fail
 go_loopw [8,9] (fun v i wr=>∃ j:Nat,j≤tn∧i=.int .i64 j∧Hid (q1a W wr v (z1o (T.take j) s) j)) (fun _ i _=>tn-(Go.RowKit.intOf i).toNat)
 case atStart=>exact⟨0,Nat.zero_le _,rfl,hid (by simpa [z1o] using FillG.nil W)⟩
 case round =>
  obtain⟨j,hj,rfl,HF⟩:=hrel
  by_cases hlt:j<tn
  · have hlt':(j:Int)<tn:=by omega
    obtain⟨b,off,rfl,_,k0,k1,k2,k3⟩:=z1l (HT.out.later HF.out.below) hlt
    have hst:=HST.out j hlt
    generalize T.getD j tk0=x at *
    obtain⟨o,a,w,q⟩:=x
    dsimp only at k0 k1 k2 k3 hst
    by_cases ha:a=s
    · subst ha
      rw [if_pos rfl] at hst
      have hd:(a==a)=true:=by simp
      have HS:=hid hst
      have hsz:=HF.out.below.size
      have hmost:=HF.out.most
      clear hst
      go_wp2_with (at_builtin;refine z3o rfl _ _ rfl W.heap.size _ (z1o (T.take j) a).length (z1o (T.take j) a) rfl (HF.out.own.alloc _) (by omega) q wr.heap.size rfl (z8x wr q) (by simp;omega) ?_;intro v2 w2 h1 h2)
      have HF2:=hid (HF.out.step _ h1 h2)
      clear h1 h2 hsz hmost
      go_wp2_with fail
      go_roundw
      case rel=>exact⟨j+1,by omega,by go_num,hid (by rw [HS.out];exact HF2.out)⟩
      case measure=>simp [Go.RowKit.intOf];omega
    · have hd:(a==s)=false:=by simpa using ha
      rw [if_neg ha,List.append_nil] at hst
      have HS:=hid hst
      clear hst ha
      go_wp2_with fail
      go_roundw
      case rel=>exact⟨j+1,by omega,by go_num,hid (by rw [HS.out];exact HF.out.mono (by omega))⟩
      case measure=>simp [Go.RowKit.intOf];omega
  · obtain rfl:j=tn:=by omega
    have hF:=HF.out
    rw [HET.out] at hF
    have HG:=hid hF
    clear hF HF HST
    obtain⟨W1,hW1⟩:∃ W1,W1=wr:=⟨_,rfl⟩
    subst hW1
    go_wp2_with fail
    go_loopw [8,10] (fun v i wq=>∃ m:Nat,m≤wn∧i=.int .i64 m∧Hid (q1a W wq v (z1o T s++z1h (M.take m) s) (j+m))) (fun _ i _=>wn-(Go.RowKit.intOf i).toNat)
    case atStart=>exact⟨0,Nat.zero_le _,rfl,hid (by simpa [z1h] using HG.out)⟩
    case round =>
     obtain⟨m,hm,rfl,HF⟩:=hrel
     by_cases hlt2:m<wn
     · have hlt':(m:Int)<wn:=by omega
       obtain⟨b,off,rfl,_,k0,k1⟩:=z2f (HM.out.later HF.out.below) hlt2
       have hst:=HSM.out m hlt2
       generalize M.getD m l0=x at *
       obtain⟨a,q⟩:=x
       dsimp only at k0 k1 hst
       by_cases ha:a=s
       · subst ha
         rw [if_pos rfl] at hst
         have hd:(a==a)=true:=by simp
         have HS:=hid hst
         have hsz:=HF.out.below.size
         have hmost:=HF.out.most
         clear hst
         go_wp2_with (at_builtin;refine z3o rfl _ _ rfl W.heap.size _ (z1o T a++z1h (M.take m) a).length (z1o T a++z1h (M.take m) a) rfl (HF.out.own.alloc _) (by omega) q wr.heap.size rfl (z8x wr q) (by simp;omega) ?_;intro v2 w2 h1 h2)
         have HF2:=hid (HF.out.step _ h1 h2)
         clear h1 h2 hsz hmost
         go_wp2_with fail
         go_roundw
         case rel=>exact⟨m+1,by omega,by go_num,hid (by rw [HS.out,← List.append_assoc];exact HF2.out)⟩
         case measure=>simp [Go.RowKit.intOf];omega
       · have hd:(a==s)=false:=by simpa using ha
         rw [if_neg ha,List.append_nil] at hst
         have HS:=hid hst
         clear hst ha
         go_wp2_with fail
         go_roundw
         case rel=>exact⟨m+1,by omega,by go_num,hid (by rw [HS.out];exact HF.out.mono (by omega))⟩
         case measure=>simp [Go.RowKit.intOf];omega
     · obtain rfl:m=wn:=by omega
       have hF:=HF.out
       rw [HEM.out] at hF
       obtain⟨pv,cv,hv,hs⟩:=z5y hF
       have hm:=hF.most
       have hsum:=rsum_of pv _ cv _ _ (IL.row hs HIN.out) (by omega)
       have HB:=hid hF.below
       clear hF HF hs hm
       change Calls _ _ _ _ (fun e w'=>e=.returned (.tuple #[.int .i64 (val (z1x T M s)),.bool (okB (z1x T M s))])∧_) at hsum
       generalize (z1o T s++z1h M s).length=nn at *
       subst hv
       go_wp2_with fail
       refine hsum.mono ?_
       rintro e w4 ⟨rfl,h4⟩
       have HB4:=hid (HB.out.trans (h4.mono HB.out.size))
       clear hsum h4
       go_wp2_with fail
       go_ret2
       exact⟨rfl,HB4.out⟩
theorem line_neq (a z a' z':Int) (w:World):(binOp .neq 234 (.agg #[.int .u8 a,.int .i64 z]) (.agg #[.int .u8 a',.int .i64 z'])).run Tryz.prog w=.ok (.bool (!decide (((a,z):Ln)=(a',z')))) w:=by
 by_cases h1:a=a'
 · by_cases h4:z=z'
   · subst h1 h4
     go_simp
   · subst h1
     go_simp
 · go_simp
theorem lnlists_same {L M:List Ln} {n:Nat} (hL:L.length=n) (hM:M.length=n) (h:∀ j,j<n→L.getD j l0=M.getD j l0):L=M:=by
 apply List.ext_getElem (by omega)
 intro i h1 h2
 have:=h i (by omega)
 simpa [List.getD,List.getElem?_eq_getElem h1,List.getElem?_eq_getElem h2] using this
theorem rsame_ln (p q:Option Addr) (n m c d:Nat) (L M:List Ln) (W:World) (hL:LL W p n c L) (hM:LL W q m d M) (hn:n≤100000) (hm:m≤100000) :
 Calls Tryz.prog 145 #[.slice p n c,.slice q m d] W fun e w'=>e=.returned (.bool (decide (L=M)))∧Below W.heap.size W w':=by
 have HL:=hid hL
 have HM:=hid hM
 have hLl:=hL.len
 have hMl:=hM.len
 have HLN:=hid hLl
 have HMN:=hid hMl
 clear hL hM
 by_cases hnm:n=m
 · subst hnm
   have h0:((n:Int) != (n:Int))=false:=by simp
   have hcc:=HL.out.cap
   have hcd:=HM.out.cap
   clear hLl hMl
   go_enter Tryz.func145,Tryz.ntmps145
   go_wp2_with fail
   go_loopw [5] (fun i wr=>∃ j:Nat,j≤n∧i=.int .i64 j∧Hid (Below W.heap.size W wr)∧Hid (∀ i,i<j→L.getD i l0=M.getD i l0)) (fun i _=>n-(Go.RowKit.intOf i).toNat)
   case atStart=>exact⟨0,Nat.zero_le _,rfl,hid (Below.refl _ _),hid fun i hi=>by omega⟩
   case round =>
    obtain⟨j,hj,rfl,HB,HE⟩:=hrel
    by_cases hlt:j<n
    · have hlt':(j:Int)<n:=by omega
      obtain⟨b,off,rfl,_,c0,c1⟩:=z2f (HL.out.later HB.out) hlt
      obtain⟨b',off',rfl,_,d0,d1⟩:=z2f (HM.out.later HB.out) hlt
      generalize hx:L.getD j l0=x at *
      generalize hy:M.getD j l0=y at *
      have HX:=hid hx
      have HY:=hid hy
      have hq:=fun w=>line_neq x.1 x.2 y.1 y.2 w
      have e1:decide (((x.1,x.2):Ln)=(y.1,y.2))=decide (x=y):=rfl
      rw [e1] at hq
      clear e1 hx hy
      by_cases hxy:x=y
      · rw [decide_eq_true hxy] at hq
        have HXY:=hid hxy
        clear hxy
        go_wp2_with fail
        go_quiet (fail)
        go_wp2_with fail
        go_roundw
        case rel =>
         refine⟨j+1,by omega,by go_num,hid (z0f HB.out _),hid fun i hi=>?_⟩
         by_cases e:i=j
         · subst e;rw [HX.out,HY.out,HXY.out]
         · exact HE.out i (by omega)
        case measure=>simp [Go.RowKit.intOf];omega
      · rw [decide_eq_false hxy] at hq
        have HF:Hid (decide (L=M)=false):=hid (decide_eq_false fun e=>hxy (by rw [← HX.out,← HY.out,e]))
        clear hxy
        go_wp2_with fail
        go_quiet (fail)
        go_wp2_with fail
        go_ret
        exact⟨by rw [HF.out];rfl,z0f HB.out _⟩
    · obtain rfl:j=n:=by omega
      have HF:Hid (decide (L=M)=true):=hid (decide_eq_true (lnlists_same HLN.out HMN.out HE.out))
      go_wp2_with fail
      go_ret
      exact⟨by rw [HF.out];rfl,HB.out⟩
 · have h0:((n:Int) != (m:Int))=true:=by simp;omega
   have HF:Hid (decide (L=M)=false):=hid (decide_eq_false fun e=>hnm (by rw [← HLN.out,← HMN.out,e]))
   clear hLl hMl
   go_enter Tryz.func145,Tryz.ntmps145
   go_wp2_with fail
   go_ret
   exact⟨by rw [HF.out];rfl,Below.refl _ _⟩
theorem equal_ln (p q:Option Addr) (n m c d:Nat) (L M:List Ln) (W:World) (hL:LL W p n c L) (hM:LL W q m d M) (hn:n≤100000) (hm:m≤100000) :
 Calls Tryz.prog 176 #[.slice p n c,.slice q m d] W fun e w'=>e=.returned (.bool (decide (L=M)))∧Below W.heap.size W w':=by
 have HL:=hid hL
 have HM:=hid hM
 have HLN:=hid hL.len
 have HMN:=hid hM.len
 clear hL hM
 by_cases hnm:n=m
 · subst hnm
   have h0:((n:Int) != (n:Int))=false:=by simp
   have hcc:=HL.out.cap
   have hcd:=HM.out.cap
   go_enter Tryz.func176,Tryz.ntmps176
   go_wp2_with fail
   go_loopw [13] (fun i wr=>∃ j:Nat,j≤n∧i=.int .i64 j∧Hid (Below W.heap.size W wr)∧Hid (∀ i,i<j→L.getD i l0=M.getD i l0)) (fun i _=>n-(Go.RowKit.intOf i).toNat)
   case atStart=>exact⟨0,Nat.zero_le _,rfl,hid (Below.refl _ _),hid fun i hi=>by omega⟩
   case round =>
    obtain⟨j,hj,rfl,HB,HE⟩:=hrel
    by_cases hlt:j<n
    · have hlt':(j:Int)<n:=by omega
      obtain⟨b,off,rfl,_,c0,c1⟩:=z2f (HL.out.later HB.out) hlt
      obtain⟨b',off',rfl,_,d0,d1⟩:=z2f (HM.out.later HB.out) hlt
      generalize hx:L.getD j l0=x at *
      generalize hy:M.getD j l0=y at *
      have HX:=hid hx
      have HY:=hid hy
      have hq:=fun w=>line_neq x.1 x.2 y.1 y.2 w
      have e1:decide (((x.1,x.2):Ln)=(y.1,y.2))=decide (x=y):=rfl
      rw [e1] at hq
      clear e1 hx hy
      by_cases hxy:x=y
      · rw [decide_eq_true hxy] at hq
        have HXY:=hid hxy
        clear hxy
        go_wp2_with fail
        go_quiet (fail)
        go_wp2_with fail
        go_roundw
        case rel =>
         refine⟨j+1,by omega,by go_num,hid (z0f HB.out _),hid fun i hi=>?_⟩
         by_cases e:i=j
         · subst e;rw [HX.out,HY.out,HXY.out]
         · exact HE.out i (by omega)
        case measure=>simp [Go.RowKit.intOf];omega
      · rw [decide_eq_false hxy] at hq
        have HF:Hid (decide (L=M)=false):=hid (decide_eq_false fun e=>hxy (by rw [← HX.out,← HY.out,e]))
        clear hxy
        go_wp2_with fail
        go_quiet (fail)
        go_wp2_with fail
        go_ret
        exact⟨by rw [HF.out];rfl,z0f HB.out _⟩
    · obtain rfl:j=n:=by omega
      have HF:Hid (decide (L=M)=true):=hid (decide_eq_true (lnlists_same HLN.out HMN.out HE.out))
      go_wp2_with fail
      go_ret
      exact⟨by rw [HF.out];rfl,HB.out⟩
 · have h0:((n:Int) != (m:Int))=true:=by simp;omega
   have HF:Hid (decide (L=M)=false):=hid (decide_eq_false fun e=>hnm (by rw [← HLN.out,← HMN.out,e]))
   go_enter Tryz.func176,Tryz.ntmps176
   go_wp2_with fail
   go_ret
   exact⟨by rw [HF.out];rfl,Below.refl _ _⟩
theorem take_neq (o a w z o' a' w' z':Int) (W:World):(binOp .neq 204 (.agg #[.int .u32 o,.int .u8 a,.int .u8 w,.int .i64 z]) (.agg #[.int .u32 o',.int .u8 a',.int .u8 w',.int .i64 z'])).run Tryz.prog W=.ok (.bool (!decide (((o,a,w,z):Tk)=(o',a',w',z')))) W:=by
 by_cases h1:o=o'
 · by_cases h2:a=a'
   · by_cases h3:w=w'
     · by_cases h4:z=z'
       · subst h1 h2 h3 h4
         go_simp
       · subst h1 h2 h3
         go_simp
     · subst h1 h2
       go_simp
   · subst h1
     go_simp
 · go_simp
theorem tklists_same {L M:List Tk} {n:Nat} (hL:L.length=n) (hM:M.length=n) (h:∀ j,j<n→L.getD j tk0=M.getD j tk0):L=M:=by
 apply List.ext_getElem (by omega)
 intro i h1 h2
 have:=h i (by omega)
 simpa [List.getD,List.getElem?_eq_getElem h1,List.getElem?_eq_getElem h2] using this
theorem rsame_tk (p q:Option Addr) (n m c d:Nat) (L M:List Tk) (W:World) (hL:TKL W p n c L) (hM:TKL W q m d M) (hn:n≤100000) (hm:m≤100000) :
 Calls Tryz.prog 146 #[.slice p n c,.slice q m d] W fun e w'=>e=.returned (.bool (decide (L=M)))∧Below W.heap.size W w':=by
 have HL:=hid hL
 have HM:=hid hM
 have hLl:=hL.len
 have hMl:=hM.len
 have HLN:=hid hLl
 have HMN:=hid hMl
 clear hL hM
 by_cases hnm:n=m
 · subst hnm
   have h0:((n:Int) != (n:Int))=false:=by simp
   have hcc:=HL.out.cap
   have hcd:=HM.out.cap
   clear hLl hMl
   go_enter Tryz.func146,Tryz.ntmps146
   go_wp2_with fail
   go_loopw [5] (fun i wr=>∃ j:Nat,j≤n∧i=.int .i64 j∧Hid (Below W.heap.size W wr)∧Hid (∀ i,i<j→L.getD i tk0=M.getD i tk0)) (fun i _=>n-(Go.RowKit.intOf i).toNat)
   case atStart=>exact⟨0,Nat.zero_le _,rfl,hid (Below.refl _ _),hid fun i hi=>by omega⟩
   case round =>
    obtain⟨j,hj,rfl,HB,HE⟩:=hrel
    by_cases hlt:j<n
    · have hlt':(j:Int)<n:=by omega
      obtain⟨b,off,rfl,_,c0,c1,c2,c3⟩:=z1l (HL.out.later HB.out) hlt
      obtain⟨b',off',rfl,_,d0,d1,d2,d3⟩:=z1l (HM.out.later HB.out) hlt
      generalize hx:L.getD j tk0=x at *
      generalize hy:M.getD j tk0=y at *
      have HX:=hid hx
      have HY:=hid hy
      have hq:=fun w=>take_neq x.1 x.2.1 x.2.2.1 x.2.2.2 y.1 y.2.1 y.2.2.1 y.2.2.2 w
      have e1:decide (((x.1,x.2.1,x.2.2.1,x.2.2.2):Tk)=(y.1,y.2.1,y.2.2.1,y.2.2.2))=decide (x=y):=rfl
      rw [e1] at hq
      clear e1 hx hy
      by_cases hxy:x=y
      · rw [decide_eq_true hxy] at hq
        have HXY:=hid hxy
        clear hxy
        go_wp2_with fail
        go_quiet (fail)
        go_wp2_with fail
        go_roundw
        case rel =>
         refine⟨j+1,by omega,by go_num,hid (z0f HB.out _),hid fun i hi=>?_⟩
         by_cases e:i=j
         · subst e;rw [HX.out,HY.out,HXY.out]
         · exact HE.out i (by omega)
        case measure=>simp [Go.RowKit.intOf];omega
      · rw [decide_eq_false hxy] at hq
        have HF:Hid (decide (L=M)=false):=hid (decide_eq_false fun e=>hxy (by rw [← HX.out,← HY.out,e]))
        clear hxy
        go_wp2_with fail
        go_quiet (fail)
        go_wp2_with fail
        go_ret
        exact⟨by rw [HF.out];rfl,z0f HB.out _⟩
    · obtain rfl:j=n:=by omega
      have HF:Hid (decide (L=M)=true):=hid (decide_eq_true (tklists_same HLN.out HMN.out HE.out))
      go_wp2_with fail
      go_ret
      exact⟨by rw [HF.out];rfl,HB.out⟩
 · have h0:((n:Int) != (m:Int))=true:=by simp;omega
   have HF:Hid (decide (L=M)=false):=hid (decide_eq_false fun e=>hnm (by rw [← HLN.out,← HMN.out,e]))
   clear hLl hMl
   go_enter Tryz.func146,Tryz.ntmps146
   go_wp2_with fail
   go_ret
   exact⟨by rw [HF.out];rfl,Below.refl _ _⟩
theorem z3a (W:World) (a b:Array Value):∃ W2,(W.alloc (.cells a 49)).alloc (.cells b 49)=W2∧W2.heap[W.heap.size]?=some (.cells a 49 (0,0))∧W2.heap[W.heap.size+1]?=some (.cells b 49 (0,0))∧Below W.heap.size W W2:=by
 refine⟨_,rfl,?_,?_,((Below.refl _ _).alloc (Nat.le_refl _) _).alloc (by simp) _⟩
 · exact (Below.heap_alloc _ _ _ (by simp)).trans (z0b W _)
 · have:=z0b (W.alloc (.cells a 49)) (.cells b 49)
   rwa [World.size_alloc] at this
theorem prog_cases (k od po:Int) (L:List Ln) (T:List Tk) (M:List Ln) (sk fr to q:Int) (k' od' po':Int) (L':List Ln) (T':List Tk) (M':List Ln) (sk' fr' to' q':Int) :
 ((decide ((⟨k,od,po,L,T,M,sk,fr,to,q⟩:Pg)=⟨k',od',po',L',T',M',sk',fr',to',q'⟩):Bool)=((k==k') && (od==od') && (po==po') && decide (L=L') && decide (T=T') && decide (M=M') && (sk==sk') && (fr==fr') && (to==to') && (q==q'))):=by
 rw [Bool.eq_iff_iff]
 simp [and_assoc]
theorem cells_two (k od po:Int) (lp:Option Addr) (ln lcp:Nat) (tp:Option Addr) (tn tcp:Nat) (wp:Option Addr) (wn wcp:Nat) (sk fr to q:Int) (k' od' po':Int) (lp':Option Addr) (ln' lcp':Nat) (tp':Option Addr) (tn' tcp':Nat) (wp':Option Addr) (wn' wcp':Nat) (sk' fr' to' q':Int) {w:World} {X Y:Nat} (hx:w.heap[X]?=some (.cells #[.int .u8 k,.int .u32 od,.int .u8 po,.slice lp ln lcp,.slice tp tn tcp,.slice wp wn wcp,.int .u8 sk,.int .u8 fr,.int .u8 to,.int .i64 q] 49 (0,0))) (hy:w.heap[Y]?=some (.cells #[.int .u8 k',.int .u32 od',.int .u8 po',.slice lp' ln' lcp',.slice tp' tn' tcp',.slice wp' wn' wcp',.int .u8 sk',.int .u8 fr',.int .u8 to',.int .i64 q'] 49 (0,0))) :
 w.cell? ⟨X,0,none⟩=some (.int .u8 k)∧w.cell? ⟨X,1,none⟩=some (.int .u32 od)∧w.cell? ⟨X,2,none⟩=some (.int .u8 po)∧w.cell? ⟨X,3,none⟩=some (.slice lp ln lcp)∧w.cell? ⟨X,4,none⟩=some (.slice tp tn tcp)∧w.cell? ⟨X,5,none⟩=some (.slice wp wn wcp)∧w.cell? ⟨X,6,none⟩=some (.int .u8 sk)∧w.cell? ⟨X,7,none⟩=some (.int .u8 fr)∧w.cell? ⟨X,8,none⟩=some (.int .u8 to)∧w.cell? ⟨X,9,none⟩=some (.int .i64 q)∧w.cell? ⟨Y,0,none⟩=some (.int .u8 k')∧w.cell? ⟨Y,1,none⟩=some (.int .u32 od')∧w.cell? ⟨Y,2,none⟩=some (.int .u8 po')∧w.cell? ⟨Y,3,none⟩=some (.slice lp' ln' lcp')∧w.cell? ⟨Y,4,none⟩=some (.slice tp' tn' tcp')∧w.cell? ⟨Y,5,none⟩=some (.slice wp' wn' wcp')∧w.cell? ⟨Y,6,none⟩=some (.int .u8 sk')∧w.cell? ⟨Y,7,none⟩=some (.int .u8 fr')∧w.cell? ⟨Y,8,none⟩=some (.int .u8 to')∧w.cell? ⟨Y,9,none⟩=some (.int .i64 q'):=⟨z0a hx rfl,z0a hx rfl,z0a hx rfl,z0a hx rfl,z0a hx rfl,z0a hx rfl,z0a hx rfl,z0a hx rfl,z0a hx rfl,z0a hx rfl,z0a hy rfl,z0a hy rfl,z0a hy rfl,z0a hy rfl,z0a hy rfl,z0a hy rfl,z0a hy rfl,z0a hy rfl,z0a hy rfl,z0a hy rfl⟩
theorem z6y (k od po:Int) (lp:Option Addr) (ln lcp:Nat) (tp:Option Addr) (tn tcp:Nat) (wp:Option Addr) (wn wcp:Nat) (sk fr to q:Int) (k' od' po':Int) (lp':Option Addr) (ln' lcp':Nat) (tp':Option Addr) (tn' tcp':Nat) (wp':Option Addr) (wn' wcp':Nat) (sk' fr' to' q':Int) (L:List Ln) (T:List Tk) (M:List Ln) (L':List Ln) (T':List Tk) (M':List Ln) (W:World) (hP:PgM W lp ln lcp L tp tn tcp T wp wn wcp M) (hP':PgM W lp' ln' lcp' L' tp' tn' tcp' T' wp' wn' wcp' M') (h1:ln≤1000∧tn≤1000∧wn≤1000) (h2:ln'≤1000∧tn'≤1000∧wn'≤1000) :
 Calls Tryz.prog 98 #[.agg #[.int .u8 k,.int .u32 od,.int .u8 po,.slice lp ln lcp,.slice tp tn tcp,.slice wp wn wcp,.int .u8 sk,.int .u8 fr,.int .u8 to,.int .i64 q],.agg #[.int .u8 k',.int .u32 od',.int .u8 po',.slice lp' ln' lcp',.slice tp' tn' tcp',.slice wp' wn' wcp',.int .u8 sk',.int .u8 fr',.int .u8 to',.int .i64 q']] W fun e w'=>e=.returned (.bool (decide ((⟨k,od,po,L,T,M,sk,fr,to,q⟩:Pg)=⟨k',od',po',L',T',M',sk',fr',to',q'⟩)))∧Below W.heap.size W w':=by
 rw [prog_cases]
 obtain⟨W2,hW2,b0,b1,hb⟩:=z3a W #[.int .u8 k,.int .u32 od,.int .u8 po,.slice lp ln lcp,.slice tp tn tcp,.slice wp wn wcp,.int .u8 sk,.int .u8 fr,.int .u8 to,.int .i64 q] #[.int .u8 k',.int .u32 od',.int .u8 po',.slice lp' ln' lcp',.slice tp' tn' tcp',.slice wp' wn' wcp',.int .u8 sk',.int .u8 fr',.int .u8 to',.int .i64 q']
 have HW:=hid hW2
 have HB:=hid hb
 have HX:=hid b0
 have HY:=hid b1
 have HL:=hid fun w (h:Below W2.heap.size W2 w)=>rsame_ln lp lp' ln ln' lcp lcp' L L' w ((hP.later hb).l.later h) ((hP'.later hb).l.later h) (by omega) (by omega)
 have HT:=hid fun w (h:Below W2.heap.size W2 w)=>rsame_tk tp tp' tn tn' tcp tcp' T T' w ((hP.later hb).t.later h) ((hP'.later hb).t.later h) (by omega) (by omega)
 have HM:=hid fun w (h:Below W2.heap.size W2 w)=>rsame_ln wp wp' wn wn' wcp wcp' M M' w ((hP.later hb).o.later h) ((hP'.later hb).o.later h) (by omega) (by omega)
 have HC:=hid fun w (h:Below W2.heap.size W2 w)=>cells_two k od po lp ln lcp tp tn tcp wp wn wcp sk fr to q k' od' po' lp' ln' lcp' tp' tn' tcp' wp' wn' wcp' sk' fr' to' q' (z0c HX.out h) (z0c HY.out h)
 clear hP hP' h1 h2 hb b0 b1 hW2
 cases h0:(k==k') with
 | false =>
  have HF:Hid (((k==k') && (od==od') && (po==po') && decide (L=L') && decide (T=T') && decide (M=M') && (sk==sk') && (fr==fr') && (to==to') && (q==q'))=false):=hid (by rw [h0];simp)
  obtain⟨a0,a1,a2,a3,a4,a5,a6,a7,a8,a9,b0,b1,b2,b3,b4,b5,b6,b7,b8,b9⟩:=HC.out W2 (Below.refl _ _)
  go_enter Tryz.func98,Tryz.ntmps98
  go_wp2_with fail
  go_ret
  rw [HW.out]
  exact⟨by first | (rw [HF.out];rfl) | simp,HB.out⟩
 | true =>
  cases h1:(od==od') with
  | false =>
   have HF:Hid (((k==k') && (od==od') && (po==po') && decide (L=L') && decide (T=T') && decide (M=M') && (sk==sk') && (fr==fr') && (to==to') && (q==q'))=false):=hid (by rw [h0,h1];simp)
   obtain⟨a0,a1,a2,a3,a4,a5,a6,a7,a8,a9,b0,b1,b2,b3,b4,b5,b6,b7,b8,b9⟩:=HC.out W2 (Below.refl _ _)
   go_enter Tryz.func98,Tryz.ntmps98
   go_wp2_with fail
   go_ret
   rw [HW.out]
   exact⟨by first | (rw [HF.out];rfl) | simp,HB.out⟩
  | true =>
   cases h2:(po==po') with
   | false =>
    have HF:Hid (((k==k') && (od==od') && (po==po') && decide (L=L') && decide (T=T') && decide (M=M') && (sk==sk') && (fr==fr') && (to==to') && (q==q'))=false):=hid (by rw [h0,h1,h2];simp)
    obtain⟨a0,a1,a2,a3,a4,a5,a6,a7,a8,a9,b0,b1,b2,b3,b4,b5,b6,b7,b8,b9⟩:=HC.out W2 (Below.refl _ _)
    go_enter Tryz.func98,Tryz.ntmps98
    go_wp2_with fail
    go_ret
    rw [HW.out]
    exact⟨by first | (rw [HF.out];rfl) | simp,HB.out⟩
   | true =>
    cases h3:decide (L=L') with
    | false =>
     have HF:Hid (((k==k') && (od==od') && (po==po') && decide (L=L') && decide (T=T') && decide (M=M') && (sk==sk') && (fr==fr') && (to==to') && (q==q'))=false):=hid (by rw [h0,h1,h2,h3];simp)
     obtain⟨a0,a1,a2,a3,a4,a5,a6,a7,a8,a9,b0,b1,b2,b3,b4,b5,b6,b7,b8,b9⟩:=HC.out W2 (Below.refl _ _)
     go_enter Tryz.func98,Tryz.ntmps98
     go_wp2_with fail
     rw [HW.out]
     have hc0:=HL.out W2 (Below.refl _ _)
     rw [h3] at hc0
     refine hc0.mono ?_
     rintro e w0 ⟨rfl,hb0⟩
     have HB0:Hid (Below W2.heap.size W2 w0):=hid (hb0)
     clear hc0 hb0 a0 a1 a2 a3 a4 a5 a6 a7 a8 a9 b0 b1 b2 b3 b4 b5 b6 b7 b8 b9
     obtain⟨a0,a1,a2,a3,a4,a5,a6,a7,a8,a9,b0,b1,b2,b3,b4,b5,b6,b7,b8,b9⟩:=HC.out w0 HB0.out
     go_wp2_with fail
     go_ret
     exact⟨by first | (rw [HF.out];rfl) | simp,HB.out.trans (HB0.out.mono HB.out.size)⟩
    | true =>
     cases h4:decide (T=T') with
     | false =>
      have HF:Hid (((k==k') && (od==od') && (po==po') && decide (L=L') && decide (T=T') && decide (M=M') && (sk==sk') && (fr==fr') && (to==to') && (q==q'))=false):=hid (by rw [h0,h1,h2,h3,h4];simp)
      obtain⟨a0,a1,a2,a3,a4,a5,a6,a7,a8,a9,b0,b1,b2,b3,b4,b5,b6,b7,b8,b9⟩:=HC.out W2 (Below.refl _ _)
      go_enter Tryz.func98,Tryz.ntmps98
      go_wp2_with fail
      rw [HW.out]
      have hc0:=HL.out W2 (Below.refl _ _)
      rw [h3] at hc0
      refine hc0.mono ?_
      rintro e w0 ⟨rfl,hb0⟩
      have HB0:Hid (Below W2.heap.size W2 w0):=hid (hb0)
      clear hc0 hb0 a0 a1 a2 a3 a4 a5 a6 a7 a8 a9 b0 b1 b2 b3 b4 b5 b6 b7 b8 b9
      obtain⟨a0,a1,a2,a3,a4,a5,a6,a7,a8,a9,b0,b1,b2,b3,b4,b5,b6,b7,b8,b9⟩:=HC.out w0 HB0.out
      go_wp2_with fail
      have hc1:=HT.out w0 HB0.out
      rw [h4] at hc1
      refine hc1.mono ?_
      rintro e w1 ⟨rfl,hb1⟩
      have HB1:Hid (Below W2.heap.size W2 w1):=hid (HB0.out.trans (hb1.mono HB0.out.size))
      clear hc1 hb1 a0 a1 a2 a3 a4 a5 a6 a7 a8 a9 b0 b1 b2 b3 b4 b5 b6 b7 b8 b9
      obtain⟨a0,a1,a2,a3,a4,a5,a6,a7,a8,a9,b0,b1,b2,b3,b4,b5,b6,b7,b8,b9⟩:=HC.out w1 HB1.out
      go_wp2_with fail
      go_ret
      exact⟨by first | (rw [HF.out];rfl) | simp,HB.out.trans (HB1.out.mono HB.out.size)⟩
     | true =>
      cases h5:decide (M=M') with
      | false =>
       have HF:Hid (((k==k') && (od==od') && (po==po') && decide (L=L') && decide (T=T') && decide (M=M') && (sk==sk') && (fr==fr') && (to==to') && (q==q'))=false):=hid (by rw [h0,h1,h2,h3,h4,h5];simp)
       obtain⟨a0,a1,a2,a3,a4,a5,a6,a7,a8,a9,b0,b1,b2,b3,b4,b5,b6,b7,b8,b9⟩:=HC.out W2 (Below.refl _ _)
       go_enter Tryz.func98,Tryz.ntmps98
       go_wp2_with fail
       rw [HW.out]
       have hc0:=HL.out W2 (Below.refl _ _)
       rw [h3] at hc0
       refine hc0.mono ?_
       rintro e w0 ⟨rfl,hb0⟩
       have HB0:Hid (Below W2.heap.size W2 w0):=hid (hb0)
       clear hc0 hb0 a0 a1 a2 a3 a4 a5 a6 a7 a8 a9 b0 b1 b2 b3 b4 b5 b6 b7 b8 b9
       obtain⟨a0,a1,a2,a3,a4,a5,a6,a7,a8,a9,b0,b1,b2,b3,b4,b5,b6,b7,b8,b9⟩:=HC.out w0 HB0.out
       go_wp2_with fail
       have hc1:=HT.out w0 HB0.out
       rw [h4] at hc1
       refine hc1.mono ?_
       rintro e w1 ⟨rfl,hb1⟩
       have HB1:Hid (Below W2.heap.size W2 w1):=hid (HB0.out.trans (hb1.mono HB0.out.size))
       clear hc1 hb1 a0 a1 a2 a3 a4 a5 a6 a7 a8 a9 b0 b1 b2 b3 b4 b5 b6 b7 b8 b9
       obtain⟨a0,a1,a2,a3,a4,a5,a6,a7,a8,a9,b0,b1,b2,b3,b4,b5,b6,b7,b8,b9⟩:=HC.out w1 HB1.out
       go_wp2_with fail
       have hc2:=HM.out w1 HB1.out
       rw [h5] at hc2
       refine hc2.mono ?_
       rintro e w2 ⟨rfl,hb2⟩
       have HB2:Hid (Below W2.heap.size W2 w2):=hid (HB1.out.trans (hb2.mono HB1.out.size))
       clear hc2 hb2 a0 a1 a2 a3 a4 a5 a6 a7 a8 a9 b0 b1 b2 b3 b4 b5 b6 b7 b8 b9
       obtain⟨a0,a1,a2,a3,a4,a5,a6,a7,a8,a9,b0,b1,b2,b3,b4,b5,b6,b7,b8,b9⟩:=HC.out w2 HB2.out
       go_wp2_with fail
       go_ret
       exact⟨by first | (rw [HF.out];rfl) | simp,HB.out.trans (HB2.out.mono HB.out.size)⟩
      | true =>
       cases h6:(sk==sk') with
       | false =>
        have HF:Hid (((k==k') && (od==od') && (po==po') && decide (L=L') && decide (T=T') && decide (M=M') && (sk==sk') && (fr==fr') && (to==to') && (q==q'))=false):=hid (by rw [h0,h1,h2,h3,h4,h5,h6];simp)
        obtain⟨a0,a1,a2,a3,a4,a5,a6,a7,a8,a9,b0,b1,b2,b3,b4,b5,b6,b7,b8,b9⟩:=HC.out W2 (Below.refl _ _)
        go_enter Tryz.func98,Tryz.ntmps98
        go_wp2_with fail
        rw [HW.out]
        have hc0:=HL.out W2 (Below.refl _ _)
        rw [h3] at hc0
        refine hc0.mono ?_
        rintro e w0 ⟨rfl,hb0⟩
        have HB0:Hid (Below W2.heap.size W2 w0):=hid (hb0)
        clear hc0 hb0 a0 a1 a2 a3 a4 a5 a6 a7 a8 a9 b0 b1 b2 b3 b4 b5 b6 b7 b8 b9
        obtain⟨a0,a1,a2,a3,a4,a5,a6,a7,a8,a9,b0,b1,b2,b3,b4,b5,b6,b7,b8,b9⟩:=HC.out w0 HB0.out
        go_wp2_with fail
        have hc1:=HT.out w0 HB0.out
        rw [h4] at hc1
        refine hc1.mono ?_
        rintro e w1 ⟨rfl,hb1⟩
        have HB1:Hid (Below W2.heap.size W2 w1):=hid (HB0.out.trans (hb1.mono HB0.out.size))
        clear hc1 hb1 a0 a1 a2 a3 a4 a5 a6 a7 a8 a9 b0 b1 b2 b3 b4 b5 b6 b7 b8 b9
        obtain⟨a0,a1,a2,a3,a4,a5,a6,a7,a8,a9,b0,b1,b2,b3,b4,b5,b6,b7,b8,b9⟩:=HC.out w1 HB1.out
        go_wp2_with fail
        have hc2:=HM.out w1 HB1.out
        rw [h5] at hc2
        refine hc2.mono ?_
        rintro e w2 ⟨rfl,hb2⟩
        have HB2:Hid (Below W2.heap.size W2 w2):=hid (HB1.out.trans (hb2.mono HB1.out.size))
        clear hc2 hb2 a0 a1 a2 a3 a4 a5 a6 a7 a8 a9 b0 b1 b2 b3 b4 b5 b6 b7 b8 b9
        obtain⟨a0,a1,a2,a3,a4,a5,a6,a7,a8,a9,b0,b1,b2,b3,b4,b5,b6,b7,b8,b9⟩:=HC.out w2 HB2.out
        go_wp2_with fail
        go_ret
        exact⟨by first | (rw [HF.out];rfl) | simp,HB.out.trans (HB2.out.mono HB.out.size)⟩
       | true =>
        cases h7:(fr==fr') with
        | false =>
         have HF:Hid (((k==k') && (od==od') && (po==po') && decide (L=L') && decide (T=T') && decide (M=M') && (sk==sk') && (fr==fr') && (to==to') && (q==q'))=false):=hid (by rw [h0,h1,h2,h3,h4,h5,h6,h7];simp)
         obtain⟨a0,a1,a2,a3,a4,a5,a6,a7,a8,a9,b0,b1,b2,b3,b4,b5,b6,b7,b8,b9⟩:=HC.out W2 (Below.refl _ _)
         go_enter Tryz.func98,Tryz.ntmps98
         go_wp2_with fail
         rw [HW.out]
         have hc0:=HL.out W2 (Below.refl _ _)
         rw [h3] at hc0
         refine hc0.mono ?_
         rintro e w0 ⟨rfl,hb0⟩
         have HB0:Hid (Below W2.heap.size W2 w0):=hid (hb0)
         clear hc0 hb0 a0 a1 a2 a3 a4 a5 a6 a7 a8 a9 b0 b1 b2 b3 b4 b5 b6 b7 b8 b9
         obtain⟨a0,a1,a2,a3,a4,a5,a6,a7,a8,a9,b0,b1,b2,b3,b4,b5,b6,b7,b8,b9⟩:=HC.out w0 HB0.out
         go_wp2_with fail
         have hc1:=HT.out w0 HB0.out
         rw [h4] at hc1
         refine hc1.mono ?_
         rintro e w1 ⟨rfl,hb1⟩
         have HB1:Hid (Below W2.heap.size W2 w1):=hid (HB0.out.trans (hb1.mono HB0.out.size))
         clear hc1 hb1 a0 a1 a2 a3 a4 a5 a6 a7 a8 a9 b0 b1 b2 b3 b4 b5 b6 b7 b8 b9
         obtain⟨a0,a1,a2,a3,a4,a5,a6,a7,a8,a9,b0,b1,b2,b3,b4,b5,b6,b7,b8,b9⟩:=HC.out w1 HB1.out
         go_wp2_with fail
         have hc2:=HM.out w1 HB1.out
         rw [h5] at hc2
         refine hc2.mono ?_
         rintro e w2 ⟨rfl,hb2⟩
         have HB2:Hid (Below W2.heap.size W2 w2):=hid (HB1.out.trans (hb2.mono HB1.out.size))
         clear hc2 hb2 a0 a1 a2 a3 a4 a5 a6 a7 a8 a9 b0 b1 b2 b3 b4 b5 b6 b7 b8 b9
         obtain⟨a0,a1,a2,a3,a4,a5,a6,a7,a8,a9,b0,b1,b2,b3,b4,b5,b6,b7,b8,b9⟩:=HC.out w2 HB2.out
         go_wp2_with fail
         go_ret
         exact⟨by first | (rw [HF.out];rfl) | simp,HB.out.trans (HB2.out.mono HB.out.size)⟩
        | true =>
         cases h8:(to==to') with
         | false =>
          have HF:Hid (((k==k') && (od==od') && (po==po') && decide (L=L') && decide (T=T') && decide (M=M') && (sk==sk') && (fr==fr') && (to==to') && (q==q'))=false):=hid (by rw [h0,h1,h2,h3,h4,h5,h6,h7,h8];simp)
          obtain⟨a0,a1,a2,a3,a4,a5,a6,a7,a8,a9,b0,b1,b2,b3,b4,b5,b6,b7,b8,b9⟩:=HC.out W2 (Below.refl _ _)
          go_enter Tryz.func98,Tryz.ntmps98
          go_wp2_with fail
          rw [HW.out]
          have hc0:=HL.out W2 (Below.refl _ _)
          rw [h3] at hc0
          refine hc0.mono ?_
          rintro e w0 ⟨rfl,hb0⟩
          have HB0:Hid (Below W2.heap.size W2 w0):=hid (hb0)
          clear hc0 hb0 a0 a1 a2 a3 a4 a5 a6 a7 a8 a9 b0 b1 b2 b3 b4 b5 b6 b7 b8 b9
          obtain⟨a0,a1,a2,a3,a4,a5,a6,a7,a8,a9,b0,b1,b2,b3,b4,b5,b6,b7,b8,b9⟩:=HC.out w0 HB0.out
          go_wp2_with fail
          have hc1:=HT.out w0 HB0.out
          rw [h4] at hc1
          refine hc1.mono ?_
          rintro e w1 ⟨rfl,hb1⟩
          have HB1:Hid (Below W2.heap.size W2 w1):=hid (HB0.out.trans (hb1.mono HB0.out.size))
          clear hc1 hb1 a0 a1 a2 a3 a4 a5 a6 a7 a8 a9 b0 b1 b2 b3 b4 b5 b6 b7 b8 b9
          obtain⟨a0,a1,a2,a3,a4,a5,a6,a7,a8,a9,b0,b1,b2,b3,b4,b5,b6,b7,b8,b9⟩:=HC.out w1 HB1.out
          go_wp2_with fail
          have hc2:=HM.out w1 HB1.out
          rw [h5] at hc2
          refine hc2.mono ?_
          rintro e w2 ⟨rfl,hb2⟩
          have HB2:Hid (Below W2.heap.size W2 w2):=hid (HB1.out.trans (hb2.mono HB1.out.size))
          clear hc2 hb2 a0 a1 a2 a3 a4 a5 a6 a7 a8 a9 b0 b1 b2 b3 b4 b5 b6 b7 b8 b9
          obtain⟨a0,a1,a2,a3,a4,a5,a6,a7,a8,a9,b0,b1,b2,b3,b4,b5,b6,b7,b8,b9⟩:=HC.out w2 HB2.out
          go_wp2_with fail
          go_ret
          exact⟨by first | (rw [HF.out];rfl) | simp,HB.out.trans (HB2.out.mono HB.out.size)⟩
         | true =>
          cases h9:(q==q') with
          | false =>
           have HF:Hid (((k==k') && (od==od') && (po==po') && decide (L=L') && decide (T=T') && decide (M=M') && (sk==sk') && (fr==fr') && (to==to') && (q==q'))=false):=hid (by rw [h0,h1,h2,h3,h4,h5,h6,h7,h8,h9];simp)
           obtain⟨a0,a1,a2,a3,a4,a5,a6,a7,a8,a9,b0,b1,b2,b3,b4,b5,b6,b7,b8,b9⟩:=HC.out W2 (Below.refl _ _)
           go_enter Tryz.func98,Tryz.ntmps98
           go_wp2_with fail
           rw [HW.out]
           have hc0:=HL.out W2 (Below.refl _ _)
           rw [h3] at hc0
           refine hc0.mono ?_
           rintro e w0 ⟨rfl,hb0⟩
           have HB0:Hid (Below W2.heap.size W2 w0):=hid (hb0)
           clear hc0 hb0 a0 a1 a2 a3 a4 a5 a6 a7 a8 a9 b0 b1 b2 b3 b4 b5 b6 b7 b8 b9
           obtain⟨a0,a1,a2,a3,a4,a5,a6,a7,a8,a9,b0,b1,b2,b3,b4,b5,b6,b7,b8,b9⟩:=HC.out w0 HB0.out
           go_wp2_with fail
           have hc1:=HT.out w0 HB0.out
           rw [h4] at hc1
           refine hc1.mono ?_
           rintro e w1 ⟨rfl,hb1⟩
           have HB1:Hid (Below W2.heap.size W2 w1):=hid (HB0.out.trans (hb1.mono HB0.out.size))
           clear hc1 hb1 a0 a1 a2 a3 a4 a5 a6 a7 a8 a9 b0 b1 b2 b3 b4 b5 b6 b7 b8 b9
           obtain⟨a0,a1,a2,a3,a4,a5,a6,a7,a8,a9,b0,b1,b2,b3,b4,b5,b6,b7,b8,b9⟩:=HC.out w1 HB1.out
           go_wp2_with fail
           have hc2:=HM.out w1 HB1.out
           rw [h5] at hc2
           refine hc2.mono ?_
           rintro e w2 ⟨rfl,hb2⟩
           have HB2:Hid (Below W2.heap.size W2 w2):=hid (HB1.out.trans (hb2.mono HB1.out.size))
           clear hc2 hb2 a0 a1 a2 a3 a4 a5 a6 a7 a8 a9 b0 b1 b2 b3 b4 b5 b6 b7 b8 b9
           obtain⟨a0,a1,a2,a3,a4,a5,a6,a7,a8,a9,b0,b1,b2,b3,b4,b5,b6,b7,b8,b9⟩:=HC.out w2 HB2.out
           go_wp2_with fail
           go_ret
           exact⟨by first | (rw [HF.out];rfl) | simp,HB.out.trans (HB2.out.mono HB.out.size)⟩
          | true =>
           have HF:Hid (((k==k') && (od==od') && (po==po') && decide (L=L') && decide (T=T') && decide (M=M') && (sk==sk') && (fr==fr') && (to==to') && (q==q'))=true):=hid (by rw [h0,h1,h2,h3,h4,h5,h6,h7,h8,h9];rfl)
           obtain⟨a0,a1,a2,a3,a4,a5,a6,a7,a8,a9,b0,b1,b2,b3,b4,b5,b6,b7,b8,b9⟩:=HC.out W2 (Below.refl _ _)
           go_enter Tryz.func98,Tryz.ntmps98
           go_wp2_with fail
           rw [HW.out]
           have hc0:=HL.out W2 (Below.refl _ _)
           rw [h3] at hc0
           refine hc0.mono ?_
           rintro e w0 ⟨rfl,hb0⟩
           have HB0:Hid (Below W2.heap.size W2 w0):=hid (hb0)
           clear hc0 hb0 a0 a1 a2 a3 a4 a5 a6 a7 a8 a9 b0 b1 b2 b3 b4 b5 b6 b7 b8 b9
           obtain⟨a0,a1,a2,a3,a4,a5,a6,a7,a8,a9,b0,b1,b2,b3,b4,b5,b6,b7,b8,b9⟩:=HC.out w0 HB0.out
           go_wp2_with fail
           have hc1:=HT.out w0 HB0.out
           rw [h4] at hc1
           refine hc1.mono ?_
           rintro e w1 ⟨rfl,hb1⟩
           have HB1:Hid (Below W2.heap.size W2 w1):=hid (HB0.out.trans (hb1.mono HB0.out.size))
           clear hc1 hb1 a0 a1 a2 a3 a4 a5 a6 a7 a8 a9 b0 b1 b2 b3 b4 b5 b6 b7 b8 b9
           obtain⟨a0,a1,a2,a3,a4,a5,a6,a7,a8,a9,b0,b1,b2,b3,b4,b5,b6,b7,b8,b9⟩:=HC.out w1 HB1.out
           go_wp2_with fail
           have hc2:=HM.out w1 HB1.out
           rw [h5] at hc2
           refine hc2.mono ?_
           rintro e w2 ⟨rfl,hb2⟩
           have HB2:Hid (Below W2.heap.size W2 w2):=hid (HB1.out.trans (hb2.mono HB1.out.size))
           clear hc2 hb2 a0 a1 a2 a3 a4 a5 a6 a7 a8 a9 b0 b1 b2 b3 b4 b5 b6 b7 b8 b9
           obtain⟨a0,a1,a2,a3,a4,a5,a6,a7,a8,a9,b0,b1,b2,b3,b4,b5,b6,b7,b8,b9⟩:=HC.out w2 HB2.out
           go_wp2_with fail
           go_ret
           exact⟨by first | (rw [HF.out];rfl) | simp,HB.out.trans (HB2.out.mono HB.out.size)⟩
theorem equal_tk (p q:Option Addr) (n m c d:Nat) (L M:List Tk) (W:World) (hL:TKL W p n c L) (hM:TKL W q m d M) (hn:n≤100000) (hm:m≤100000) :
 Calls Tryz.prog 177 #[.slice p n c,.slice q m d] W fun e w'=>e=.returned (.bool (decide (L=M)))∧Below W.heap.size W w':=by
 have HL:=hid hL
 have HM:=hid hM
 have HLN:=hid hL.len
 have HMN:=hid hM.len
 clear hL hM
 by_cases hnm:n=m
 · subst hnm
   have h0:((n:Int) != (n:Int))=false:=by simp
   have hcc:=HL.out.cap
   have hcd:=HM.out.cap
   go_enter Tryz.func177,Tryz.ntmps177
   go_wp2_with fail
   go_loopw [13] (fun i wr=>∃ j:Nat,j≤n∧i=.int .i64 j∧Hid (Below W.heap.size W wr)∧Hid (∀ i,i<j→L.getD i tk0=M.getD i tk0)) (fun i _=>n-(Go.RowKit.intOf i).toNat)
   case atStart=>exact⟨0,Nat.zero_le _,rfl,hid (Below.refl _ _),hid fun i hi=>by omega⟩
   case round =>
    obtain⟨j,hj,rfl,HB,HE⟩:=hrel
    by_cases hlt:j<n
    · have hlt':(j:Int)<n:=by omega
      obtain⟨b,off,rfl,_,c0,c1,c2,c3⟩:=z1l (HL.out.later HB.out) hlt
      obtain⟨b',off',rfl,_,d0,d1,d2,d3⟩:=z1l (HM.out.later HB.out) hlt
      generalize hx:L.getD j tk0=x at *
      generalize hy:M.getD j tk0=y at *
      have HX:=hid hx
      have HY:=hid hy
      have hq:=fun w=>take_neq x.1 x.2.1 x.2.2.1 x.2.2.2 y.1 y.2.1 y.2.2.1 y.2.2.2 w
      have e1:decide (((x.1,x.2.1,x.2.2.1,x.2.2.2):Tk)=(y.1,y.2.1,y.2.2.1,y.2.2.2))=decide (x=y):=rfl
      rw [e1] at hq
      clear e1 hx hy
      by_cases hxy:x=y
      · rw [decide_eq_true hxy] at hq
        have HXY:=hid hxy
        clear hxy
        go_wp2_with fail
        go_quiet (fail)
        go_wp2_with fail
        go_roundw
        case rel =>
         refine⟨j+1,by omega,by go_num,hid (z0f HB.out _),hid fun i hi=>?_⟩
         by_cases e:i=j
         · subst e;rw [HX.out,HY.out,HXY.out]
         · exact HE.out i (by omega)
        case measure=>simp [Go.RowKit.intOf];omega
      · rw [decide_eq_false hxy] at hq
        have HF:Hid (decide (L=M)=false):=hid (decide_eq_false fun e=>hxy (by rw [← HX.out,← HY.out,e]))
        clear hxy
        go_wp2_with fail
        go_quiet (fail)
        go_wp2_with fail
        go_ret
        exact⟨by rw [HF.out];rfl,z0f HB.out _⟩
    · obtain rfl:j=n:=by omega
      have HF:Hid (decide (L=M)=true):=hid (decide_eq_true (tklists_same HLN.out HMN.out HE.out))
      go_wp2_with fail
      go_ret
      exact⟨by rw [HF.out];rfl,HB.out⟩
 · have h0:((n:Int) != (m:Int))=true:=by simp;omega
   have HF:Hid (decide (L=M)=false):=hid (decide_eq_false fun e=>hnm (by rw [← HLN.out,← HMN.out,e]))
   go_enter Tryz.func177,Tryz.ntmps177
   go_wp2_with fail
   go_ret
   exact⟨by rw [HF.out];rfl,Below.refl _ _⟩
theorem prog_order (k od po sk fr to q k' od' po' sk' fr' to' q':Int) (L:List Ln) (T:List Tk) (M:List Ln) (L':List Ln) (T':List Tk) (M':List Ln):((k==k') && (od==od') && (po==po') && decide (L=L') && decide (T=T') && decide (M=M') && (sk==sk') && (fr==fr') && (to==to') && (q==q'))=((k==k') && (od==od') && (po==po') && (sk==sk') && (fr==fr') && (to==to') && (q==q') && decide (L=L') && decide (T=T') && decide (M=M')):=by
 generalize (k==k')=x0
 generalize (od==od')=x1
 generalize (po==po')=x2
 generalize decide (L=L')=x3
 generalize decide (T=T')=x4
 generalize decide (M=M')=x5
 generalize (sk==sk')=x6
 generalize (fr==fr')=x7
 generalize (to==to')=x8
 generalize (q==q')=x9
 cases x0 <;> cases x1 <;> cases x2 <;> cases x3 <;> cases x4 <;> cases x5 <;> cases x6 <;> cases x7 <;> cases x8 <;> cases x9 <;> rfl
theorem same_p (k od po:Int) (lp:Option Addr) (ln lcp:Nat) (tp:Option Addr) (tn tcp:Nat) (wp:Option Addr) (wn wcp:Nat) (sk fr to q:Int) (k' od' po':Int) (lp':Option Addr) (ln' lcp':Nat) (tp':Option Addr) (tn' tcp':Nat) (wp':Option Addr) (wn' wcp':Nat) (sk' fr' to' q':Int) (L:List Ln) (T:List Tk) (M:List Ln) (L':List Ln) (T':List Tk) (M':List Ln) (W:World) (hP:PgM W lp ln lcp L tp tn tcp T wp wn wcp M) (hP':PgM W lp' ln' lcp' L' tp' tn' tcp' T' wp' wn' wcp' M') (h1:ln≤1000∧tn≤1000∧wn≤1000) (h2:ln'≤1000∧tn'≤1000∧wn'≤1000) :
 Calls Tryz.prog 157 #[.agg #[.int .u8 k,.int .u32 od,.int .u8 po,.slice lp ln lcp,.slice tp tn tcp,.slice wp wn wcp,.int .u8 sk,.int .u8 fr,.int .u8 to,.int .i64 q],.agg #[.int .u8 k',.int .u32 od',.int .u8 po',.slice lp' ln' lcp',.slice tp' tn' tcp',.slice wp' wn' wcp',.int .u8 sk',.int .u8 fr',.int .u8 to',.int .i64 q']] W fun e w'=>e=.returned (.bool (decide ((⟨k,od,po,L,T,M,sk,fr,to,q⟩:Pg)=⟨k',od',po',L',T',M',sk',fr',to',q'⟩)))∧Below W.heap.size W w':=by
 rw [prog_cases,prog_order]
 obtain⟨W2,hW2,b0,b1,hb⟩:=z3a W #[.int .u8 k,.int .u32 od,.int .u8 po,.slice lp ln lcp,.slice tp tn tcp,.slice wp wn wcp,.int .u8 sk,.int .u8 fr,.int .u8 to,.int .i64 q] #[.int .u8 k',.int .u32 od',.int .u8 po',.slice lp' ln' lcp',.slice tp' tn' tcp',.slice wp' wn' wcp',.int .u8 sk',.int .u8 fr',.int .u8 to',.int .i64 q']
 have HW:=hid hW2
 have HB:=hid hb
 have HX:=hid b0
 have HY:=hid b1
 have HL:=hid fun w (h:Below W2.heap.size W2 w)=>equal_ln lp lp' ln ln' lcp lcp' L L' w ((hP.later hb).l.later h) ((hP'.later hb).l.later h) (by omega) (by omega)
 have HT:=hid fun w (h:Below W2.heap.size W2 w)=>equal_tk tp tp' tn tn' tcp tcp' T T' w ((hP.later hb).t.later h) ((hP'.later hb).t.later h) (by omega) (by omega)
 have HM:=hid fun w (h:Below W2.heap.size W2 w)=>equal_ln wp wp' wn wn' wcp wcp' M M' w ((hP.later hb).o.later h) ((hP'.later hb).o.later h) (by omega) (by omega)
 have HC:=hid fun w (h:Below W2.heap.size W2 w)=>cells_two k od po lp ln lcp tp tn tcp wp wn wcp sk fr to q k' od' po' lp' ln' lcp' tp' tn' tcp' wp' wn' wcp' sk' fr' to' q' (z0c HX.out h) (z0c HY.out h)
 clear hP hP' h1 h2 hb b0 b1 hW2
 cases h0:(k==k') with
 | false =>
  have HF:Hid (((k==k') && (od==od') && (po==po') && (sk==sk') && (fr==fr') && (to==to') && (q==q') && decide (L=L') && decide (T=T') && decide (M=M'))=false):=hid (by rw [h0];simp)
  obtain⟨a0,a1,a2,a3,a4,a5,a6,a7,a8,a9,b0,b1,b2,b3,b4,b5,b6,b7,b8,b9⟩:=HC.out W2 (Below.refl _ _)
  go_enter Tryz.func157,Tryz.ntmps157
  go_wp2_with fail
  go_ret
  rw [HW.out]
  exact⟨by first | (rw [HF.out];rfl) | simp,HB.out⟩
 | true =>
  cases h1:(od==od') with
  | false =>
   have HF:Hid (((k==k') && (od==od') && (po==po') && (sk==sk') && (fr==fr') && (to==to') && (q==q') && decide (L=L') && decide (T=T') && decide (M=M'))=false):=hid (by rw [h0,h1];simp)
   obtain⟨a0,a1,a2,a3,a4,a5,a6,a7,a8,a9,b0,b1,b2,b3,b4,b5,b6,b7,b8,b9⟩:=HC.out W2 (Below.refl _ _)
   go_enter Tryz.func157,Tryz.ntmps157
   go_wp2_with fail
   go_ret
   rw [HW.out]
   exact⟨by first | (rw [HF.out];rfl) | simp,HB.out⟩
  | true =>
   cases h2:(po==po') with
   | false =>
    have HF:Hid (((k==k') && (od==od') && (po==po') && (sk==sk') && (fr==fr') && (to==to') && (q==q') && decide (L=L') && decide (T=T') && decide (M=M'))=false):=hid (by rw [h0,h1,h2];simp)
    obtain⟨a0,a1,a2,a3,a4,a5,a6,a7,a8,a9,b0,b1,b2,b3,b4,b5,b6,b7,b8,b9⟩:=HC.out W2 (Below.refl _ _)
    go_enter Tryz.func157,Tryz.ntmps157
    go_wp2_with fail
    go_ret
    rw [HW.out]
    exact⟨by first | (rw [HF.out];rfl) | simp,HB.out⟩
   | true =>
    cases h3:(sk==sk') with
    | false =>
     have HF:Hid (((k==k') && (od==od') && (po==po') && (sk==sk') && (fr==fr') && (to==to') && (q==q') && decide (L=L') && decide (T=T') && decide (M=M'))=false):=hid (by rw [h0,h1,h2,h3];simp)
     obtain⟨a0,a1,a2,a3,a4,a5,a6,a7,a8,a9,b0,b1,b2,b3,b4,b5,b6,b7,b8,b9⟩:=HC.out W2 (Below.refl _ _)
     go_enter Tryz.func157,Tryz.ntmps157
     go_wp2_with fail
     go_ret
     rw [HW.out]
     exact⟨by first | (rw [HF.out];rfl) | simp,HB.out⟩
    | true =>
     cases h4:(fr==fr') with
     | false =>
      have HF:Hid (((k==k') && (od==od') && (po==po') && (sk==sk') && (fr==fr') && (to==to') && (q==q') && decide (L=L') && decide (T=T') && decide (M=M'))=false):=hid (by rw [h0,h1,h2,h3,h4];simp)
      obtain⟨a0,a1,a2,a3,a4,a5,a6,a7,a8,a9,b0,b1,b2,b3,b4,b5,b6,b7,b8,b9⟩:=HC.out W2 (Below.refl _ _)
      go_enter Tryz.func157,Tryz.ntmps157
      go_wp2_with fail
      go_ret
      rw [HW.out]
      exact⟨by first | (rw [HF.out];rfl) | simp,HB.out⟩
     | true =>
      cases h5:(to==to') with
      | false =>
       have HF:Hid (((k==k') && (od==od') && (po==po') && (sk==sk') && (fr==fr') && (to==to') && (q==q') && decide (L=L') && decide (T=T') && decide (M=M'))=false):=hid (by rw [h0,h1,h2,h3,h4,h5];simp)
       obtain⟨a0,a1,a2,a3,a4,a5,a6,a7,a8,a9,b0,b1,b2,b3,b4,b5,b6,b7,b8,b9⟩:=HC.out W2 (Below.refl _ _)
       go_enter Tryz.func157,Tryz.ntmps157
       go_wp2_with fail
       go_ret
       rw [HW.out]
       exact⟨by first | (rw [HF.out];rfl) | simp,HB.out⟩
      | true =>
       cases h6:(q==q') with
       | false =>
        have HF:Hid (((k==k') && (od==od') && (po==po') && (sk==sk') && (fr==fr') && (to==to') && (q==q') && decide (L=L') && decide (T=T') && decide (M=M'))=false):=hid (by rw [h0,h1,h2,h3,h4,h5,h6];simp)
        obtain⟨a0,a1,a2,a3,a4,a5,a6,a7,a8,a9,b0,b1,b2,b3,b4,b5,b6,b7,b8,b9⟩:=HC.out W2 (Below.refl _ _)
        go_enter Tryz.func157,Tryz.ntmps157
        go_wp2_with fail
        go_ret
        rw [HW.out]
        exact⟨by first | (rw [HF.out];rfl) | simp,HB.out⟩
       | true =>
        cases h7:decide (L=L') with
        | false =>
         have HF:Hid (((k==k') && (od==od') && (po==po') && (sk==sk') && (fr==fr') && (to==to') && (q==q') && decide (L=L') && decide (T=T') && decide (M=M'))=false):=hid (by rw [h0,h1,h2,h3,h4,h5,h6,h7];simp)
         obtain⟨a0,a1,a2,a3,a4,a5,a6,a7,a8,a9,b0,b1,b2,b3,b4,b5,b6,b7,b8,b9⟩:=HC.out W2 (Below.refl _ _)
         go_enter Tryz.func157,Tryz.ntmps157
         go_wp2_with fail
         rw [HW.out]
         have hc0:=HL.out W2 (Below.refl _ _)
         rw [h7] at hc0
         refine hc0.mono ?_
         rintro e w0 ⟨rfl,hb0⟩
         have HB0:Hid (Below W2.heap.size W2 w0):=hid (hb0)
         clear hc0 hb0 a0 a1 a2 a3 a4 a5 a6 a7 a8 a9 b0 b1 b2 b3 b4 b5 b6 b7 b8 b9
         obtain⟨a0,a1,a2,a3,a4,a5,a6,a7,a8,a9,b0,b1,b2,b3,b4,b5,b6,b7,b8,b9⟩:=HC.out w0 HB0.out
         go_wp2_with fail
         go_ret
         exact⟨by first | (rw [HF.out];rfl) | simp,HB.out.trans (HB0.out.mono HB.out.size)⟩
        | true =>
         cases h8:decide (T=T') with
         | false =>
          have HF:Hid (((k==k') && (od==od') && (po==po') && (sk==sk') && (fr==fr') && (to==to') && (q==q') && decide (L=L') && decide (T=T') && decide (M=M'))=false):=hid (by rw [h0,h1,h2,h3,h4,h5,h6,h7,h8];simp)
          obtain⟨a0,a1,a2,a3,a4,a5,a6,a7,a8,a9,b0,b1,b2,b3,b4,b5,b6,b7,b8,b9⟩:=HC.out W2 (Below.refl _ _)
          go_enter Tryz.func157,Tryz.ntmps157
          go_wp2_with fail
          rw [HW.out]
          have hc0:=HL.out W2 (Below.refl _ _)
          rw [h7] at hc0
          refine hc0.mono ?_
          rintro e w0 ⟨rfl,hb0⟩
          have HB0:Hid (Below W2.heap.size W2 w0):=hid (hb0)
          clear hc0 hb0 a0 a1 a2 a3 a4 a5 a6 a7 a8 a9 b0 b1 b2 b3 b4 b5 b6 b7 b8 b9
          obtain⟨a0,a1,a2,a3,a4,a5,a6,a7,a8,a9,b0,b1,b2,b3,b4,b5,b6,b7,b8,b9⟩:=HC.out w0 HB0.out
          go_wp2_with fail
          have hc1:=HT.out w0 HB0.out
          rw [h8] at hc1
          refine hc1.mono ?_
          rintro e w1 ⟨rfl,hb1⟩
          have HB1:Hid (Below W2.heap.size W2 w1):=hid (HB0.out.trans (hb1.mono HB0.out.size))
          clear hc1 hb1 a0 a1 a2 a3 a4 a5 a6 a7 a8 a9 b0 b1 b2 b3 b4 b5 b6 b7 b8 b9
          obtain⟨a0,a1,a2,a3,a4,a5,a6,a7,a8,a9,b0,b1,b2,b3,b4,b5,b6,b7,b8,b9⟩:=HC.out w1 HB1.out
          go_wp2_with fail
          go_ret
          exact⟨by first | (rw [HF.out];rfl) | simp,HB.out.trans (HB1.out.mono HB.out.size)⟩
         | true =>
          cases h9:decide (M=M') with
          | false =>
           have HF:Hid (((k==k') && (od==od') && (po==po') && (sk==sk') && (fr==fr') && (to==to') && (q==q') && decide (L=L') && decide (T=T') && decide (M=M'))=false):=hid (by rw [h0,h1,h2,h3,h4,h5,h6,h7,h8,h9];simp)
           obtain⟨a0,a1,a2,a3,a4,a5,a6,a7,a8,a9,b0,b1,b2,b3,b4,b5,b6,b7,b8,b9⟩:=HC.out W2 (Below.refl _ _)
           go_enter Tryz.func157,Tryz.ntmps157
           go_wp2_with fail
           rw [HW.out]
           have hc0:=HL.out W2 (Below.refl _ _)
           rw [h7] at hc0
           refine hc0.mono ?_
           rintro e w0 ⟨rfl,hb0⟩
           have HB0:Hid (Below W2.heap.size W2 w0):=hid (hb0)
           clear hc0 hb0 a0 a1 a2 a3 a4 a5 a6 a7 a8 a9 b0 b1 b2 b3 b4 b5 b6 b7 b8 b9
           obtain⟨a0,a1,a2,a3,a4,a5,a6,a7,a8,a9,b0,b1,b2,b3,b4,b5,b6,b7,b8,b9⟩:=HC.out w0 HB0.out
           go_wp2_with fail
           have hc1:=HT.out w0 HB0.out
           rw [h8] at hc1
           refine hc1.mono ?_
           rintro e w1 ⟨rfl,hb1⟩
           have HB1:Hid (Below W2.heap.size W2 w1):=hid (HB0.out.trans (hb1.mono HB0.out.size))
           clear hc1 hb1 a0 a1 a2 a3 a4 a5 a6 a7 a8 a9 b0 b1 b2 b3 b4 b5 b6 b7 b8 b9
           obtain⟨a0,a1,a2,a3,a4,a5,a6,a7,a8,a9,b0,b1,b2,b3,b4,b5,b6,b7,b8,b9⟩:=HC.out w1 HB1.out
           go_wp2_with fail
           have hc2:=HM.out w1 HB1.out
           rw [h9] at hc2
           refine hc2.mono ?_
           rintro e w2 ⟨rfl,hb2⟩
           have HB2:Hid (Below W2.heap.size W2 w2):=hid (HB1.out.trans (hb2.mono HB1.out.size))
           clear hc2 hb2 a0 a1 a2 a3 a4 a5 a6 a7 a8 a9 b0 b1 b2 b3 b4 b5 b6 b7 b8 b9
           obtain⟨a0,a1,a2,a3,a4,a5,a6,a7,a8,a9,b0,b1,b2,b3,b4,b5,b6,b7,b8,b9⟩:=HC.out w2 HB2.out
           go_wp2_with fail
           go_ret
           exact⟨by first | (rw [HF.out];rfl) | simp,HB.out.trans (HB2.out.mono HB.out.size)⟩
          | true =>
           have HF:Hid (((k==k') && (od==od') && (po==po') && (sk==sk') && (fr==fr') && (to==to') && (q==q') && decide (L=L') && decide (T=T') && decide (M=M'))=true):=hid (by rw [h0,h1,h2,h3,h4,h5,h6,h7,h8,h9];rfl)
           obtain⟨a0,a1,a2,a3,a4,a5,a6,a7,a8,a9,b0,b1,b2,b3,b4,b5,b6,b7,b8,b9⟩:=HC.out W2 (Below.refl _ _)
           go_enter Tryz.func157,Tryz.ntmps157
           go_wp2_with fail
           rw [HW.out]
           have hc0:=HL.out W2 (Below.refl _ _)
           rw [h7] at hc0
           refine hc0.mono ?_
           rintro e w0 ⟨rfl,hb0⟩
           have HB0:Hid (Below W2.heap.size W2 w0):=hid (hb0)
           clear hc0 hb0 a0 a1 a2 a3 a4 a5 a6 a7 a8 a9 b0 b1 b2 b3 b4 b5 b6 b7 b8 b9
           obtain⟨a0,a1,a2,a3,a4,a5,a6,a7,a8,a9,b0,b1,b2,b3,b4,b5,b6,b7,b8,b9⟩:=HC.out w0 HB0.out
           go_wp2_with fail
           have hc1:=HT.out w0 HB0.out
           rw [h8] at hc1
           refine hc1.mono ?_
           rintro e w1 ⟨rfl,hb1⟩
           have HB1:Hid (Below W2.heap.size W2 w1):=hid (HB0.out.trans (hb1.mono HB0.out.size))
           clear hc1 hb1 a0 a1 a2 a3 a4 a5 a6 a7 a8 a9 b0 b1 b2 b3 b4 b5 b6 b7 b8 b9
           obtain⟨a0,a1,a2,a3,a4,a5,a6,a7,a8,a9,b0,b1,b2,b3,b4,b5,b6,b7,b8,b9⟩:=HC.out w1 HB1.out
           go_wp2_with fail
           have hc2:=HM.out w1 HB1.out
           rw [h9] at hc2
           refine hc2.mono ?_
           rintro e w2 ⟨rfl,hb2⟩
           have HB2:Hid (Below W2.heap.size W2 w2):=hid (HB1.out.trans (hb2.mono HB1.out.size))
           clear hc2 hb2 a0 a1 a2 a3 a4 a5 a6 a7 a8 a9 b0 b1 b2 b3 b4 b5 b6 b7 b8 b9
           obtain⟨a0,a1,a2,a3,a4,a5,a6,a7,a8,a9,b0,b1,b2,b3,b4,b5,b6,b7,b8,b9⟩:=HC.out w2 HB2.out
           go_wp2_with fail
           go_ret
           exact⟨by first | (rw [HF.out];rfl) | simp,HB.out.trans (HB2.out.mono HB.out.size)⟩
end Go.Proofs.YtfdgnniicjdjdaaGreatDoor
