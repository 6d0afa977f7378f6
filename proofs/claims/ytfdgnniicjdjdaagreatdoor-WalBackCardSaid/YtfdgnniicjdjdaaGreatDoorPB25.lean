import Derived.Test.YtfdgnniicjdjdaaGreatDoorPB24
import Derived.Deep.Fields
import Derived.Test.YtfdgnniicjdjdaaGreatDoorPB20
import Derived.Test.YtfdgnniicjdjdaaGreatDoorPB08
namespace Go.Proofs.YtfdgnniicjdjdaaGreatDoor
open Go.Lib (hid)
open Go.RowKit Go.ChangeShapes Go.WideShapes Go.Deep
set_option linter.unusedVariables false
set_option maxRecDepth 10000
structure Item where
 k:Nat
 x:Nat
 n:Int
 p:Option Addr
 m:Nat
 c:Nat
 L:List Nat
instance:Inhabited Item:=⟨⟨0,0,0,none,0,0,[]⟩⟩
section
variable {H:Type} {enc:TypeId × Value→H} {P:Program} {w:World} {base:Nat} {spare:Nat→Bool} {held:Bool}
end
end Go.Proofs.YtfdgnniicjdjdaaGreatDoor
namespace Go.Proofs.YtfdgnniicjdjdaaGreatDoor
open Go.Lib (hid)
open Go.RowKit Go.ChangeShapes Go.WideShapes
set_option linter.unusedVariables false
set_option maxRecDepth 10000
def Few (len:Nat) (its:Nat→Item):Prop:=len≤30∧∀ i,i<len→(its i).m≤300
def Item.val (it:Item):Value:=.agg #[.int .u8 ((it.k:Nat):Int),.int .u64 ((it.x:Nat):Int),.int .i64 it.n,.slice it.p it.m it.c]
def told (it:Item):List Nat × Int :=
 if it.k % 5=0 then (if 1≤it.n∧it.n≤8∧it.x<256 ^ it.n.toNat then (le it.x it.n.toNat,0) else ([],1))
 else if it.k % 5=1 then (le it.x 8,0)
 else if it.k % 5=2 then ([bit (it.x % 2==1)],0)
 else if it.k % 5=3 then (le it.L.length 2++it.L,0)
 else (it.L,0)
theorem takeR_app (K M:List Nat):z2d (0,K++M) K.length=((0,M),K):=by
 unfold z2d
 rw [if_pos rfl,if_neg (by simp),List.drop_left,List.take_left]
theorem numR_le (x:Nat) (n:Nat) (M:List Nat) (h1:1≤n) (h8:n≤8) (hx:x<256 ^ n):numR (0,le x n++M) n=((0,M),x):=by
 unfold numR
 rw [if_pos (by omega),Int.toNat_natCast]
 have:=takeR_app (le x n) M
 rw [z0m] at this
 rw [this]
 show ((0,M),un (le x n))=_
 rw [q2l,Nat.mod_eq_of_lt hx]
theorem boolR_bit (b:Bool) (M:List Nat):z9w (0,[bit b]++M)=((0,M),b):=by
 have h:numR (0,[bit b]++M) 1=((0,M),bit b):=by
  cases b
  · exact numR_le 0 1 M (by omega) (by omega) (by omega)
  · exact numR_le 1 1 M (by omega) (by omega) (by omega)
 unfold z9w
 rw [h]
 cases b <;> rfl
theorem z7j (x n:Nat) (w:World) (hx:x<18446744073709551616) (hn:n≤8) :
 Calls Tryz.prog 87 #[.int .u64 (x:Int),.int .i64 n] w (z3c w n (le x n)):=by
 have HO:=hid (own_none w)
 have HB:Hid (Below w.heap.size w (w.alloc (.cells #[] 5))):=hid ((Below.refl _ _).alloc (Nat.le_refl _) _)
 go_enter Tryz.func87,Tryz.ntmps87
 go_wp2_with fail
 go_loopw [0,5,6] (fun y v i wr=>∃ (j:Nat) (p:Option Addr) (c:Nat),j≤n∧i=.int .i64 j∧y=.int .u64 ((x / 256 ^ j:Nat):Int)∧v=.slice p j c∧Row wr (.slice p j c) j (le x j)∧Below w.heap.size w wr∧∀ k,(Value.slice p j c).ownBlock=some k→w.heap.size≤k) (fun _ _ i _=>n-(intOf i).toNat)
 case atStart=>exact⟨0,_,_,Nat.zero_le _,rfl,by simp,rfl,HO.out,HB.out,fun k hk=>by simp [Value.ownBlock] at hk;omega⟩
 case round =>
  obtain⟨j,p,c,hj,rfl,rfl,rfl,hr,hb,ho⟩:=hrel
  have HR:=hid hr
  have HBB:=hid hb
  have HOO:=hid ho
  clear hr hb ho
  have hlt2:x / 256 ^ j<18446744073709551616:=Nat.lt_of_le_of_lt (Nat.div_le_self _ _) hx
  by_cases hlt:j<n
  · have HN:Hid (x / 256 ^ (j+1)=x / 256 ^ j / 256):=hid (by rw [Nat.pow_succ,Nat.div_div_eq_div_mul])
    have HS:=hid (le_snoc j x)
    generalize hy:x / 256 ^ (j+1)=z at *
    have HY:=hid hy
    clear hy
    generalize x / 256 ^ j=y at *
    have HRA:Hid (Row (wr.alloc (.cells #[.int .u8 ((y:Int) % 256)] 5)) (.slice p j c) j (le x j)):=hid (HR.out.chg ((Chg.refl (fun _=>False) _).alloc _) fun _ _ h=>h)
    have HSA:Hid (Sl (wr.alloc (.cells #[.int .u8 ((y:Int) % 256)] 5)) (some ⟨wr.heap.size,0,none⟩) 1 1 [y % 256]):=hid (by have:=q1i (y % 256) (by omega) wr;rw [show (((y % 256:Nat):Int))=(y:Int) % 256 by omega] at this;exact this)
    go_wp2_with (at_builtin;refine z1z rfl _ _ rfl _ _ (le x j) rfl HRA.out _ _ _ [y % 256] rfl HSA.out (by omega) ?_)
    intro v' w' hr hc hk
    rw [← HS.out] at hr
    obtain⟨p',c',rfl,_⟩:=hr.sl
    have HF:Hid (Row w' (.slice p' (j+1) c') (j+1) (le x (j+1))∧Below w.heap.size w w'∧∀ k,(Value.slice p' (j+1) c').ownBlock=some k→w.heap.size≤k):=hid ⟨hr,hc.below (HBB.out.alloc HBB.out.size _) (Nat.le_trans HBB.out.size (by simp)) HOO.out,fun k hk'=>by
     rcases hk k hk' with h | h
     · exact HOO.out k h
     · have:=HBB.out.size;omega⟩
    clear hr hc hk
    go_wp2_with fail
    go_roundw
    case rel=>exact⟨j+1,p',c',by omega,by go_num,by rw [HY.out,HN.out];congr 1,rfl,HF.out.1,HF.out.2.1,HF.out.2.2⟩
    case measure=>simp [intOf];omega
  · obtain rfl:j=n:=by omega
    go_wp2_with fail
    go_ret
    exact⟨_,rfl,HR.out,HBB.out,HOO.out⟩
theorem rint_any (x:Nat) (w:World) (hx:x<18446744073709551616) :
 Calls Tryz.prog 91 #[.int .i64 (sgn x)] w (z3c w 8 (le x 8)):=by
 have HN:=hid (z7j x 8 w hx (Nat.le_refl _))
 have HS:=hid (wrap_sgn x hx)
 go_enter Tryz.func91,Tryz.ntmps91
 go_wp2_with fail
 rw [HS.out]
 refine HN.out.mono ?_
 rintro e w1 ⟨v,rfl,h1,h2,h3⟩
 have HF:Hid (∃ v',v'=v∧Row w1 v' 8 (le x 8)∧Below w.heap.size w w1∧∀ k,v'.ownBlock=some k→w.heap.size≤k):=hid ⟨v,rfl,h1,h2,h3⟩
 clear h1 h2 h3
 go_wp2_with fail
 go_ret
 obtain⟨v',rfl,h1,h2,h3⟩:=HF.out
 exact⟨_,rfl,h1,h2,h3⟩
theorem rbool_any (b:Bool) (w:World) :
 Calls Tryz.prog 90 #[.bool b] w fun e w'=>∃ q d,e=.returned (.slice q 1 d)∧Sl w' q 1 d [bit b]∧Below w.heap.size w w':=by
 cases b with
 | true =>
  have HS:=hid (q1i 1 (by omega) w)
  have HB:Hid (Below w.heap.size w (w.alloc (.cells #[.int .u8 1] 5))):=hid ((Below.refl _ _).alloc (Nat.le_refl _) _)
  go_enter Tryz.func90,Tryz.ntmps90
  go_wp2_with fail
  go_ret
  exact⟨_,_,rfl,HS.out,HB.out⟩
 | false =>
  have HS:=hid (q1i 0 (by omega) w)
  have HB:Hid (Below w.heap.size w (w.alloc (.cells #[.int .u8 0] 5))):=hid ((Below.refl _ _).alloc (Nat.le_refl _) _)
  go_enter Tryz.func90,Tryz.ntmps90
  go_wp2_with fail
  go_ret
  exact⟨_,_,rfl,HS.out,HB.out⟩
theorem rbytes_any (p:Option Addr) (m c:Nat) (L:List Nat) (w:World) (hs:Sl w p m c L) (hm:m≤65535) :
 Calls Tryz.prog 88 #[.slice p m c] w (z3c w (2+m) (le m 2++L)):=by
 have HN:=hid (z7j m 2 w (by omega) (by omega))
 have HS:=hid hs
 clear hs
 go_enter Tryz.func88,Tryz.ntmps88
 go_wp2_with fail
 refine HN.out.mono ?_
 rintro e w1 ⟨v,rfl,h1,h2,h3⟩
 have HR:=hid h1
 have HB:=hid h2
 have HO:=hid h3
 have HS1:=hid (HS.out.later h2)
 obtain⟨pv,cv,rfl,_⟩:=h1.sl
 clear h1 h2 h3
 go_wp2_with (at_builtin;refine z1z rfl _ _ rfl _ _ (le m 2) rfl HR.out _ _ _ L rfl HS1.out (by omega) ?_)
 intro v' w' hr hc hk
 obtain⟨p',c',rfl,_⟩:=hr.sl
 have HF:Hid (Row w' (.slice p' (2+m) c') (2+m) (le m 2++L)∧Below w.heap.size w w'∧∀ k,(Value.slice p' (2+m) c').ownBlock=some k→w.heap.size≤k):=hid ⟨hr,hc.below HB.out HB.out.size HO.out,fun k hk'=>by
  rcases hk k hk' with h | h
  · exact HO.out k h
  · exact Nat.le_trans HB.out.size h⟩
 clear hr hc hk
 go_wp2_with fail
 go_ret
 exact⟨_,rfl,HF.out⟩
theorem bytes_sl {w:World} {p:Option Addr} {n c:Nat} {L:List Nat} (h:Sl w p n c L):q3c w p n fun j=>L.getD j 0:=by
 refine⟨fun j _=>getD_lt h.lt j,fun h0=>?_⟩
 obtain⟨b,off,hp,hlt,hc⟩:=h.blk h0
 exact⟨b,off,hp,hlt,hc⟩
theorem sum_sl (p:Option Addr) (n c:Nat) (L:List Nat) (w:World) (h:Sl w p n c L) (hbig:n≤1000000) (hT:Tab w) :
 Calls Tryz.prog 109 #[.slice p n c] w fun e w'=>e=.returned (.int .u32 ((sumL L:Nat):Int))∧w=w':=by
 have:=sum_any p n c _ w (bytes_sl h) hbig hT
 rw [← h.len] at this ⊢
 exact this
theorem same_sl (p:Option Addr) (n c:Nat) (L:List Nat) (s:Int) (w:World) (h:Sl w p n c L) (hbig:n≤1000000) (hT:Tab w) :
 Calls Tryz.prog 155 #[.slice p n c,.int .u32 s] w fun e w'=>e=.returned (.bool (((sumL L:Nat):Int)==s))∧w=w':=by
 have:=crcsame_any p n c _ s w (bytes_sl h) hbig hT
 rw [← h.len] at this ⊢
 exact this
def q2e (W:World) (L:List Nat) (x:Int) (e:Ending) (w':World):Prop:=∃ p c,e=.returned (.tuple #[.slice p L.length c,.int .i64 x])∧Sl w' p L.length c L∧Below W.heap.size W w'∧(∀ a,p=some a→W.heap.size≤a.block)∧c≤maxLen
def putL (P:List Nat):List Nat:=if good P=true then frm P else []
def putE (P:List Nat):Int:=if P.length=0 then 1 else if 512<P.length then 7 else 0
theorem putE_good {P:List Nat} (h:good P=true):putL P=frm P∧putE P=0:=by
 have:=(z6p P).1 h
 exact⟨if_pos h,by unfold putE;rw [if_neg (by omega),if_neg (by omega)]⟩
theorem putE_none {P:List Nat} (h:P.length=0):putL P=[]∧putE P=1:=by
 refine⟨if_neg fun h'=>?_,if_pos h⟩
 have:=(z6p P).1 h'
 omega
theorem putE_long {P:List Nat} (h:512<P.length):putL P=[]∧putE P=7:=by
 refine⟨if_neg fun h'=>?_,by unfold putE;rw [if_neg (by omega),if_pos h]⟩
 have:=(z6p P).1 h'
 omega
theorem fgives_nil0 (w:World) (x:Int):q2e w [] x (.returned (.tuple #[.slice none 0 0,.int .i64 x])) w :=
 ⟨none,0,rfl,Sl.none,Below.refl _ _,(fun a h=>by cases h),Nat.zero_le _⟩
theorem raw_step (most:Int) (L M:List Nat) (h:(L.length:Int)+(M.length:Int)≤most):rawW most (0,L) M=(0,L++M):=by
 unfold rawW
 rw [if_pos rfl,if_neg (show ¬ most<((L.length:Nat):Int)+(M.length:Int) by omega)]
theorem num_step2 (most:Int) (L:List Nat) (x n:Nat) (h1:1≤n) (h8:n≤8) (hx:x<256 ^ n) (h:(L.length:Int)+(n:Int)≤most):numW most (0,L) x n=(0,L++le x n):=by
 unfold numW
 rw [Int.toNat_natCast,if_pos ⟨by omega,by omega,hx⟩,raw_step _ _ _ (by rw [z0m];exact h)]
theorem done_max (W w:World) (B:Nat) (most:Int) (L:List Nat) (h:WrOk W w B most (0,L)) (hl:L.length≤100000):Calls Tryz.prog 111 #[.pointer (some ⟨B,0,none⟩)] w fun e w'=>q2e W L 0 e w':=by
 obtain⟨v,hw,hB,hv,hb⟩:=h
 refine (q1a B v most (0,L) w hw hl).mono ?_
 rintro e w' ⟨h1,h2⟩
 rw [if_pos rfl] at h2
 obtain⟨v,rfl,hr,ho⟩:=h2
 obtain⟨q,d,rfl,hm,hs,hq⟩:=hr.sl
 exact⟨_,_,rfl,hs,hb.trans (h1.mono hb.size),fun a ha=>Nat.le_trans hb.size (ho _ (hq a ha)),hm⟩
theorem fput_any (p:Option Addr) (n c:Nat) (P:List Nat) (w:World) (hS:Sl w p n c P) (hn:n≤1000000) (hT:Tab w) :
 Calls Tryz.prog 65 #[.slice p n c] w (q2e w (putL P) (putE P)):=by
 have HS:=hid hS
 have HT:=hid hT
 have hl:=hS.len
 clear hS hT
 by_cases h0:n=0
 · subst h0
   have he:=putE_none hl
   rw [he.1,he.2]
   have HG:=hid (fgives_nil0 w 1)
   clear he hl
   go_enter Tryz.func65,Tryz.ntmps65
   go_wp2_with fail
   go_ret2
   exact HG.out
 · by_cases h5:512<n
   · have he:=putE_long (P:=P) (by omega)
     rw [he.1,he.2]
     have HG:=hid (fgives_nil0 w 7)
     clear he hl
     go_enter Tryz.func65,Tryz.ntmps65
     go_wp2_with fail
     go_ret2
     exact HG.out
   · have hgood:good P=true:=(z6p P).2 (by omega)
     have he:=putE_good hgood
     rw [he.1,he.2]
     have hs1:q1q (n:Int)=6+(n:Int):=if_neg (by omega)
     have hlim:lim (6+(n:Int))=6+(n:Int):=if_neg (by omega)
     have HL:=hid hl
     have hx4:sumL P<4294967296:=sumL_lt P
     have N1:=hid (num_step2 (6+(n:Int)) [] n 2 (by omega) (by omega) (by omega) (by simp;omega))
     have N2:=hid (num_step2 (6+(n:Int)) (le n 2) (sumL P) 4 (by omega) (by omega) (by omega) (by rw [z0m];omega))
     have N3:=hid (raw_step (6+(n:Int)) (le n 2++le (sumL P) 4) P (by rw [List.length_append,z0m,z0m,hl];omega))
     have hfr:Hid (le n 2++le (sumL P) 4++P=frm P):=hid (by unfold frm;rw [hl,List.append_assoc])
     have hfl:Hid ((frm P).length≤100000):=hid (by rw [z9t];omega)
     clear he hl hgood
     go_enter Tryz.func65,Tryz.ntmps65
     go_wp2_with fail
     refine (z6d _ _).mono ?_
     rintro e w1 ⟨rfl,rfl⟩
     rw [hs1]
     go_wp2_with fail
     refine (z6r w w _ (Below.refl _ _)).mono ?_
     rintro e w1 ⟨B,rfl,hk⟩
     rw [hlim] at hk
     have HK:=hid hk
     clear hk
     go_wp2_with fail
     refine (HK.out.step (T:=(0,le n 2)) fun v hv=>?_).mono ?_
     · have:=q2o B v (6+(n:Int)) (0,[]) n 2 _ hv (by omega) (by omega) (by simp)
       rw [show (2:Int)=((2:Nat):Int) by rfl,N1.out] at this
       exact this
     rintro e w2 ⟨rfl,hk⟩
     have HK2:=hid hk
     have HS2:=hid (HS.out.later hk.below)
     have HT2:=hid (HT.out.later hk.below HT.out.lt)
     clear hk HK
     go_wp2_with fail
     refine (sum_sl p n c P _ HS2.out hn HT2.out).mono ?_
     rintro e w3 ⟨rfl,rfl⟩
     go_wp2_with fail
     refine (HK2.out.step (T:=(0,le n 2++le (sumL P) 4)) fun v hv=>?_).mono ?_
     · have:=q2o B v (6+(n:Int)) (0,le n 2) (sumL P) 4 _ hv (by omega) (by omega) (by rw [z0m];omega)
       rw [show (4:Int)=((4:Nat):Int) by rfl,N2.out] at this
       exact this
     rintro e w4 ⟨rfl,hk⟩
     have HK4:=hid hk
     have HS4:=hid (HS.out.later hk.below)
     clear hk HK2 HS2
     go_wp2_with fail
     refine (HK4.out.step (T:=(0,frm P)) fun v hv=>?_).mono ?_
     · have:=z8b B v (6+(n:Int)) (0,le n 2++le (sumL P) 4) _ hv p n c P HS4.out (by omega) (by omega) (by rw [List.length_append,z0m,z0m];omega)
       rw [N3.out,hfr.out] at this
       exact this
     rintro e w5 ⟨rfl,hk⟩
     have HK5:=hid hk
     clear hk HK4 HS4
     go_wp2_with fail
     refine (done_max w _ B _ _ HK5.out hfl.out).mono ?_
     rintro e w6 ⟨p',c',rfl,h1,h2,h3,h4⟩
     have HF:Hid (q2e w (frm P) 0 (.returned (.tuple #[.slice p' (frm P).length c',.int .i64 0])) w6):=hid ⟨p',c',rfl,h1,h2,h3,h4⟩
     clear h1 h2 h3 h4
     generalize (frm P).length=m at *
     go_wp2_with fail
     go_ret2
     exact HF.out
def q2u (W:World) (q:Option Addr) (L:List Nat) (z:Nat) (x:Int) (e:Ending) (w':World):Prop:=∃ p c,e=.returned (.tuple #[.slice p L.length c,.int .i64 (z:Nat),.int .i64 x])∧Sl w' p L.length c L∧Below W.heap.size W w'∧c≤maxLen∧∀ a,p=some a→W.heap.size≤a.block∨∃ a',q=some a'∧a.block=a'.block
def q2g (B:List Nat):List Nat:=if nE B=0 then nP B else []
def q0s (B:List Nat):Nat:=if nE B=0 then 6+nN B else 0
theorem z8w {B:List Nat} (h:nE B≠0):q2g B=[]∧q0s B=0:=⟨if_neg h,if_neg h⟩
theorem next_ok {B:List Nat} (h:nE B=0):q2g B=nP B∧q0s B=6+nN B:=⟨if_pos h,if_pos h⟩
theorem z6q (W w:World) {q:Option Addr} (x:Int) (h:Below W.heap.size W w):q2u W q [] 0 x (.returned (.tuple #[.slice none 0 0,.int .i64 ((0:Nat):Int),.int .i64 x])) w :=
 ⟨none,0,rfl,Sl.none,h,Nat.zero_le _,fun a h=>by cases h⟩
theorem sl_mid {w:World} {b off n c:Nat} {L:List Nat} (h:Sl w (some ⟨b,off,none⟩) n c L) (k m:Nat) (hk:k+m≤n):Sl w (some ⟨b,off+k,none⟩) m (c-k) ((L.drop k).take m):=by
 refine⟨by rw [List.length_take,List.length_drop,h.len];omega,by have:=h.cap;omega,(fun e=>by cases e),fun x hx=>h.lt x (List.mem_of_mem_drop (List.mem_of_mem_take hx)),fun h0=>⟨b,off+k,rfl,fun j hj=>?_⟩⟩
 obtain⟨b',off',hp,hc⟩:=h.cell (by omega)
 cases hp
 rw [Nat.add_assoc,hc (k+j) (by omega),List.getD,List.getD,List.getElem?_take,if_pos hj,List.getElem?_drop]
theorem numR_two (B:List Nat) (h:6≤B.length):numR (0,B.take 6) 2=((0,(B.drop 2).take 4),nN B):=by
 unfold numR
 rw [if_pos (by omega),show (2:Int).toNat=2 by rfl]
 unfold z2d
 rw [if_pos rfl,if_neg (by simp;omega)]
 unfold nN
 simp [List.take_take,List.drop_take]
theorem numR_four (B:List Nat) (h:6≤B.length):numR (0,(B.drop 2).take 4) 4=((0,[]),nS B):=by
 unfold numR
 rw [if_pos (by omega),show (4:Int).toNat=4 by rfl]
 unfold z2d
 rw [if_pos rfl,if_neg (by simp;omega)]
 unfold nS
 simp [List.take_take]
theorem nN_lt {w:World} {p:Option Addr} {n c:Nat} {B:List Nat} (h:Sl w p n c B):nN B<65536:=by
 unfold nN
 have h1:=q1o (B.take 2) fun y hy=>h.lt y (List.mem_of_mem_take hy)
 have h2:(B.take 2).length≤2:=by rw [List.length_take];omega
 exact Nat.lt_of_lt_of_le h1 (Nat.pow_le_pow_right (n:=256) (by omega) h2)
theorem nS_lt {w:World} {p:Option Addr} {n c:Nat} {B:List Nat} (h:Sl w p n c B):nS B<4294967296:=by
 unfold nS
 have h1:=q1o ((B.drop 2).take 4) fun y hy=>h.lt y (List.mem_of_mem_drop (List.mem_of_mem_take hy))
 have h2:((B.drop 2).take 4).length≤4:=by rw [List.length_take];omega
 exact Nat.lt_of_lt_of_le h1 (Nat.pow_le_pow_right (n:=256) (by omega) h2)
theorem next_any (p:Option Addr) (n c:Nat) (B:List Nat) (w:World) (hS:Sl w p n c B) (hc:c≤maxLen) (hn:n≤1000000) (hT:Tab w) :
 Calls Tryz.prog 117 #[.slice p n c] w (q2u w p (q2g B) (q0s B) (nE B)):=by
 have HS:=hid hS
 have HT:=hid hT
 have hl:=hS.len
 have hcap:=hS.cap
 have hNl:=nN_lt hS
 have hSl:=nS_lt hS
 unfold maxLen at hc
 by_cases h6:n<6
 · have he:=nE_short (B:=B) (by omega)
   have hd:=z8w (B:=B) (by rw [he];omega)
   rw [he,hd.1,hd.2]
   clear he hd hS hT hNl hSl
   go_enter Tryz.func117,Tryz.ntmps117
   go_wp2_with fail
   go_ret3
   exact z6q w w 6 (Below.refl _ _)
 · obtain⟨b,off,rfl,hlt,hcell⟩:=hS.blk (by omega)
   have HS6:Hid (Sl w (some ⟨b,off,none⟩) 6 c (B.take 6)):=hid (hS.take 6 (by omega))
   have N1:=hid (numR_two B (by omega))
   have N2:=hid (numR_four B (by omega))
   have hl60:(B.take 6).length≤90000:=by rw [List.length_take];omega
   have hl6:((B.drop 2).take 4).length≤90000:=by rw [List.length_take];omega
   have HMID:=hid (fun (w':World) (hb:Below w.heap.size w w') (hk:6+nN B≤n)=>sl_mid (hS.later hb) 6 (nN B) hk)
   have HNP:Hid ((B.drop 6).take (nN B)=nP B):=hid rfl
   clear hS hT hcell
   by_cases hf:nN B=0∨512<nN B
   · have he:=nE_form (B:=B) (by omega) hf
     have hd:=z8w (B:=B) (by rw [he];omega)
     rw [he,hd.1,hd.2]
     have hs0:q1q (nN B:Int)=0:=if_pos (by omega)
     clear he hd
     generalize nN B=k at *
     generalize nS B=s at *
     go_enter Tryz.func117,Tryz.ntmps117
     go_wp2_with fail
     refine (q0m w w _ 6 c _ HS6.out (by omega) (Below.refl _ _)).mono ?_
     rintro e w1 ⟨R,rfl,hr,_,_⟩
     have HR:=hid hr
     clear hr
     go_wp2_with fail
     refine (z8n w w1 R _ 2 HR.out hl60).mono ?_
     rw [N1.out]
     rintro e w2 ⟨rfl,hr⟩
     have HR2:=hid hr
     clear hr HR
     go_wp2_with fail
     refine (z8n w w2 R _ 4 HR2.out hl6).mono ?_
     rw [N2.out]
     rintro e w3 ⟨rfl,hr⟩
     have HB:=hid hr.below
     clear hr HR2
     go_wp2_with fail
     refine (z6d _ _).mono ?_
     rw [hs0]
     rintro e w4 ⟨rfl,rfl⟩
     go_wp2_with fail
     go_ret3
     exact z6q w _ 8 HB.out
   · have hs0:q1q (nN B:Int)=6+(nN B:Int):=if_neg (by omega)
     by_cases hsh:n<6+nN B
     · have he:=nE_less (B:=B) (by omega) hf (by omega)
       have hd:=z8w (B:=B) (by rw [he];omega)
       rw [he,hd.1,hd.2]
       clear he hd
       generalize nN B=k at *
       generalize nS B=s at *
       go_enter Tryz.func117,Tryz.ntmps117
       go_wp2_with fail
       refine (q0m w w _ 6 c _ HS6.out (by omega) (Below.refl _ _)).mono ?_
       rintro e w1 ⟨R,rfl,hr,_,_⟩
       have HR:=hid hr
       clear hr
       go_wp2_with fail
       refine (z8n w w1 R _ 2 HR.out hl60).mono ?_
       rw [N1.out]
       rintro e w2 ⟨rfl,hr⟩
       have HR2:=hid hr
       clear hr HR
       go_wp2_with fail
       refine (z8n w w2 R _ 4 HR2.out hl6).mono ?_
       rw [N2.out]
       rintro e w3 ⟨rfl,hr⟩
       have HB:=hid hr.below
       clear hr HR2
       go_wp2_with fail
       refine (z6d _ _).mono ?_
       rw [hs0]
       rintro e w4 ⟨rfl,rfl⟩
       go_wp2_with fail
       go_ret3
       exact z6q w _ 6 HB.out
     · have hk512:nN B≤512:=by omega
       by_cases hsum:sumL (nP B)=nS B
       · have he:=nE_ok (B:=B) (by omega) hf (by omega) hsum
         have hd:=next_ok he
         have hpl:=nP_len he
         rw [he,hd.1,hd.2]
         have heq:(((sumL (nP B):Nat):Int)==(nS B:Int))=true:=by rw [hsum];simp
         clear he hd hsum
         rw [HNP.out] at HMID
         generalize nP B=P at *
         generalize nN B=k at *
         generalize nS B=s at *
         go_enter Tryz.func117,Tryz.ntmps117
         go_wp2_with fail
         refine (q0m w w _ 6 c _ HS6.out (by omega) (Below.refl _ _)).mono ?_
         rintro e w1 ⟨R,rfl,hr,_,_⟩
         have HR:=hid hr
         clear hr
         go_wp2_with fail
         refine (z8n w w1 R _ 2 HR.out hl60).mono ?_
         rw [N1.out]
         rintro e w2 ⟨rfl,hr⟩
         have HR2:=hid hr
         clear hr HR
         go_wp2_with fail
         refine (z8n w w2 R _ 4 HR2.out hl6).mono ?_
         rw [N2.out]
         rintro e w3 ⟨rfl,hr⟩
         have HB:=hid hr.below
         have HM:=hid (HMID.out _ hr.below (by omega))
         have HT3:=hid (HT.out.later hr.below HT.out.lt)
         clear hr HR2
         go_wp2_with fail
         refine (z6d _ _).mono ?_
         rw [hs0]
         rintro e w4 ⟨rfl,rfl⟩
         go_wp2_with fail
         refine (same_sl _ _ _ P _ _ HM.out (by omega) HT3.out).mono ?_
         rw [heq]
         rintro e w5 ⟨rfl,rfl⟩
         go_wp2_with fail
         refine (z6f _ _ _ P _ HM.out (by omega)).mono ?_
         rintro e w6 ⟨v,rfl,hr,hb,hk6⟩
         obtain⟨p6,c6,rfl,hm6,hs6,hq6⟩:=hr.sl
         have HF:Hid (q2u w (some ⟨b,off,none⟩) P (6+k) 0 (.returned (.tuple #[.slice p6 k c6,.int .i64 (6+(k:Int)),.int .i64 0])) w6):=hid (by
          subst hpl
          exact⟨p6,c6,by simp,hs6,HB.out.trans (hb.mono HB.out.size),hm6,fun a ha=>.inl (Nat.le_trans HB.out.size (hk6 _ (hq6 a ha)))⟩)
         clear hr hb hs6 hk6 hq6
         go_wp2_with fail
         go_ret3
         exact HF.out
       · have he:=nE_sum (B:=B) (by omega) hf (by omega) hsum
         have hd:=z8w (B:=B) (by rw [he];omega)
         rw [he,hd.1,hd.2]
         have heq:(((sumL (nP B):Nat):Int)==(nS B:Int))=false:=by simpa using fun h=>hsum (by exact_mod_cast h)
         clear he hd hsum
         rw [HNP.out] at HMID
         generalize nP B=P at *
         generalize nN B=k at *
         generalize nS B=s at *
         go_enter Tryz.func117,Tryz.ntmps117
         go_wp2_with fail
         refine (q0m w w _ 6 c _ HS6.out (by omega) (Below.refl _ _)).mono ?_
         rintro e w1 ⟨R,rfl,hr,_,_⟩
         have HR:=hid hr
         clear hr
         go_wp2_with fail
         refine (z8n w w1 R _ 2 HR.out hl60).mono ?_
         rw [N1.out]
         rintro e w2 ⟨rfl,hr⟩
         have HR2:=hid hr
         clear hr HR
         go_wp2_with fail
         refine (z8n w w2 R _ 4 HR2.out hl6).mono ?_
         rw [N2.out]
         rintro e w3 ⟨rfl,hr⟩
         have HB:=hid hr.below
         have HM:=hid (HMID.out _ hr.below (by omega))
         have HT3:=hid (HT.out.later hr.below HT.out.lt)
         clear hr HR2
         go_wp2_with fail
         refine (z6d _ _).mono ?_
         rw [hs0]
         rintro e w4 ⟨rfl,rfl⟩
         go_wp2_with fail
         refine (same_sl _ _ _ P _ _ HM.out (by omega) HT3.out).mono ?_
         rw [heq]
         rintro e w5 ⟨rfl,rfl⟩
         go_wp2_with fail
         go_ret3
         exact z6q w _ 9 HB.out
end Go.Proofs.YtfdgnniicjdjdaaGreatDoor
