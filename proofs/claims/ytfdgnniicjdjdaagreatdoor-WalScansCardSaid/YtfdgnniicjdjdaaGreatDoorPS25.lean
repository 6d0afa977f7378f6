import Derived.Test.YtfdgnniicjdjdaaGreatDoorPS24
import Derived.Deep.Fields
import Derived.Test.YtfdgnniicjdjdaaGreatDoorPS20
import Derived.Test.YtfdgnniicjdjdaaGreatDoorPS08
namespace Go.Proofs.YtfdgnniicjdjdaaGreatDoor
open Go.Lib (hid)
open Go.RowKit Go.ChangeShapes Go.WideShapes Go.Deep
set_option linter.unusedVariables false
set_option maxRecDepth 10000
structure Item where
 k:Nat
 x:Nat
 n:Int
 p:Option Addr
 m:Nat
 c:Nat
 L:List Nat
instance:Inhabited Item:=⟨⟨0,0,0,none,0,0,[]⟩⟩
section
variable {H:Type} {enc:TypeId × Value→H} {P:Program} {w:World} {base:Nat} {spare:Nat→Bool} {held:Bool}
end
end Go.Proofs.YtfdgnniicjdjdaaGreatDoor
namespace Go.Proofs.YtfdgnniicjdjdaaGreatDoor
open Go.Lib (hid)
open Go.RowKit Go.ChangeShapes Go.WideShapes
set_option linter.unusedVariables false
set_option maxRecDepth 10000
def Item.val (it:Item):Value:=.agg #[.int .u8 ((it.k:Nat):Int),.int .u64 ((it.x:Nat):Int),.int .i64 it.n,.slice it.p it.m it.c]
def told (it:Item):List Nat × Int :=
 if it.k % 5=0 then (if 1≤it.n∧it.n≤8∧it.x<256 ^ it.n.toNat then (le it.x it.n.toNat,0) else ([],1))
 else if it.k % 5=1 then (le it.x 8,0)
 else if it.k % 5=2 then ([bit (it.x % 2==1)],0)
 else if it.k % 5=3 then (le it.L.length 2++it.L,0)
 else (it.L,0)
theorem takeR_app (K M:List Nat):z1i (0,K++M) K.length=((0,M),K):=by
 unfold z1i
 rw [if_pos rfl,if_neg (by simp),List.drop_left,List.take_left]
theorem numR_le (x:Nat) (n:Nat) (M:List Nat) (h1:1≤n) (h8:n≤8) (hx:x<256 ^ n):numR (0,le x n++M) n=((0,M),x):=by
 unfold numR
 rw [if_pos (by omega),Int.toNat_natCast]
 have:=takeR_app (le x n) M
 rw [z0r] at this
 rw [this]
 show ((0,M),un (le x n))=_
 rw [un_le,Nat.mod_eq_of_lt hx]
theorem q0v {w:World} {p:Option Addr} {n c:Nat} {L:List Nat} (h:Sl w p n c L):q2u w p n fun j=>L.getD j 0:=by
 refine⟨fun j _=>z9q h.lt j,fun h0=>?_⟩
 obtain⟨b,off,hp,hlt,hc⟩:=h.blk h0
 exact⟨b,off,hp,hlt,hc⟩
theorem sum_sl (p:Option Addr) (n c:Nat) (L:List Nat) (w:World) (h:Sl w p n c L) (hbig:n≤1000000) (hT:Tab w) :
 Calls Tryz.prog 109 #[.slice p n c] w fun e w'=>e=.returned (.int .u32 ((sumL L:Nat):Int))∧w=w':=by
 have:=sum_any p n c _ w (q0v h) hbig hT
 rw [← h.len] at this ⊢
 exact this
theorem same_sl (p:Option Addr) (n c:Nat) (L:List Nat) (s:Int) (w:World) (h:Sl w p n c L) (hbig:n≤1000000) (hT:Tab w) :
 Calls Tryz.prog 155 #[.slice p n c,.int .u32 s] w fun e w'=>e=.returned (.bool (((sumL L:Nat):Int)==s))∧w=w':=by
 have:=crcsame_any p n c _ s w (q0v h) hbig hT
 rw [← h.len] at this ⊢
 exact this
theorem rsum_sl (p:Option Addr) (n c:Nat) (L:List Nat) (w:World) (h:Sl w p n c L) (hbig:n≤1000000) :
 Calls Tryz.prog 119 #[.slice p n c] w fun e w'=>e=.returned (.int .u32 ((sumL L:Nat):Int))∧w=w':=by
 have:=rsum_any p n c _ w (q0v h) hbig
 rw [← h.len] at this ⊢
 exact this
def q2f (W:World) (L:List Nat) (x:Int) (e:Ending) (w':World):Prop:=∃ p c,e=.returned (.tuple #[.slice p L.length c,.int .i64 x])∧Sl w' p L.length c L∧Below W.heap.size W w'∧(∀ a,p=some a→W.heap.size≤a.block)∧c≤maxLen
def putL (P:List Nat):List Nat:=if good P=true then frm P else []
def putE (P:List Nat):Int:=if P.length=0 then 1 else if 512<P.length then 7 else 0
theorem putE_good {P:List Nat} (h:good P=true):putL P=frm P∧putE P=0:=by
 have:=(z7r P).1 h
 exact⟨if_pos h,by unfold putE;rw [if_neg (by omega),if_neg (by omega)]⟩
theorem putE_none {P:List Nat} (h:P.length=0):putL P=[]∧putE P=1:=by
 refine⟨if_neg fun h'=>?_,if_pos h⟩
 have:=(z7r P).1 h'
 omega
theorem putE_long {P:List Nat} (h:512<P.length):putL P=[]∧putE P=7:=by
 refine⟨if_neg fun h'=>?_,by unfold putE;rw [if_neg (by omega),if_pos h]⟩
 have:=(z7r P).1 h'
 omega
theorem fgives_nil0 (w:World) (x:Int):q2f w [] x (.returned (.tuple #[.slice none 0 0,.int .i64 x])) w :=
 ⟨none,0,rfl,Sl.none,Below.refl _ _,(fun a h=>by cases h),Nat.zero_le _⟩
theorem raw_step (most:Int) (L M:List Nat) (h:(L.length:Int)+(M.length:Int)≤most):rawW most (0,L) M=(0,L++M):=by
 unfold rawW
 rw [if_pos rfl,if_neg (show ¬ most<((L.length:Nat):Int)+(M.length:Int) by omega)]
theorem num_step2 (most:Int) (L:List Nat) (x n:Nat) (h1:1≤n) (h8:n≤8) (hx:x<256 ^ n) (h:(L.length:Int)+(n:Int)≤most):numW most (0,L) x n=(0,L++le x n):=by
 unfold numW
 rw [Int.toNat_natCast,if_pos ⟨by omega,by omega,hx⟩,raw_step _ _ _ (by rw [z0r];exact h)]
theorem done_max (W w:World) (B:Nat) (most:Int) (L:List Nat) (h:WrOk W w B most (0,L)) (hl:L.length≤100000):Calls Tryz.prog 111 #[.pointer (some ⟨B,0,none⟩)] w fun e w'=>q2f W L 0 e w':=by
 obtain⟨v,hw,hB,hv,hb⟩:=h
 refine (q0u B v most (0,L) w hw hl).mono ?_
 rintro e w' ⟨h1,h2⟩
 rw [if_pos rfl] at h2
 obtain⟨v,rfl,hr,ho⟩:=h2
 obtain⟨q,d,rfl,hm,hs,hq⟩:=hr.sl
 exact⟨_,_,rfl,hs,hb.trans (h1.mono hb.size),fun a ha=>Nat.le_trans hb.size (ho _ (hq a ha)),hm⟩
theorem fput_any (p:Option Addr) (n c:Nat) (P:List Nat) (w:World) (hS:Sl w p n c P) (hn:n≤1000000) (hT:Tab w) :
 Calls Tryz.prog 65 #[.slice p n c] w (q2f w (putL P) (putE P)):=by
 have HS:=hid hS
 have HT:=hid hT
 have hl:=hS.len
 clear hS hT
 by_cases h0:n=0
 · subst h0
   have he:=putE_none hl
   rw [he.1,he.2]
   have HG:=hid (fgives_nil0 w 1)
   clear he hl
   go_enter Tryz.func65,Tryz.ntmps65
   go_wp2_with fail
   go_ret2
   exact HG.out
 · by_cases h5:512<n
   · have he:=putE_long (P:=P) (by omega)
     rw [he.1,he.2]
     have HG:=hid (fgives_nil0 w 7)
     clear he hl
     go_enter Tryz.func65,Tryz.ntmps65
     go_wp2_with fail
     go_ret2
     exact HG.out
   · have hgood:good P=true:=(z7r P).2 (by omega)
     have he:=putE_good hgood
     rw [he.1,he.2]
     have hs1:q1m (n:Int)=6+(n:Int):=if_neg (by omega)
     have hlim:lim (6+(n:Int))=6+(n:Int):=if_neg (by omega)
     have HL:=hid hl
     have hx4:sumL P<4294967296:=sumL_lt P
     have N1:=hid (num_step2 (6+(n:Int)) [] n 2 (by omega) (by omega) (by omega) (by simp;omega))
     have N2:=hid (num_step2 (6+(n:Int)) (le n 2) (sumL P) 4 (by omega) (by omega) (by omega) (by rw [z0r];omega))
     have N3:=hid (raw_step (6+(n:Int)) (le n 2++le (sumL P) 4) P (by rw [List.length_append,z0r,z0r,hl];omega))
     have hfr:Hid (le n 2++le (sumL P) 4++P=frm P):=hid (by unfold frm;rw [hl,List.append_assoc])
     have hfl:Hid ((frm P).length≤100000):=hid (by rw [frm_len];omega)
     clear he hl hgood
     go_enter Tryz.func65,Tryz.ntmps65
     go_wp2_with fail
     refine (z6g _ _).mono ?_
     rintro e w1 ⟨rfl,rfl⟩
     rw [hs1]
     go_wp2_with fail
     refine (z6v w w _ (Below.refl _ _)).mono ?_
     rintro e w1 ⟨B,rfl,hk⟩
     rw [hlim] at hk
     have HK:=hid hk
     clear hk
     go_wp2_with fail
     refine (HK.out.step (T:=(0,le n 2)) fun v hv=>?_).mono ?_
     · have:=q2o B v (6+(n:Int)) (0,[]) n 2 _ hv (by omega) (by omega) (by simp)
       rw [show (2:Int)=((2:Nat):Int) by rfl,N1.out] at this
       exact this
     rintro e w2 ⟨rfl,hk⟩
     have HK2:=hid hk
     have HS2:=hid (HS.out.later hk.below)
     have HT2:=hid (HT.out.later hk.below HT.out.lt)
     clear hk HK
     go_wp2_with fail
     refine (sum_sl p n c P _ HS2.out hn HT2.out).mono ?_
     rintro e w3 ⟨rfl,rfl⟩
     go_wp2_with fail
     refine (HK2.out.step (T:=(0,le n 2++le (sumL P) 4)) fun v hv=>?_).mono ?_
     · have:=q2o B v (6+(n:Int)) (0,le n 2) (sumL P) 4 _ hv (by omega) (by omega) (by rw [z0r];omega)
       rw [show (4:Int)=((4:Nat):Int) by rfl,N2.out] at this
       exact this
     rintro e w4 ⟨rfl,hk⟩
     have HK4:=hid hk
     have HS4:=hid (HS.out.later hk.below)
     clear hk HK2 HS2
     go_wp2_with fail
     refine (HK4.out.step (T:=(0,frm P)) fun v hv=>?_).mono ?_
     · have:=z7x B v (6+(n:Int)) (0,le n 2++le (sumL P) 4) _ hv p n c P HS4.out (by omega) (by omega) (by rw [List.length_append,z0r,z0r];omega)
       rw [N3.out,hfr.out] at this
       exact this
     rintro e w5 ⟨rfl,hk⟩
     have HK5:=hid hk
     clear hk HK4 HS4
     go_wp2_with fail
     refine (done_max w _ B _ _ HK5.out hfl.out).mono ?_
     rintro e w6 ⟨p',c',rfl,h1,h2,h3,h4⟩
     have HF:Hid (q2f w (frm P) 0 (.returned (.tuple #[.slice p' (frm P).length c',.int .i64 0])) w6):=hid ⟨p',c',rfl,h1,h2,h3,h4⟩
     clear h1 h2 h3 h4
     generalize (frm P).length=m at *
     go_wp2_with fail
     go_ret2
     exact HF.out
def q0b (W:World) (q:Option Addr) (L:List Nat) (z:Nat) (x:Int) (e:Ending) (w':World):Prop:=∃ p c,e=.returned (.tuple #[.slice p L.length c,.int .i64 (z:Nat),.int .i64 x])∧Sl w' p L.length c L∧Below W.heap.size W w'∧c≤maxLen∧∀ a,p=some a→W.heap.size≤a.block∨∃ a',q=some a'∧a.block=a'.block
def q1e (B:List Nat):List Nat:=if nE B=0 then nP B else []
def z9l (B:List Nat):Nat:=if nE B=0 then 6+nN B else 0
theorem z4o {B:List Nat} (h:nE B≠0):q1e B=[]∧z9l B=0:=⟨if_neg h,if_neg h⟩
theorem q1p {B:List Nat} (h:nE B=0):q1e B=nP B∧z9l B=6+nN B:=⟨if_pos h,if_pos h⟩
theorem z3k (W w:World) {q:Option Addr} (x:Int) (h:Below W.heap.size W w):q0b W q [] 0 x (.returned (.tuple #[.slice none 0 0,.int .i64 ((0:Nat):Int),.int .i64 x])) w :=
 ⟨none,0,rfl,Sl.none,h,Nat.zero_le _,fun a h=>by cases h⟩
theorem q1c {w:World} {b off n c:Nat} {L:List Nat} (h:Sl w (some ⟨b,off,none⟩) n c L) (k m:Nat) (hk:k+m≤n):Sl w (some ⟨b,off+k,none⟩) m (c-k) ((L.drop k).take m):=by
 refine⟨by rw [List.length_take,List.length_drop,h.len];omega,by have:=h.cap;omega,(fun e=>by cases e),fun x hx=>h.lt x (List.mem_of_mem_drop (List.mem_of_mem_take hx)),fun h0=>⟨b,off+k,rfl,fun j hj=>?_⟩⟩
 obtain⟨b',off',hp,hc⟩:=h.cell (by omega)
 cases hp
 rw [Nat.add_assoc,hc (k+j) (by omega),List.getD,List.getD,List.getElem?_take,if_pos hj,List.getElem?_drop]
theorem numR_two (B:List Nat) (h:6≤B.length):numR (0,B.take 6) 2=((0,(B.drop 2).take 4),nN B):=by
 unfold numR
 rw [if_pos (by omega),show (2:Int).toNat=2 by rfl]
 unfold z1i
 rw [if_pos rfl,if_neg (by simp;omega)]
 unfold nN
 simp [List.take_take,List.drop_take]
theorem numR_four (B:List Nat) (h:6≤B.length):numR (0,(B.drop 2).take 4) 4=((0,[]),nS B):=by
 unfold numR
 rw [if_pos (by omega),show (4:Int).toNat=4 by rfl]
 unfold z1i
 rw [if_pos rfl,if_neg (by simp;omega)]
 unfold nS
 simp [List.take_take]
theorem nN_lt {w:World} {p:Option Addr} {n c:Nat} {B:List Nat} (h:Sl w p n c B):nN B<65536:=by
 unfold nN
 have h1:=q0g (B.take 2) fun y hy=>h.lt y (List.mem_of_mem_take hy)
 have h2:(B.take 2).length≤2:=by rw [List.length_take];omega
 exact Nat.lt_of_lt_of_le h1 (Nat.pow_le_pow_right (n:=256) (by omega) h2)
theorem nS_lt {w:World} {p:Option Addr} {n c:Nat} {B:List Nat} (h:Sl w p n c B):nS B<4294967296:=by
 unfold nS
 have h1:=q0g ((B.drop 2).take 4) fun y hy=>h.lt y (List.mem_of_mem_drop (List.mem_of_mem_take hy))
 have h2:((B.drop 2).take 4).length≤4:=by rw [List.length_take];omega
 exact Nat.lt_of_lt_of_le h1 (Nat.pow_le_pow_right (n:=256) (by omega) h2)
theorem next_any (p:Option Addr) (n c:Nat) (B:List Nat) (w:World) (hS:Sl w p n c B) (hc:c≤maxLen) (hn:n≤1000000) (hT:Tab w) :
 Calls Tryz.prog 117 #[.slice p n c] w (q0b w p (q1e B) (z9l B) (nE B)):=by
 have HS:=hid hS
 have HT:=hid hT
 have hl:=hS.len
 have hcap:=hS.cap
 have hNl:=nN_lt hS
 have hSl:=nS_lt hS
 unfold maxLen at hc
 by_cases h6:n<6
 · have he:=nE_short (B:=B) (by omega)
   have hd:=z4o (B:=B) (by rw [he];omega)
   rw [he,hd.1,hd.2]
   clear he hd hS hT hNl hSl
   go_enter Tryz.func117,Tryz.ntmps117
   go_wp2_with fail
   go_ret3
   exact z3k w w 6 (Below.refl _ _)
 · obtain⟨b,off,rfl,hlt,hcell⟩:=hS.blk (by omega)
   have HS6:Hid (Sl w (some ⟨b,off,none⟩) 6 c (B.take 6)):=hid (hS.take 6 (by omega))
   have N1:=hid (numR_two B (by omega))
   have N2:=hid (numR_four B (by omega))
   have hl60:(B.take 6).length≤90000:=by rw [List.length_take];omega
   have hl6:((B.drop 2).take 4).length≤90000:=by rw [List.length_take];omega
   have HMID:=hid (fun (w':World) (hb:Below w.heap.size w w') (hk:6+nN B≤n)=>q1c (hS.later hb) 6 (nN B) hk)
   have HNP:Hid ((B.drop 6).take (nN B)=nP B):=hid rfl
   clear hS hT hcell
   by_cases hf:nN B=0∨512<nN B
   · have he:=nE_form (B:=B) (by omega) hf
     have hd:=z4o (B:=B) (by rw [he];omega)
     rw [he,hd.1,hd.2]
     have hs0:q1m (nN B:Int)=0:=if_pos (by omega)
     clear he hd
     generalize nN B=k at *
     generalize nS B=s at *
     go_enter Tryz.func117,Tryz.ntmps117
     go_wp2_with fail
     refine (q0k w w _ 6 c _ HS6.out (by omega) (Below.refl _ _)).mono ?_
     rintro e w1 ⟨R,rfl,hr,_,_⟩
     have HR:=hid hr
     clear hr
     go_wp2_with fail
     refine (z8m w w1 R _ 2 HR.out hl60).mono ?_
     rw [N1.out]
     rintro e w2 ⟨rfl,hr⟩
     have HR2:=hid hr
     clear hr HR
     go_wp2_with fail
     refine (z8m w w2 R _ 4 HR2.out hl6).mono ?_
     rw [N2.out]
     rintro e w3 ⟨rfl,hr⟩
     have HB:=hid hr.below
     clear hr HR2
     go_wp2_with fail
     refine (z6g _ _).mono ?_
     rw [hs0]
     rintro e w4 ⟨rfl,rfl⟩
     go_wp2_with fail
     go_ret3
     exact z3k w _ 8 HB.out
   · have hs0:q1m (nN B:Int)=6+(nN B:Int):=if_neg (by omega)
     by_cases hsh:n<6+nN B
     · have he:=nE_less (B:=B) (by omega) hf (by omega)
       have hd:=z4o (B:=B) (by rw [he];omega)
       rw [he,hd.1,hd.2]
       clear he hd
       generalize nN B=k at *
       generalize nS B=s at *
       go_enter Tryz.func117,Tryz.ntmps117
       go_wp2_with fail
       refine (q0k w w _ 6 c _ HS6.out (by omega) (Below.refl _ _)).mono ?_
       rintro e w1 ⟨R,rfl,hr,_,_⟩
       have HR:=hid hr
       clear hr
       go_wp2_with fail
       refine (z8m w w1 R _ 2 HR.out hl60).mono ?_
       rw [N1.out]
       rintro e w2 ⟨rfl,hr⟩
       have HR2:=hid hr
       clear hr HR
       go_wp2_with fail
       refine (z8m w w2 R _ 4 HR2.out hl6).mono ?_
       rw [N2.out]
       rintro e w3 ⟨rfl,hr⟩
       have HB:=hid hr.below
       clear hr HR2
       go_wp2_with fail
       refine (z6g _ _).mono ?_
       rw [hs0]
       rintro e w4 ⟨rfl,rfl⟩
       go_wp2_with fail
       go_ret3
       exact z3k w _ 6 HB.out
     · have hk512:nN B≤512:=by omega
       by_cases hsum:sumL (nP B)=nS B
       · have he:=nE_ok (B:=B) (by omega) hf (by omega) hsum
         have hd:=q1p he
         have hpl:=q1x he
         rw [he,hd.1,hd.2]
         have heq:(((sumL (nP B):Nat):Int)==(nS B:Int))=true:=by rw [hsum];simp
         clear he hd hsum
         rw [HNP.out] at HMID
         generalize nP B=P at *
         generalize nN B=k at *
         generalize nS B=s at *
         go_enter Tryz.func117,Tryz.ntmps117
         go_wp2_with fail
         refine (q0k w w _ 6 c _ HS6.out (by omega) (Below.refl _ _)).mono ?_
         rintro e w1 ⟨R,rfl,hr,_,_⟩
         have HR:=hid hr
         clear hr
         go_wp2_with fail
         refine (z8m w w1 R _ 2 HR.out hl60).mono ?_
         rw [N1.out]
         rintro e w2 ⟨rfl,hr⟩
         have HR2:=hid hr
         clear hr HR
         go_wp2_with fail
         refine (z8m w w2 R _ 4 HR2.out hl6).mono ?_
         rw [N2.out]
         rintro e w3 ⟨rfl,hr⟩
         have HB:=hid hr.below
         have HM:=hid (HMID.out _ hr.below (by omega))
         have HT3:=hid (HT.out.later hr.below HT.out.lt)
         clear hr HR2
         go_wp2_with fail
         refine (z6g _ _).mono ?_
         rw [hs0]
         rintro e w4 ⟨rfl,rfl⟩
         go_wp2_with fail
         refine (same_sl _ _ _ P _ _ HM.out (by omega) HT3.out).mono ?_
         rw [heq]
         rintro e w5 ⟨rfl,rfl⟩
         go_wp2_with fail
         refine (z6i _ _ _ P _ HM.out (by omega)).mono ?_
         rintro e w6 ⟨v,rfl,hr,hb,hk6⟩
         obtain⟨p6,c6,rfl,hm6,hs6,hq6⟩:=hr.sl
         have HF:Hid (q0b w (some ⟨b,off,none⟩) P (6+k) 0 (.returned (.tuple #[.slice p6 k c6,.int .i64 (6+(k:Int)),.int .i64 0])) w6):=hid (by
          subst hpl
          exact⟨p6,c6,by simp,hs6,HB.out.trans (hb.mono HB.out.size),hm6,fun a ha=>.inl (Nat.le_trans HB.out.size (hk6 _ (hq6 a ha)))⟩)
         clear hr hb hs6 hk6 hq6
         go_wp2_with fail
         go_ret3
         exact HF.out
       · have he:=nE_sum (B:=B) (by omega) hf (by omega) hsum
         have hd:=z4o (B:=B) (by rw [he];omega)
         rw [he,hd.1,hd.2]
         have heq:(((sumL (nP B):Nat):Int)==(nS B:Int))=false:=by simpa using fun h=>hsum (by exact_mod_cast h)
         clear he hd hsum
         rw [HNP.out] at HMID
         generalize nP B=P at *
         generalize nN B=k at *
         generalize nS B=s at *
         go_enter Tryz.func117,Tryz.ntmps117
         go_wp2_with fail
         refine (q0k w w _ 6 c _ HS6.out (by omega) (Below.refl _ _)).mono ?_
         rintro e w1 ⟨R,rfl,hr,_,_⟩
         have HR:=hid hr
         clear hr
         go_wp2_with fail
         refine (z8m w w1 R _ 2 HR.out hl60).mono ?_
         rw [N1.out]
         rintro e w2 ⟨rfl,hr⟩
         have HR2:=hid hr
         clear hr HR
         go_wp2_with fail
         refine (z8m w w2 R _ 4 HR2.out hl6).mono ?_
         rw [N2.out]
         rintro e w3 ⟨rfl,hr⟩
         have HB:=hid hr.below
         have HM:=hid (HMID.out _ hr.below (by omega))
         have HT3:=hid (HT.out.later hr.below HT.out.lt)
         clear hr HR2
         go_wp2_with fail
         refine (z6g _ _).mono ?_
         rw [hs0]
         rintro e w4 ⟨rfl,rfl⟩
         go_wp2_with fail
         refine (same_sl _ _ _ P _ _ HM.out (by omega) HT3.out).mono ?_
         rw [heq]
         rintro e w5 ⟨rfl,rfl⟩
         go_wp2_with fail
         go_ret3
         exact z3k w _ 9 HB.out
def z5l (S:St):List Nat:=if S.1=0 then S.2 else []
def Part (w:World) (p q:Option Addr) (m d:Nat) (M:List Nat):Prop:=Sl w q m d M∧From q p∧d≤maxLen
theorem Part.none (w:World) (p:Option Addr):Part w p Option.none 0 0 []:=⟨Sl.none,From.none _,Nat.zero_le _⟩
theorem Part.at_end {w:World} {p0 p:Option Addr} {m c s:Nat} {M:List Nat} (h:Part w p0 (if c=s then p else p.map fun a=>a.add s) m (c-s) M) (e:c=s):Part w p0 p m 0 M:=by
 rw [if_pos e,e,Nat.sub_self] at h;exact h
theorem Part.within {w:World} {p0 p:Option Addr} {m c s:Nat} {M:List Nat} (h:Part w p0 (if c=s then p else p.map fun a=>a.add s) m (c-s) M) (e:¬ c=s):Part w p0 (p.map fun a=>a.add s) m (c-s) M:=by
 rw [if_neg e] at h;exact h
theorem part_within2 {w:World} {p0:Option Addr} {b off m c s:Nat} {M:List Nat} (h:Part w p0 (if c=s then some ⟨b,off,none⟩ else (some ⟨b,off,none⟩:Option Addr).map fun a=>a.add s) m (c-s) M) (e:¬ c=s):Part w p0 (some ⟨b,off+s,none⟩) m (c-s) M:=by
 rw [if_neg e,Option.map_some,Go.WideShapes.add_plain] at h;exact h
theorem un_drop (l:List Nat) (j:Nat) (h:j<l.length):un (l.drop j)=l.getD j 0+256*un (l.drop (j+1)):=by
 rw [List.drop_eq_getElem_cons h,un,List.getD,List.getElem?_eq_getElem h]
 rfl
def q2d (w:World) (p:Option Addr) (R:St × Nat) (e:Ending) (w':World):Prop:=∃ q m d k,e=.returned (.tuple #[.int .u64 ((R.2:Nat):Int),.slice q m d,.int .i64 R.1.1])∧Part w p q m d (z5l R.1)∧w'=w.drewN k
theorem getnum_bad (p:Option Addr) (n c:Nat) (L:List Nat) (size:Int) (w:World) (hs:¬ (1≤size∧size≤8)) :
 Calls Tryz.prog 118 #[.slice p n c,.int .i64 size] w (q2d w p (numR (0,L) size)):=by
 have hn:numR (0,L) size=((1,L),0):=by rw [numR,if_neg hs];rfl
 rw [hn]
 clear hn
 by_cases h1:size<1
 · go_enter Tryz.func118,Tryz.ntmps118
   go_wp2_with fail
   go_ret3
   exact⟨_,_,_,0,rfl,Part.none w p,rfl⟩
 · have h8:8<size:=by omega
   go_enter Tryz.func118,Tryz.ntmps118
   go_wp2_with fail
   go_ret3
   exact⟨_,_,_,0,rfl,Part.none w p,rfl⟩
theorem getnum_short (p:Option Addr) (n c s:Nat) (L:List Nat) (w:World) (hS:Sl w p n c L) (h1:1≤s) (h8:s≤8) (hn:n<s) :
 Calls Tryz.prog 118 #[.slice p n c,.int .i64 s] w (q2d w p (numR (0,L) s)):=by
 have hnr:numR (0,L) s=((6,L),0):=by
  rw [numR,if_pos (by omega),Int.toNat_natCast,z1i,if_pos rfl,if_pos (by rw [hS.len];exact hn)]
  rfl
 rw [hnr]
 clear hnr hS
 go_enter Tryz.func118,Tryz.ntmps118
 go_wp2_with fail
 go_ret3
 exact⟨_,_,_,0,rfl,Part.none w p,rfl⟩
theorem getnum_good (p:Option Addr) (n c s:Nat) (L:List Nat) (w:World) (hS:Sl w p n c L) (hc:c≤maxLen) (h1:1≤s) (h8:s≤8) (hn:s≤n) :
 Calls Tryz.prog 118 #[.slice p n c,.int .i64 s] w (q2d w p (numR (0,L) s)):=by
 have hnr:numR (0,L) s=((0,L.drop s),un (L.take s)):=by
  rw [numR,if_pos (by omega),Int.toNat_natCast,z1i,if_pos rfl,if_neg (by rw [hS.len];omega)]
 rw [hnr]
 have hp:Part w p (if c=s then p else p.map fun a=>a.add s) (n-s) (c-s) (L.drop s):=⟨hS.drop s hn,From.cut p c s,by omega⟩
 have HP:=hid hp
 have htl:(L.take s).length=s:=by rw [List.length_take,hS.len];omega
 have hlt:∀ y∈L.take s,y<256:=fun y hy=>hS.lt y (List.mem_of_mem_take hy)
 have hcap:n≤c:=hS.cap
 have hc63:c≤9223372036854775807:=hc
 obtain⟨b,off,rfl,hcell⟩:=(hS.take s hn).cell (by omega)
 have HC:=hid hcell
 have HL:=hid hlt
 have HT:=hid htl
 clear hnr hp hS hcell hlt htl hc
 generalize L.take s=K at *
 go_enter Tryz.func118,Tryz.ntmps118
 go_wp2_with fail
 go_loop [7,8] (fun x i=>∃ j:Nat,j≤s∧x=.int .u64 ((un (K.drop j):Nat):Int)∧i=.int .i64 ((j:Int)-1)) (fun _ i=>(intOf i+1).toNat)
 case atStart=>exact⟨s,Nat.le_refl _,by rw [List.drop_of_length_le (by have:=HT.out;omega)];rfl,rfl⟩
 case round =>
  obtain⟨j,hj,rfl,rfl⟩:=hrel
  by_cases h0:0<j
  · obtain⟨i,rfl⟩:∃ i,j=i+1:=⟨j-1,by omega⟩
    have hci:=HC.out i (by omega)
    have hz:K.getD i 0<256:=z9q HL.out i
    have hu:=q0g (K.drop (i+1)) fun y hy=>HL.out y (List.mem_of_mem_drop hy)
    have hdl:(K.drop (i+1)).length≤7:=by rw [List.length_drop];have:=HT.out;omega
    have hu2:un (K.drop (i+1))<72057594037927936:=Nat.lt_of_lt_of_le hu (Nat.le_trans (Nat.pow_le_pow_right (by omega) hdl) (by decide))
    have HU:=hid (un_drop K i (by have:=HT.out;omega))
    clear hu hdl
    generalize un (K.drop (i+1))=x at *
    generalize K.getD i 0=z at *
    have e1:((i+1:Nat):Int)-1=(i:Int):=by omega
    rw [e1]
    go_wp2_with fail
    go_round
    case rel=>exact⟨i,by omega,by rw [HU.out,Nat.add_comm z,Nat.mul_comm 256];rfl,rfl⟩
    case measure=>simp [intOf]
  · obtain rfl:j=0:=by omega
    rw [List.drop_zero]
    go_wp2_with fail
    go_quiet (fail)
    go_wp2_with fail
    all_goals
     go_ret3
     exact⟨_,_,_,_,rfl,by first | exact HP.out.at_end (by assumption) | exact part_within2 HP.out (by assumption),rfl⟩
theorem z6t (p:Option Addr) (n c:Nat) (L:List Nat) (size:Int) (w:World) (hS:Sl w p n c L) (hc:c≤maxLen) :
 Calls Tryz.prog 118 #[.slice p n c,.int .i64 size] w (q2d w p (numR (0,L) size)):=by
 by_cases hs:1≤size∧size≤8
 · obtain⟨s,rfl⟩:∃ s:Nat,size=(s:Int):=⟨size.toNat,by omega⟩
   by_cases hn:n<s
   · exact getnum_short p n c s L w hS (by omega) (by omega) hn
   · exact getnum_good p n c s L w hS hc (by omega) (by omega) (by omega)
 · exact getnum_bad p n c L size w hs
def GotBool (w:World) (p:Option Addr) (R:St × Bool) (e:Ending) (w':World):Prop:=∃ q m d k,e=.returned (.tuple #[.bool R.2,.slice q m d,.int .i64 R.1.1])∧Part w p q m d (z5l R.1)∧w'=w.drewN k
theorem getbool_any (p:Option Addr) (n c:Nat) (L:List Nat) (w:World) (hS:Sl w p n c L) (hc:c≤maxLen) :
 Calls Tryz.prog 142 #[.slice p n c] w (GotBool w p (z2v (0,L))):=by
 have hc63:c≤9223372036854775807:=hc
 have hcap:n≤c:=hS.cap
 by_cases hn:n<1
 · have hnr:z2v (0,L)=((6,L),false):=by
    have h:numR (0,L) 1=((6,L),0):=by
     rw [numR,if_pos (by omega),z1i,if_pos rfl,if_pos (by rw [hS.len];exact hn)]
     rfl
    rw [z2v,h]
    rfl
   rw [hnr]
   clear hnr hS hc
   go_enter Tryz.func142,Tryz.ntmps142
   go_wp2_with fail
   go_ret3
   exact⟨_,_,_,0,rfl,Part.none w p,rfl⟩
 · have hp:Part w p (if c=1 then p else p.map fun a=>a.add 1) (n-1) (c-1) (L.drop 1):=⟨hS.drop 1 (by omega),From.cut p c 1,by omega⟩
   have HP:=hid hp
   obtain⟨b,off,rfl,hcell⟩:=hS.cell (by omega)
   have h0:=hcell 0 (by omega)
   rw [Nat.add_zero] at h0
   obtain⟨y,l,rfl⟩:∃ y l,L=y::l:=by
    cases L with
    | nil=>have:=hS.len;simp at this;omega
    | cons y l=>exact⟨y,l,rfl⟩
   have hy:y<256:=hS.lt y (List.mem_cons_self ..)
   replace h0:w.cell? ⟨b,off,none⟩=some (.int .u8 ((y:Nat):Int)):=h0
   have hnum:numR (0,y::l) 1=((0,l),y):=by
    have:=numR_le y 1 l (by omega) (by omega) (by omega)
    rw [show le y 1++l=y::l by simp [le,Nat.mod_eq_of_lt hy]] at this
    exact this
   replace HP:Hid (Part w (some ⟨b,off,none⟩) (if c=1 then some ⟨b,off,none⟩ else (some ⟨b,off,none⟩:Option Addr).map fun a=>a.add 1) (n-1) (c-1) l):=HP
   by_cases hy1:1<y
   · have hb:z2v (0,y::l)=((8,l),false):=by rw [z2v,hnum,if_pos hy1];rfl
     rw [hb]
     clear hb hp hS hcell hc hnum HP
     go_enter Tryz.func142,Tryz.ntmps142
     go_wp2_with fail
     go_ret3
     exact⟨_,_,_,0,rfl,Part.none w _,rfl⟩
   · have hb:z2v (0,y::l)=((0,l),y==1):=by rw [z2v,hnum,if_neg hy1]
     rw [hb]
     have HE:Hid (((y:Int)==1)=(y==1)):=hid (by rw [Bool.eq_iff_iff];simp;omega)
     clear hb hp hS hcell hc hnum
     go_enter Tryz.func142,Tryz.ntmps142
     go_wp2_with fail
     go_quiet (fail)
     go_wp2_with fail
     all_goals
      go_ret3
      refine⟨_,_,_,_,?_,by first | exact HP.out.at_end (by assumption) | exact part_within2 HP.out (by assumption),rfl⟩
      rw [← HE.out]
      rfl
def GotBytes (w:World) (p:Option Addr) (R:St × List Nat) (e:Ending) (w':World):Prop:=∃ t tm td q m d k,e=.returned (.tuple #[.slice t tm td,.slice q m d,.int .i64 R.1.1])∧Part w p t tm td R.2∧Part w p q m d (z5l R.1)∧w'=w.drewN k
theorem getbytes_any (p:Option Addr) (n c:Nat) (L:List Nat) (most:Int) (w:World) (hS:Sl w p n c L) (hc:c≤maxLen) :
 Calls Tryz.prog 143 #[.slice p n c,.int .i64 most] w (GotBytes w p (z1d (0,L) most)):=by
 have HN:=hid (z6t p n c L 2 w hS hc)
 have hx:(numR (0,L) 2).2<65536:=by
  show (if (1:Int)≤2∧(2:Int)≤8 then ((z1i (0,L) 2).1,un (z1i (0,L) 2).2) else _).2<65536
  rw [if_pos (by omega)]
  show un (z1i (0,L) 2).2<65536
  have a:=q0g _ (z7i (0,L) 2 hS.lt)
  have b:256 ^ (z1i (0,L) 2).2.length≤256 ^ 2:=Nat.pow_le_pow_right (by omega) (z4w _ _)
  omega
 unfold z1d
 generalize numR (0,L) 2=R at *
 obtain⟨⟨x,M⟩,y⟩:=R
 replace hx:y<65536:=hx
 show Calls _ _ _ _ (GotBytes w p (z1i (if most<(y:Int) then bad 7 (x,M) else (x,M)) y))
 clear hS
 by_cases h0:x=0
 · subst h0
   by_cases hm:most<(y:Int)
   · have e:z1i (if most<(y:Int) then bad 7 (0,M) else (0,M)) y=((7,M),[]):=by rw [if_pos hm];rfl
     rw [e]
     clear e
     go_enter Tryz.func143,Tryz.ntmps143
     go_wp2_with fail
     refine HN.out.mono ?_
     rintro e w1 ⟨q,m,d,k,rfl,hp,rfl⟩
     clear hp
     go_wp2_with fail
     go_ret3
     exact⟨_,_,_,_,_,_,_,rfl,Part.none w p,Part.none w p,rfl⟩
   · by_cases hl:M.length<y
     · have e:z1i (if most<(y:Int) then bad 7 (0,M) else (0,M)) y=((6,M),[]):=by rw [if_neg hm,z1i,if_pos rfl,if_pos hl]
       rw [e]
       clear e
       go_enter Tryz.func143,Tryz.ntmps143
       go_wp2_with fail
       refine HN.out.mono ?_
       rintro e w1 ⟨q,m,d,k,rfl,hp,rfl⟩
       have hml:m<y:=by have:M.length=m:=hp.1.len;omega
       clear hp
       go_wp2_with fail
       go_ret3
       exact⟨_,_,_,_,_,_,_,rfl,Part.none w p,Part.none w p,rfl⟩
     · have e:z1i (if most<(y:Int) then bad 7 (0,M) else (0,M)) y=((0,M.drop y),M.take y):=by rw [if_neg hm,z1i,if_pos rfl,if_neg hl]
       rw [e]
       clear e
       go_enter Tryz.func143,Tryz.ntmps143
       go_wp2_with fail
       refine HN.out.mono ?_
       rintro e w1 ⟨q,m,d,k,rfl,hp,rfl⟩
       have hml:y≤m:=by have:M.length=m:=hp.1.len;omega
       have hsm:Sl w q m d M:=hp.1
       have hmd:m≤d:=hsm.cap
       have hd63:d≤9223372036854775807:=hp.2.2
       have h1:Part w p q y d (M.take y):=⟨hsm.take y hml,hp.2.1,hp.2.2⟩
       have h2:Part w p (if d=y then q else q.map fun a=>a.add y) (m-y) (d-y) (M.drop y):=⟨hsm.drop y hml,(From.cut q d y).trans hp.2.1,by have:=hp.2.2;omega⟩
       have H1:=hid h1
       have H2:=hid h2
       have hmi:(y:Int)≤(m:Int):=by omega
       have hdi:(y:Int)≤(d:Int):=by omega
       have ey:IntKind.i64.wrap (y:Int)=(y:Int):=by rw [IntKind.wrap_i64];omega
       clear hp h1 h2 hsm hl
       go_wp2_with fail
       go_quiet (fail)
       go_wp2_with fail
       all_goals
        go_ret3
        exact⟨_,_,_,_,_,_,_,rfl,by first | exact H1.out | exact (show d=y by assumption) ▸ H1.out,by first | exact H2.out.at_end (by assumption) | exact H2.out.within (by assumption),rfl⟩
 · have e:z1i (if most<(y:Int) then bad 7 (x,M) else (x,M)) y=((x,M),[]):=by
    have:(if most<(y:Int) then bad 7 (x,M) else (x,M))=(x,M):=by
     split
     · exact if_neg h0
     · rfl
    rw [this,z1i,if_neg (show ¬ (x,M).1=0 from h0)]
   rw [e]
   have hx1:(x != 0)=true:=by simpa using h0
   have hr:z5l (x,M)=[]:=if_neg h0
   have HR:=hid hr
   clear e hr h0
   go_enter Tryz.func143,Tryz.ntmps143
   go_wp2_with fail
   refine HN.out.mono ?_
   rintro e w1 ⟨q,m,d,k,rfl,hp,rfl⟩
   clear hp
   go_wp2_with fail
   go_ret3
   exact⟨_,_,_,_,_,_,_,rfl,Part.none w p,by rw [HR.out];exact Part.none w p,rfl⟩
theorem givesN_mk {W w':World} {p:Option Addr} {m c z:Nat} {P:List Nat} {x y:Int} {q:Option Addr} (hm:P.length=m) (hs:Sl w' p m c P) (hb:Below W.heap.size W w') (hc:c≤maxLen) (hy:y=((z:Nat):Int)) (hq:∀ a,p=some a→W.heap.size≤a.block∨∃ a',q=some a'∧a.block=a'.block):q0b W q P z x (.returned (.tuple #[.slice p m c,.int .i64 y,.int .i64 x])) w':=by
 subst hm hy
 exact⟨p,c,rfl,hs,hb,hc,hq⟩
theorem numR_rest4 (B:List Nat) (h:6≤B.length):numR (0,B.drop 2) 4=((0,B.drop 6),nS B):=by
 unfold numR
 rw [if_pos (by omega),show (4:Int).toNat=4 by rfl]
 unfold z1i
 rw [if_pos rfl,if_neg (by simp;omega)]
 unfold nS
 simp [List.drop_drop]
theorem nN_two (B:List Nat) (h:6≤B.length):nN B=B.getD 0 0+256*B.getD 1 0:=by
 match B,h with
 | a::b::l,_=>simp [nN,un]
theorem rnext_any (p:Option Addr) (n c:Nat) (B:List Nat) (w:World) (hS:Sl w p n c B) (hc:c≤maxLen) (hn:n≤1000000) :
 Calls Tryz.prog 75 #[.slice p n c] w (q0b w p (q1e B) (z9l B) (nE B)):=by
 have HS:=hid hS
 have hl:=hS.len
 have hcap:=hS.cap
 have hNl:=nN_lt hS
 have hSl:=nS_lt hS
 have hc0:=hc
 unfold maxLen at hc
 by_cases h6:n<6
 · have he:=nE_short (B:=B) (by omega)
   have hd:=z4o (B:=B) (by rw [he];omega)
   rw [he,hd.1,hd.2]
   clear he hd hS hNl hSl
   go_enter Tryz.func75,Tryz.ntmps75
   go_wp2_with fail
   go_ret3
   exact z3k w w 6 (Below.refl _ _)
 · obtain⟨b,off,rfl,hlt,hcell⟩:=hS.blk (by omega)
   have h00:=hcell 0 (by omega)
   have h01:=hcell 1 (by omega)
   rw [Nat.add_zero] at h00
   have hb0:=z9q hS.lt 0
   have hb1:=z9q hS.lt 1
   have hk2:=nN_two B (by omega)
   have HB:Hid (∀ q,Below w.heap.size w (w.drewN q)):=hid fun q=>z0f (Below.refl _ _) q
   have N2:=hid (numR_rest4 B (by omega))
   have HMID:=hid (fun (w':World) (hb:Below w.heap.size w w') (hk:6+nN B≤n)=>q1c (hS.later hb) 6 (nN B) hk)
   have HTWO:Hid (∀ q,Sl (w.drewN q) (some ⟨b,off+2,none⟩) (n-2) (c-2) (B.drop 2)):=hid fun q=>by
    have h2:=hS.len
    have:=q1c (hS.later (HB.out q)) 2 (n-2) (by omega)
    rwa [List.take_of_length_le (by rw [List.length_drop];omega)] at this
   have HNP:Hid ((B.drop 6).take (nN B)=nP B):=hid rfl
   clear hS hcell
   by_cases hf:nN B=0∨512<nN B
   · have he:=nE_form (B:=B) (by omega) hf
     have hd:=z4o (B:=B) (by rw [he];omega)
     rw [he,hd.1,hd.2]
     clear he hd
     generalize hx0:B.getD 0 0=x0 at *
     generalize hx1:B.getD 1 0=x1 at *
     generalize nN B=k at *
     subst hk2
     generalize nS B=s at *
     go_enter Tryz.func75,Tryz.ntmps75
     go_wp2_with fail
     go_quiet (fail)
     go_wp2_with fail
     all_goals (go_ret3;exact z3k w _ 8 (HB.out _))
   · by_cases hsh:n<6+nN B
     · have he:=nE_less (B:=B) (by omega) hf (by omega)
       have hd:=z4o (B:=B) (by rw [he];omega)
       rw [he,hd.1,hd.2]
       clear he hd
       generalize hx0:B.getD 0 0=x0 at *
       generalize hx1:B.getD 1 0=x1 at *
       generalize nN B=k at *
       subst hk2
       generalize nS B=s at *
       have hz:((x0:Int)+256*(x1:Int)==0)=false:=by
        rw [beq_eq_false_iff_ne]
        omega
       have hz2:(((x0:Int)+256*(x1:Int)==0) || decide (512<(x0:Int)+256*(x1:Int)))=false:=by
        rw [hz,Bool.false_or,decide_eq_false_iff_not]
        omega
       go_enter Tryz.func75,Tryz.ntmps75
       go_wp2_with fail
       go_quiet (fail)
       go_wp2_with fail
       go_ret3
       exact z3k w _ 6 (HB.out _)
     · have hk512:nN B≤512:=by omega
       by_cases hsum:sumL (nP B)=nS B
       · have he:=nE_ok (B:=B) (by omega) hf (by omega) hsum
         have hd:=q1p he
         have hpl:=q1x he
         rw [he,hd.1,hd.2]
         clear he hd
         rw [HNP.out] at HMID
         generalize nP B=P at *
         generalize hx0:B.getD 0 0=x0 at *
         generalize hx1:B.getD 1 0=x1 at *
         generalize nN B=k at *
         subst hk2
         generalize nS B=s at *
         have hz:((x0:Int)+256*(x1:Int)==0)=false:=by
          rw [beq_eq_false_iff_ne]
          omega
         have hz2:(((x0:Int)+256*(x1:Int)==0) || decide (512<(x0:Int)+256*(x1:Int)))=false:=by
          rw [hz,Bool.false_or,decide_eq_false_iff_not]
          omega
         go_enter Tryz.func75,Tryz.ntmps75
         go_wp2_with fail
         go_quiet (fail)
         go_wp2_with fail
         refine (z6t _ _ _ (B.drop 2) 4 _ (HTWO.out _) (by unfold maxLen;omega)).mono ?_
         rw [N2.out]
         rintro e w2 ⟨q2,m2,d2,k2,rfl,_,hw2⟩
         have HB2:Hid (Below w.heap.size w w2):=hid (by rw [hw2];exact z0f (HB.out nq) k2)
         clear hw2
         have HM2:=hid (HMID.out _ HB2.out (by omega))
         go_wp2_with fail
         refine (rsum_sl _ _ _ P _ HM2.out (by omega)).mono ?_
         rintro e w3 ⟨rfl,rfl⟩
         go_wp2_with fail
         go_ret3
         exact givesN_mk hpl HM2.out HB2.out (by unfold maxLen;omega) (by omega) fun a ha=>by cases ha;exact .inr ⟨_,rfl,rfl⟩
       · have he:=nE_sum (B:=B) (by omega) hf (by omega) hsum
         have hd:=z4o (B:=B) (by rw [he];omega)
         rw [he,hd.1,hd.2]
         clear he hd
         rw [HNP.out] at HMID
         generalize nP B=P at *
         generalize hx0:B.getD 0 0=x0 at *
         generalize hx1:B.getD 1 0=x1 at *
         generalize nN B=k at *
         subst hk2
         generalize nS B=s at *
         have hz:((x0:Int)+256*(x1:Int)==0)=false:=by
          rw [beq_eq_false_iff_ne]
          omega
         have hz2:(((x0:Int)+256*(x1:Int)==0) || decide (512<(x0:Int)+256*(x1:Int)))=false:=by
          rw [hz,Bool.false_or,decide_eq_false_iff_not]
          omega
         go_enter Tryz.func75,Tryz.ntmps75
         go_wp2_with fail
         go_quiet (fail)
         go_wp2_with fail
         refine (z6t _ _ _ (B.drop 2) 4 _ (HTWO.out _) (by unfold maxLen;omega)).mono ?_
         rw [N2.out]
         rintro e w2 ⟨q2,m2,d2,k2,rfl,_,hw2⟩
         have HB2:Hid (Below w.heap.size w w2):=hid (by rw [hw2];exact z0f (HB.out nq) k2)
         clear hw2
         have HM2:=hid (HMID.out _ HB2.out (by omega))
         go_wp2_with fail
         refine (rsum_sl _ _ _ P _ HM2.out (by omega)).mono ?_
         rintro e w3 ⟨rfl,rfl⟩
         go_wp2_with fail
         go_ret3
         exact z3k w _ 9 HB2.out
end Go.Proofs.YtfdgnniicjdjdaaGreatDoor
