import Derived.Test.YtfdgnniicjdjdaaGreatDoorPY26
import Derived.Deep.Fields
import Derived.Test.YtfdgnniicjdjdaaGreatDoorPY22
import Derived.Test.YtfdgnniicjdjdaaGreatDoorPY08
namespace Go.Proofs.YtfdgnniicjdjdaaGreatDoor
open Go.Lib (hid)
open Go.RowKit Go.ChangeShapes Go.WideShapes Go.Deep
set_option linter.unusedVariables false
set_option maxRecDepth 10000
structure Item where
 k:Nat
 x:Nat
 n:Int
 p:Option Addr
 m:Nat
 c:Nat
 L:List Nat
instance:Inhabited Item:=⟨⟨0,0,0,none,0,0,[]⟩⟩
section
variable {H:Type} {enc:TypeId × Value→H} {P:Program} {w:World} {base:Nat} {spare:Nat→Bool} {held:Bool}
end
end Go.Proofs.YtfdgnniicjdjdaaGreatDoor
namespace Go.Proofs.YtfdgnniicjdjdaaGreatDoor
open Go.Lib (hid)
open Go.RowKit Go.ChangeShapes Go.WideShapes
set_option linter.unusedVariables false
set_option maxRecDepth 10000
def Few (len:Nat) (its:Nat→Item):Prop:=len≤30∧∀ i,i<len→(its i).m≤300
def Item.val (it:Item):Value:=.agg #[.int .u8 ((it.k:Nat):Int),.int .u64 ((it.x:Nat):Int),.int .i64 it.n,.slice it.p it.m it.c]
def told (it:Item):List Nat × Int :=
 if it.k % 5=0 then (if 1≤it.n∧it.n≤8∧it.x<256 ^ it.n.toNat then (le it.x it.n.toNat,0) else ([],1))
 else if it.k % 5=1 then (le it.x 8,0)
 else if it.k % 5=2 then ([bit (it.x % 2==1)],0)
 else if it.k % 5=3 then (le it.L.length 2++it.L,0)
 else (it.L,0)
theorem z5g (x n:Nat) (w:World) (hx:x<18446744073709551616) (hn:n≤8) :
 Calls Tryz.prog 87 #[.int .u64 (x:Int),.int .i64 n] w (z2z w n (le x n)):=by
 have HO:=hid (own_none w)
 have HB:Hid (Below w.heap.size w (w.alloc (.cells #[] 5))):=hid ((Below.refl _ _).alloc (Nat.le_refl _) _)
 go_enter Tryz.func87,Tryz.ntmps87
 go_wp2_with fail
 go_loopw [0,5,6] (fun y v i wr=>∃ (j:Nat) (p:Option Addr) (c:Nat),j≤n∧i=.int .i64 j∧y=.int .u64 ((x / 256 ^ j:Nat):Int)∧v=.slice p j c∧Row wr (.slice p j c) j (le x j)∧Below w.heap.size w wr∧∀ k,(Value.slice p j c).ownBlock=some k→w.heap.size≤k) (fun _ _ i _=>n-(intOf i).toNat)
 case atStart=>exact⟨0,_,_,Nat.zero_le _,rfl,by simp,rfl,HO.out,HB.out,fun k hk=>by simp [Value.ownBlock] at hk;omega⟩
 case round =>
  obtain⟨j,p,c,hj,rfl,rfl,rfl,hr,hb,ho⟩:=hrel
  have HR:=hid hr
  have HBB:=hid hb
  have HOO:=hid ho
  clear hr hb ho
  have hlt2:x / 256 ^ j<18446744073709551616:=Nat.lt_of_le_of_lt (Nat.div_le_self _ _) hx
  by_cases hlt:j<n
  · have HN:Hid (x / 256 ^ (j+1)=x / 256 ^ j / 256):=hid (by rw [Nat.pow_succ,Nat.div_div_eq_div_mul])
    have HS:=hid (le_snoc j x)
    generalize hy:x / 256 ^ (j+1)=z at *
    have HY:=hid hy
    clear hy
    generalize x / 256 ^ j=y at *
    have HRA:Hid (Row (wr.alloc (.cells #[.int .u8 ((y:Int) % 256)] 5)) (.slice p j c) j (le x j)):=hid (HR.out.chg ((Chg.refl (fun _=>False) _).alloc _) fun _ _ h=>h)
    have HSA:Hid (Sl (wr.alloc (.cells #[.int .u8 ((y:Int) % 256)] 5)) (some ⟨wr.heap.size,0,none⟩) 1 1 [y % 256]):=hid (by have:=q0u (y % 256) (by omega) wr;rw [show (((y % 256:Nat):Int))=(y:Int) % 256 by omega] at this;exact this)
    go_wp2_with (at_builtin;refine z1b rfl _ _ rfl _ _ (le x j) rfl HRA.out _ _ _ [y % 256] rfl HSA.out (by omega) ?_)
    intro v' w' hr hc hk
    rw [← HS.out] at hr
    obtain⟨p',c',rfl,_⟩:=hr.sl
    have HF:Hid (Row w' (.slice p' (j+1) c') (j+1) (le x (j+1))∧Below w.heap.size w w'∧∀ k,(Value.slice p' (j+1) c').ownBlock=some k→w.heap.size≤k):=hid ⟨hr,hc.below (HBB.out.alloc HBB.out.size _) (Nat.le_trans HBB.out.size (by simp)) HOO.out,fun k hk'=>by
     rcases hk k hk' with h | h
     · exact HOO.out k h
     · have:=HBB.out.size;omega⟩
    clear hr hc hk
    go_wp2_with fail
    go_roundw
    case rel=>exact⟨j+1,p',c',by omega,by go_num,by rw [HY.out,HN.out];congr 1,rfl,HF.out.1,HF.out.2.1,HF.out.2.2⟩
    case measure=>simp [intOf];omega
  · obtain rfl:j=n:=by omega
    go_wp2_with fail
    go_ret
    exact⟨_,rfl,HR.out,HBB.out,HOO.out⟩
theorem rint_any (x:Nat) (w:World) (hx:x<18446744073709551616) :
 Calls Tryz.prog 91 #[.int .i64 (sgn x)] w (z2z w 8 (le x 8)):=by
 have HN:=hid (z5g x 8 w hx (Nat.le_refl _))
 have HS:=hid (wrap_sgn x hx)
 go_enter Tryz.func91,Tryz.ntmps91
 go_wp2_with fail
 rw [HS.out]
 refine HN.out.mono ?_
 rintro e w1 ⟨v,rfl,h1,h2,h3⟩
 have HF:Hid (∃ v',v'=v∧Row w1 v' 8 (le x 8)∧Below w.heap.size w w1∧∀ k,v'.ownBlock=some k→w.heap.size≤k):=hid ⟨v,rfl,h1,h2,h3⟩
 clear h1 h2 h3
 go_wp2_with fail
 go_ret
 obtain⟨v',rfl,h1,h2,h3⟩:=HF.out
 exact⟨_,rfl,h1,h2,h3⟩
theorem rbool_any (b:Bool) (w:World) :
 Calls Tryz.prog 90 #[.bool b] w fun e w'=>∃ q d,e=.returned (.slice q 1 d)∧Sl w' q 1 d [bit b]∧Below w.heap.size w w':=by
 cases b with
 | true =>
  have HS:=hid (q0u 1 (by omega) w)
  have HB:Hid (Below w.heap.size w (w.alloc (.cells #[.int .u8 1] 5))):=hid ((Below.refl _ _).alloc (Nat.le_refl _) _)
  go_enter Tryz.func90,Tryz.ntmps90
  go_wp2_with fail
  go_ret
  exact⟨_,_,rfl,HS.out,HB.out⟩
 | false =>
  have HS:=hid (q0u 0 (by omega) w)
  have HB:Hid (Below w.heap.size w (w.alloc (.cells #[.int .u8 0] 5))):=hid ((Below.refl _ _).alloc (Nat.le_refl _) _)
  go_enter Tryz.func90,Tryz.ntmps90
  go_wp2_with fail
  go_ret
  exact⟨_,_,rfl,HS.out,HB.out⟩
theorem rbytes_any (p:Option Addr) (m c:Nat) (L:List Nat) (w:World) (hs:Sl w p m c L) (hm:m≤65535) :
 Calls Tryz.prog 88 #[.slice p m c] w (z2z w (2+m) (le m 2++L)):=by
 have HN:=hid (z5g m 2 w (by omega) (by omega))
 have HS:=hid hs
 clear hs
 go_enter Tryz.func88,Tryz.ntmps88
 go_wp2_with fail
 refine HN.out.mono ?_
 rintro e w1 ⟨v,rfl,h1,h2,h3⟩
 have HR:=hid h1
 have HB:=hid h2
 have HO:=hid h3
 have HS1:=hid (HS.out.later h2)
 obtain⟨pv,cv,rfl,_⟩:=h1.sl
 clear h1 h2 h3
 go_wp2_with (at_builtin;refine z1b rfl _ _ rfl _ _ (le m 2) rfl HR.out _ _ _ L rfl HS1.out (by omega) ?_)
 intro v' w' hr hc hk
 obtain⟨p',c',rfl,_⟩:=hr.sl
 have HF:Hid (Row w' (.slice p' (2+m) c') (2+m) (le m 2++L)∧Below w.heap.size w w'∧∀ k,(Value.slice p' (2+m) c').ownBlock=some k→w.heap.size≤k):=hid ⟨hr,hc.below HB.out HB.out.size HO.out,fun k hk'=>by
  rcases hk k hk' with h | h
  · exact HO.out k h
  · exact Nat.le_trans HB.out.size h⟩
 clear hr hc hk
 go_wp2_with fail
 go_ret
 exact⟨_,rfl,HF.out⟩
theorem bytes_sl {w:World} {p:Option Addr} {n c:Nat} {L:List Nat} (h:Sl w p n c L):q2l w p n fun j=>L.getD j 0:=by
 refine⟨fun j _=>getD_lt h.lt j,fun h0=>?_⟩
 obtain⟨b,off,hp,hlt,hc⟩:=h.blk h0
 exact⟨b,off,hp,hlt,hc⟩
theorem sum_sl (p:Option Addr) (n c:Nat) (L:List Nat) (w:World) (h:Sl w p n c L) (hbig:n≤1000000) (hT:Tab w) :
 Calls Tryz.prog 109 #[.slice p n c] w fun e w'=>e=.returned (.int .u32 ((sumL L:Nat):Int))∧w=w':=by
 have:=sum_any p n c _ w (bytes_sl h) hbig hT
 rw [← h.len] at this ⊢
 exact this
theorem rsum_sl (p:Option Addr) (n c:Nat) (L:List Nat) (w:World) (h:Sl w p n c L) (hbig:n≤1000000) :
 Calls Tryz.prog 119 #[.slice p n c] w fun e w'=>e=.returned (.int .u32 ((sumL L:Nat):Int))∧w=w':=by
 have:=rsum_any p n c _ w (bytes_sl h) hbig
 rw [← h.len] at this ⊢
 exact this
def z9o (W:World) (L:List Nat) (x:Int) (e:Ending) (w':World):Prop:=∃ p c,e=.returned (.tuple #[.slice p L.length c,.int .i64 x])∧Sl w' p L.length c L∧Below W.heap.size W w'∧(∀ a,p=some a→W.heap.size≤a.block)∧c≤maxLen
def putL (P:List Nat):List Nat:=if good P=true then frm P else []
def putE (P:List Nat):Int:=if P.length=0 then 1 else if 512<P.length then 7 else 0
theorem z6u {P:List Nat} (h:good P=true):putL P=frm P∧putE P=0:=by
 have:=(z5u P).1 h
 exact⟨if_pos h,by unfold putE;rw [if_neg (by omega),if_neg (by omega)]⟩
theorem putE_none {P:List Nat} (h:P.length=0):putL P=[]∧putE P=1:=by
 refine⟨if_neg fun h'=>?_,if_pos h⟩
 have:=(z5u P).1 h'
 omega
theorem putE_long {P:List Nat} (h:512<P.length):putL P=[]∧putE P=7:=by
 refine⟨if_neg fun h'=>?_,by unfold putE;rw [if_neg (by omega),if_pos h]⟩
 have:=(z5u P).1 h'
 omega
theorem z5j (w:World) (x:Int):z9o w [] x (.returned (.tuple #[.slice none 0 0,.int .i64 x])) w :=
 ⟨none,0,rfl,Sl.none,Below.refl _ _,(fun a h=>by cases h),Nat.zero_le _⟩
theorem raw_step (most:Int) (L M:List Nat) (h:(L.length:Int)+(M.length:Int)≤most):rawW most (0,L) M=(0,L++M):=by
 unfold rawW
 rw [if_pos rfl,if_neg (show ¬ most<((L.length:Nat):Int)+(M.length:Int) by omega)]
theorem num_step2 (most:Int) (L:List Nat) (x n:Nat) (h1:1≤n) (h8:n≤8) (hx:x<256 ^ n) (h:(L.length:Int)+(n:Int)≤most):numW most (0,L) x n=(0,L++le x n):=by
 unfold numW
 rw [Int.toNat_natCast,if_pos ⟨by omega,by omega,hx⟩,raw_step _ _ _ (by rw [z0o];exact h)]
theorem done_max (W w:World) (B:Nat) (most:Int) (L:List Nat) (h:WrOk W w B most (0,L)) (hl:L.length≤100000):Calls Tryz.prog 111 #[.pointer (some ⟨B,0,none⟩)] w fun e w'=>z9o W L 0 e w':=by
 obtain⟨v,hw,hB,hv,hb⟩:=h
 refine (q0k B v most (0,L) w hw hl).mono ?_
 rintro e w' ⟨h1,h2⟩
 rw [if_pos rfl] at h2
 obtain⟨v,rfl,hr,ho⟩:=h2
 obtain⟨q,d,rfl,hm,hs,hq⟩:=hr.sl
 exact⟨_,_,rfl,hs,hb.trans (h1.mono hb.size),fun a ha=>Nat.le_trans hb.size (ho _ (hq a ha)),hm⟩
theorem fput_any (p:Option Addr) (n c:Nat) (P:List Nat) (w:World) (hS:Sl w p n c P) (hn:n≤1000000) (hT:Tab w) :
 Calls Tryz.prog 65 #[.slice p n c] w (z9o w (putL P) (putE P)):=by
 have HS:=hid hS
 have HT:=hid hT
 have hl:=hS.len
 clear hS hT
 by_cases h0:n=0
 · subst h0
   have he:=putE_none hl
   rw [he.1,he.2]
   have HG:=hid (z5j w 1)
   clear he hl
   go_enter Tryz.func65,Tryz.ntmps65
   go_wp2_with fail
   go_ret2
   exact HG.out
 · by_cases h5:512<n
   · have he:=putE_long (P:=P) (by omega)
     rw [he.1,he.2]
     have HG:=hid (z5j w 7)
     clear he hl
     go_enter Tryz.func65,Tryz.ntmps65
     go_wp2_with fail
     go_ret2
     exact HG.out
   · have hgood:good P=true:=(z5u P).2 (by omega)
     have he:=z6u hgood
     rw [he.1,he.2]
     have hs1:q1t (n:Int)=6+(n:Int):=if_neg (by omega)
     have hlim:lim (6+(n:Int))=6+(n:Int):=if_neg (by omega)
     have HL:=hid hl
     have hx4:sumL P<4294967296:=sumL_lt P
     have N1:=hid (num_step2 (6+(n:Int)) [] n 2 (by omega) (by omega) (by omega) (by simp;omega))
     have N2:=hid (num_step2 (6+(n:Int)) (le n 2) (sumL P) 4 (by omega) (by omega) (by omega) (by rw [z0o];omega))
     have N3:=hid (raw_step (6+(n:Int)) (le n 2++le (sumL P) 4) P (by rw [List.length_append,z0o,z0o,hl];omega))
     have hfr:Hid (le n 2++le (sumL P) 4++P=frm P):=hid (by unfold frm;rw [hl,List.append_assoc])
     have hfl:Hid ((frm P).length≤100000):=hid (by rw [frm_len];omega)
     clear he hl hgood
     go_enter Tryz.func65,Tryz.ntmps65
     go_wp2_with fail
     refine (fsize_any _ _).mono ?_
     rintro e w1 ⟨rfl,rfl⟩
     rw [hs1]
     go_wp2_with fail
     refine (z5x w w _ (Below.refl _ _)).mono ?_
     rintro e w1 ⟨B,rfl,hk⟩
     rw [hlim] at hk
     have HK:=hid hk
     clear hk
     go_wp2_with fail
     refine (HK.out.step (T:=(0,le n 2)) fun v hv=>?_).mono ?_
     · have:=q1x B v (6+(n:Int)) (0,[]) n 2 _ hv (by omega) (by omega) (by simp)
       rw [show (2:Int)=((2:Nat):Int) by rfl,N1.out] at this
       exact this
     rintro e w2 ⟨rfl,hk⟩
     have HK2:=hid hk
     have HS2:=hid (HS.out.later hk.below)
     have HT2:=hid (HT.out.later hk.below HT.out.lt)
     clear hk HK
     go_wp2_with fail
     refine (sum_sl p n c P _ HS2.out hn HT2.out).mono ?_
     rintro e w3 ⟨rfl,rfl⟩
     go_wp2_with fail
     refine (HK2.out.step (T:=(0,le n 2++le (sumL P) 4)) fun v hv=>?_).mono ?_
     · have:=q1x B v (6+(n:Int)) (0,le n 2) (sumL P) 4 _ hv (by omega) (by omega) (by rw [z0o];omega)
       rw [show (4:Int)=((4:Nat):Int) by rfl,N2.out] at this
       exact this
     rintro e w4 ⟨rfl,hk⟩
     have HK4:=hid hk
     have HS4:=hid (HS.out.later hk.below)
     clear hk HK2 HS2
     go_wp2_with fail
     refine (HK4.out.step (T:=(0,frm P)) fun v hv=>?_).mono ?_
     · have:=z7r B v (6+(n:Int)) (0,le n 2++le (sumL P) 4) _ hv p n c P HS4.out (by omega) (by omega) (by rw [List.length_append,z0o,z0o];omega)
       rw [N3.out,hfr.out] at this
       exact this
     rintro e w5 ⟨rfl,hk⟩
     have HK5:=hid hk
     clear hk HK4 HS4
     go_wp2_with fail
     refine (done_max w _ B _ _ HK5.out hfl.out).mono ?_
     rintro e w6 ⟨p',c',rfl,h1,h2,h3,h4⟩
     have HF:Hid (z9o w (frm P) 0 (.returned (.tuple #[.slice p' (frm P).length c',.int .i64 0])) w6):=hid ⟨p',c',rfl,h1,h2,h3,h4⟩
     clear h1 h2 h3 h4
     generalize (frm P).length=m at *
     go_wp2_with fail
     go_ret2
     exact HF.out
theorem Row.gives {W w:World} {v:Value} {n:Nat} {L:List Nat} (x:Int) (h:Row w v n L) (hb:Below W.heap.size W w) (hk:∀ k,v.ownBlock=some k→W.heap.size≤k):z9o W L x (.returned (.tuple #[v,.int .i64 x])) w:=by
 obtain⟨p,c,rfl,hm,hs,hq⟩:=h.sl
 have:=h.len
 subst this
 exact⟨p,c,rfl,hs,hb,fun a ha=>hk _ (hq a ha),hm⟩
theorem rput_any (p:Option Addr) (n c:Nat) (P:List Nat) (w:World) (hS:Sl w p n c P) (hn:n≤1000000) :
 Calls Tryz.prog 112 #[.slice p n c] w (z9o w (putL P) (putE P)):=by
 have HS:=hid hS
 have hl:=hS.len
 clear hS
 by_cases h0:n=0
 · subst h0
   have he:=putE_none hl
   rw [he.1,he.2]
   have HG:=hid (z5j w 1)
   clear he hl
   go_enter Tryz.func112,Tryz.ntmps112
   go_wp2_with fail
   go_ret2
   exact HG.out
 · by_cases h5:512<n
   · have he:=putE_long (P:=P) (by omega)
     rw [he.1,he.2]
     have HG:=hid (z5j w 7)
     clear he hl
     go_enter Tryz.func112,Tryz.ntmps112
     go_wp2_with fail
     go_ret2
     exact HG.out
   · have hgood:good P=true:=(z5u P).2 (by omega)
     have he:=z6u hgood
     rw [he.1,he.2]
     have hx4:sumL P<4294967296:=sumL_lt P
     have hfr:Hid (le n 2++(le (sumL P) 4++P)=frm P):=hid (by unfold frm;rw [hl])
     clear he hl hgood
     go_enter Tryz.func112,Tryz.ntmps112
     go_wp2_with fail
     refine (z5g n 2 _ (by omega) (by omega)).mono ?_
     rintro e w1 ⟨v,rfl,hr,hb,hk⟩
     obtain⟨p1,c1,rfl,_⟩:=hr.sl
     have HR:=hid hr
     have HB:=hid hb
     have HK:=hid hk
     have HS1:=hid (HS.out.later hb)
     clear hr hb hk
     go_wp2_with fail
     refine (rsum_sl p n c P _ HS1.out hn).mono ?_
     rintro e w2 ⟨rfl,rfl⟩
     go_wp2_with fail
     refine (z5g (sumL P) 4 _ (by omega) (by omega)).mono ?_
     rintro e w3 ⟨v,rfl,hr,hb,hk⟩
     obtain⟨p3,c3,rfl,_,hs3,_⟩:=hr.sl
     have HR3:=hid (HR.out.chg (Chg.of_below (S:=fun _=>False) hb) fun _ _ h=>h)
     have HB3:=hid (HB.out.trans (hb.mono HB.out.size))
     have HS3:=hid hs3
     clear hr hb hk hs3 HS1
     go_wp2_with (at_builtin;refine z1b rfl _ _ rfl _ _ (le n 2) rfl HR3.out _ _ _ (le (sumL P) 4) rfl HS3.out (by omega) ?_)
     intro v' w4 hr hc hk
     obtain⟨p4,c4,rfl,_⟩:=hr.sl
     have HB4:Hid (Below w.heap.size w w4):=hid (hc.below HB3.out HB3.out.size HK.out)
     have HK4:Hid (∀ k,(Value.slice p4 (2+4) c4).ownBlock=some k→w.heap.size≤k):=hid fun k h=>(hk k h).elim (HK.out k) (Nat.le_trans HB3.out.size)
     have HR4:=hid hr
     have HS4:=hid (HS.out.later HB4.out)
     clear hr hc hk
     go_wp2_with (at_builtin;refine z1b rfl _ _ rfl _ _ (le n 2++le (sumL P) 4) rfl HR4.out _ _ _ P rfl HS4.out (by omega) ?_)
     intro v' w5 hr hc hk
     rw [hfr.out] at hr
     obtain⟨p5,c5,rfl,_⟩:=hr.sl
     have HF:=hid (hr.gives (W:=w) 0 (hc.below HB4.out HB4.out.size HK4.out) fun k h=>(hk k h).elim (HK4.out k) (Nat.le_trans HB4.out.size))
     clear hr hc hk
     go_wp2_with fail
     go_ret2
     exact HF.out
end Go.Proofs.YtfdgnniicjdjdaaGreatDoor
