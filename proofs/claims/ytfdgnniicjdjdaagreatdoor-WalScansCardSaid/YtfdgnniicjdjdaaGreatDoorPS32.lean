import Derived.Test.YtfdgnniicjdjdaaGreatDoorPS25
import Derived.Test.YtfdgnniicjdjdaaGreatDoorPS33
namespace Go.Proofs.YtfdgnniicjdjdaaGreatDoor
open Go.Lib (hid)
set_option maxHeartbeats 8000000
open Go.RowKit Go.ChangeShapes Go.WideShapes
set_option linter.unusedVariables false
set_option maxRecDepth 10000
set_option linter.unusedSimpArgs false
def u64 (q:Int):Nat:=(q % 18446744073709551616).toNat
theorem u64_lt (q:Int):u64 q<18446744073709551616:=by unfold u64;omega
theorem sgn_u64 {q:Int} (h:In64 q):sgn (u64 q)=q:=by
 unfold In64 at h
 unfold sgn u64
 split <;> omega
theorem z9b {x:Nat} (h:x<18446744073709551616):u64 (sgn x)=x:=by
 unfold sgn u64
 split <;> omega
theorem z9g {x:Nat} (h:x<18446744073709551616):In64 (sgn x):=by
 unfold sgn In64
 split <;> omega
def lnB (x:Ln):List Nat:=le x.1.toNat 1++le (u64 x.2) 8
def tkBy (x:Tk):List Nat:=le x.1.toNat 4++le x.2.1.toNat 1++le x.2.2.1.toNat 1++le (u64 x.2.2.2) 8
def lnsB (L:List Ln):List Nat:=le L.length 1++L.flatMap lnB
def tksB (T:List Tk):List Nat:=le T.length 1++T.flatMap tkBy
def z2u (P:Pg):List Nat:=le P.kind.toNat 1++le P.order.toNat 4++le P.policy.toNat 1++lnsB P.lines++tksB P.takes++lnsB P.owes++le P.sku.toNat 1++le P.frm.toNat 1++le P.to.toNat 1++le (u64 P.qty) 8
theorem lnB_len (x:Ln):(lnB x).length=9:=by unfold lnB;rw [List.length_append,z0r,z0r]
theorem tkBy_len (x:Tk):(tkBy x).length=14:=by unfold tkBy;rw [List.length_append,List.length_append,List.length_append,z0r,z0r,z0r,z0r]
theorem z8e:∀ L:List Ln,(L.flatMap lnB).length=9*L.length
 | []=>rfl
 | x::L=>by rw [List.flatMap_cons,List.length_append,lnB_len,z8e L,List.length_cons];omega
theorem z9d:∀ T:List Tk,(T.flatMap tkBy).length=14*T.length
 | []=>rfl
 | x::T=>by rw [List.flatMap_cons,List.length_append,tkBy_len,z9d T,List.length_cons];omega
theorem lnsB_len (L:List Ln):(lnsB L).length=9*L.length+1:=by unfold lnsB;rw [List.length_append,z0r,z8e];omega
theorem tksB_len (T:List Tk):(tksB T).length=14*T.length+1:=by unfold tksB;rw [List.length_append,z0r,z9d];omega
theorem flat_take {α:Type} (f:α→List Nat) (L:List α) (d:α) (j:Nat) (h:j<L.length):(L.take (j+1)).flatMap f=(L.take j).flatMap f++f (L.getD j d):=by
 rw [List.take_add_one,List.getElem?_eq_getElem h,List.flatMap_append]
 simp [List.getD,List.getElem?_eq_getElem h]
theorem z7l {L M:List Nat} (h:L.length+M.length≤512):rawW 512 (0,L) M=(0,L++M):=by
 unfold rawW
 rw [if_pos rfl,if_neg (show ¬ (512:Int)<((0,L):St).2.length+M.length by dsimp only;omega)]
theorem numW_fit {L:List Nat} {x n:Nat} (h1:1≤n) (h8:n≤8) (hx:x<256 ^ n) (h:L.length+n≤512):numW 512 (0,L) x (n:Int)=(0,L++le x n):=by
 unfold numW
 rw [if_pos ⟨by omega,by omega,by rw [Int.toNat_natCast];exact hx⟩,Int.toNat_natCast]
 exact z7l (by rw [z0r];exact h)
theorem Wrote.next {a b c:World} {B:Nat} {v v1:Value} {most:Int} {S T:St} (h:Wrote a B v most S b) (hv:∀ k,v1.ownBlock=some k→v.ownBlock=some k∨a.heap.size≤k) (g:Wrote b B v1 most T c):Wrote a B v most T c:=by
 obtain⟨v2,h1,h2⟩:=g.wr
 refine⟨⟨v2,h1,fun k hk=>?_⟩,h.chg.trans g.chg fun k hk hb=>?_⟩
 · rcases h2 k hk with h' | h'
   · exact hv k h'
   · exact .inr (Nat.le_trans h.chg.size h')
 · rcases hb with rfl | hb
   · exact .inl rfl
   · rcases hv k hb with h' | h'
     · exact .inr h'
     · omega
theorem z7n (B:Nat) (v:Value) (L:List Nat) (x n:Nat) (w:World) (h:Wr w B v 512 (0,L)) (h1:1≤n) (h8:n≤8) (hx:x<256 ^ n) (hl:L.length+n≤512) :
 Calls Tryz.prog 108 #[.pointer (some ⟨B,0,none⟩),.int .u64 (x:Int),.int .i64 n] w (Wrot w B v 512 (0,L++le x n)):=by
 have:=num_wr_good B v 512 (0,L) x n w h (by omega) (by omega) (by dsimp only;omega) h1 h8 hx
 rwa [z7l (by rw [z0r];exact hl)] at this
theorem q2y (B:Nat) (v:Value) (L:List Nat) (q:Int) (w:World) (h:Wr w B v 512 (0,L)) (hq:In64 q) (hl:L.length+8≤512) :
 Calls Tryz.prog 126 #[.pointer (some ⟨B,0,none⟩),.int .i64 q] w (Wrot w B v 512 (0,L++le (u64 q) 8)):=by
 have:=int_wr B v 512 (0,L) (u64 q) w h (u64_lt q) (by omega) (by omega) (by dsimp only;omega)
 rw [sgn_u64 hq] at this
 have h2:numW 512 (0,L) (u64 q) 8=(0,L++le (u64 q) 8):=numW_fit (n:=8) (by omega) (by omega) (u64_lt q) hl
 rwa [h2] at this
def z1c (S:St):St × Ln:=((numR (numR S 1).1 8).1,(((numR S 1).2:Nat),sgn (numR (numR S 1).1 8).2))
def tkR (S:St):St × Tk :=
 ((numR (numR (numR (numR S 4).1 1).1 1).1 8).1,(((numR S 4).2:Nat),((numR (numR S 4).1 1).2:Nat),((numR (numR (numR S 4).1 1).1 1).2:Nat),sgn (numR (numR (numR (numR S 4).1 1).1 1).1 8).2))
def z0z {α:Type} (f:St→St × α):Nat→St→St × List α
 | 0,S=>(S,[])
 | n+1,S=>((f (z0z f n S).1).1,(z0z f n S).2 ++ [(f (z0z f n S).1).2])
def z2n {α:Type} (f:St→St × α) (most:Nat) (S:St):(St × List α) × Bool:=if most<(numR S 1).2 then (((numR S 1).1,[]),true) else (z0z f (numR S 1).2 (numR S 1).1,false)
def cntR (S:St) (most:Nat):St × Nat:=if (numR S 1).1.1=0 then (if most<(numR S 1).2 then ((8,(numR S 1).1.2),0) else ((numR S 1).1,(numR S 1).2)) else ((numR S 1).1,0)
def z2z {α:Type} (f:St→St × α) (most:Nat) (S:St):St × List α:=z0z f (cntR S most).2 (cntR S most).1
theorem z1n {S:St} (h:S.1≠0) {size:Int} (hs:1≤size∧size≤8):numR S size=(S,0):=by
 unfold numR z1i
 rw [if_pos hs,if_neg h];rfl
theorem q0n {S:St} {size:Int} (hs:1≤size∧size≤8) (h:(numR S size).1.1≠0):(numR S size).2=0:=by
 unfold numR z1i at *
 rw [if_pos hs] at *
 by_cases h0:S.1=0
 · rw [if_pos h0] at *
   split at h
   · rename_i hl;rw [if_pos hl];rfl
   · exact absurd rfl h
 · rw [if_neg h0];rfl
theorem z9n {S:St} (h:S.1≠0):(z1c S).1=S:=by
 unfold z1c
 rw [z1n h (by omega),z1n h (by omega)]
theorem tkR_bad {S:St} (h:S.1≠0):(tkR S).1=S:=by
 unfold tkR
 rw [z1n h (size:=4) (by omega),z1n h (size:=1) (by omega),z1n h (size:=1) (by omega),z1n h (size:=8) (by omega)]
theorem manyR_bad {α:Type} {f:St→St × α} (hf:∀ S:St,S.1≠0→(f S).1=S) {S:St} (h:S.1≠0):∀ n,(z0z f n S).1=S
 | 0=>rfl
 | n+1=>by
  show (f (z0z f n S).1).1=S
  rw [manyR_bad hf h n,hf S h]
theorem z8b {α:Type} {f:St→St × α} (hf:∀ S:St,S.1≠0→(f S).1=S) (S:St) {i:Nat} (h:(z0z f i S).1.1≠0):∀ k,(z0z f (i+k) S).1=(z0z f i S).1
 | 0=>rfl
 | k+1=>by
  show (f (z0z f (i+k) S).1).1=_
  rw [z8b hf S h k,hf _ h]
theorem z2t {α:Type} {f:St→St × α} (S:St):∀ n,(z0z f n S).2.length=n
 | 0=>rfl
 | n+1=>by
  show ((z0z f n S).2 ++ [_]).length=n+1
  rw [List.length_append,z2t S n];rfl
theorem z4r {α:Type} {f:St→St × α} {most:Nat} {S:St} (h:S.1≠0):z2z f most S=(S,[]):=by
 unfold z2z cntR
 rw [z1n h (by omega),if_neg h]
 rfl
theorem listR_bad {α:Type} {f:St→St × α} {most:Nat} {S:St} (h:S.1≠0):z2n f most S=((S,[]),false):=by
 unfold z2n
 rw [z1n h (by omega),if_neg (by omega)]
 rfl
theorem z9m {α:Type} {f:St→St × α} (hf:∀ S:St,S.1≠0→(f S).1=S) (most:Nat) (S:St):((z2n f most S).2=false∧z2z f most S=(z2n f most S).1)∨((z2n f most S).2=true∧(z2z f most S).1.1=8):=by
 by_cases h:S.1=0
 · unfold z2n z2z cntR
   by_cases he:(numR S 1).1.1=0
   · rw [if_pos he]
     by_cases hm:most<(numR S 1).2
     · rw [if_pos hm,if_pos hm]
       right
       exact⟨rfl,rfl⟩
     · rw [if_neg hm,if_neg hm]
       left
       exact⟨rfl,rfl⟩
   · rw [if_neg he,q0n (by omega) he,if_neg (by omega)]
     left
     exact⟨rfl,rfl⟩
 · left
   rw [z4r h,listR_bad h]
   exact⟨rfl,rfl⟩
structure Dec where
 st:St
 pg:Pg
 many:Bool
def decR (B:List Nat):Dec :=
 let r1:=numR (0,B) 1
 let r2:=numR r1.1 4
 let r3:=numR r2.1 1
 let l:=z2n z1c 3 r3.1
 let t:=z2n tkR 12 l.1.1
 let o:=z2n z1c 3 t.1.1
 let r4:=numR o.1.1 1
 let r5:=numR r4.1 1
 let r6:=numR r5.1 1
 let r7:=numR r6.1 8
 ⟨r7.1,⟨(r1.2:Nat),(r2.2:Nat),(r3.2:Nat),l.1.2,t.1.2,o.1.2,(r4.2:Nat),(r5.2:Nat),(r6.2:Nat),sgn r7.2⟩,l.2 || t.2 || o.2⟩
def refR (B:List Nat):St × Pg :=
 let r1:=numR (0,B) 1
 let r2:=numR r1.1 4
 let r3:=numR r2.1 1
 let l:=z2z z1c 3 r3.1
 let t:=z2z tkR 12 l.1
 let o:=z2z z1c 3 t.1
 let r4:=numR o.1 1
 let r5:=numR r4.1 1
 let r6:=numR r5.1 1
 let r7:=numR r6.1 8
 (r7.1,⟨(r1.2:Nat),(r2.2:Nat),(r3.2:Nat),l.2,t.2,o.2,(r4.2:Nat),(r5.2:Nat),(r6.2:Nat),sgn r7.2⟩)
theorem ref_dec (B:List Nat):((decR B).many=false∧refR B=((decR B).st,(decR B).pg))∨((decR B).many=true∧(refR B).1.1=8):=by
 unfold decR refR
 dsimp only
 generalize numR (numR (numR (0,B) 1).1 4).1 1=r3
 have e8:∀ S:St,S.1=8→S.1≠0:=fun S h=>by omega
 rcases z9m (f:=z1c) (fun S h=>z9n h) 3 r3.1 with ⟨h1,h2⟩ | ⟨h1,h2⟩
 · rw [h2]
   rcases z9m (f:=tkR) (fun S h=>tkR_bad h) 12 (z2n z1c 3 r3.1).1.1 with ⟨h3,h4⟩ | ⟨h3,h4⟩
   · rw [h4]
     rcases z9m (f:=z1c) (fun S h=>z9n h) 3 (z2n tkR 12 (z2n z1c 3 r3.1).1.1).1.1 with ⟨h5,h6⟩ | ⟨h5,h6⟩
     · left
       rw [h6]
       exact⟨by rw [h1,h3,h5];rfl,rfl⟩
     · right
       refine⟨by rw [h5];simp,?_⟩
       have hn:=e8 _ h6
       rw [z1n hn (size:=1) (by omega),z1n hn (size:=1) (by omega),z1n hn (size:=1) (by omega),z1n hn (size:=8) (by omega)]
       exact h6
   · right
     refine⟨by rw [h3];simp,?_⟩
     have hn:=e8 _ h4
     rw [z4r hn,z1n hn (size:=1) (by omega),z1n hn (size:=1) (by omega),z1n hn (size:=1) (by omega),z1n hn (size:=8) (by omega)]
     exact h4
 · right
   refine⟨by rw [h1];simp,?_⟩
   have hn:=e8 _ h2
   rw [z4r hn,z4r hn,z1n hn (size:=1) (by omega),z1n hn (size:=1) (by omega),z1n hn (size:=1) (by omega),z1n hn (size:=8) (by omega)]
   exact h2
def noP:Pg:=⟨0,0,0,[],[],[],0,0,0,0⟩
def decE (B:List Nat):Int:=if (decR B).many=true then 8 else endR (decR B).st
def decP (B:List Nat):Int × Pg:=if decE B≠0 then (decE B,noP) else if z0w 4 4 (decR B).pg=true then (0,(decR B).pg) else (8,noP)
def z3w (B:List Nat):Int × Pg:=if (refR B).1.1≠0 then ((refR B).1.1,noP) else if 0<(refR B).1.2.length∨z0w 4 4 (refR B).2=false then (8,noP) else (0,(refR B).2)
theorem dec_both (B:List Nat):z3w B=decP B:=by
 unfold z3w decP decE
 rcases ref_dec B with ⟨h1,h2⟩ | ⟨h1,h2⟩
 · rw [h2,h1,if_neg (show ¬ (false=true) by decide)]
   dsimp only
   unfold endR
   generalize (decR B).st.1=s
   generalize (decR B).st.2.length=n
   generalize z0w 4 4 (decR B).pg=g
   by_cases h0:s=0
   · by_cases hl:0<n
     · simp [h0,hl]
     · cases g <;> simp [h0,hl]
   · simp [h0]
 · rw [h1,h2,if_pos (by decide),if_pos rfl,if_pos (by decide)]
theorem z4z (S:St) (size:Int):(numR S size).1.2.length≤S.2.length:=by
 unfold numR z1i bad
 split
 · split
   · split
     · exact Nat.le_refl _
     · show (S.2.drop size.toNat).length≤_
       rw [List.length_drop];omega
   · exact Nat.le_refl _
 · split <;> exact Nat.le_refl _
theorem z2x {S:St} (h:∀ y∈S.2,y<256) {n:Nat} (h1:1≤n) (h8:n≤8):(numR S n).2<256 ^ n:=by
 unfold numR
 rw [if_pos ⟨by omega,by omega⟩,Int.toNat_natCast]
 have h2:=q0g (z1i S n).2 (z7i S n h)
 exact Nat.lt_of_lt_of_le h2 (Nat.pow_le_pow_right (by omega) (z4w S n))
theorem z0k {S:St} (h:∀ y∈S.2,y<256) (size:Int):∀ y∈(numR S size).1.2,y<256:=by
 unfold numR z1i bad
 split
 · split
   · split
     · exact h
     · intro y hy
       exact h y (List.mem_of_mem_drop hy)
   · exact h
 · split <;> exact h
structure Zr (w:World) (N B X:Nat) (m:Int) (S:St):Prop where
 rd:∃ p c,Rd w B p c S∧∀ a,p=some a→a.block<N∧a.block≠X
 box:w.heap[X]?=some (.cells #[.pointer (some ⟨B,0,none⟩),.int .i64 m] 245 (0,0))
 ne:X≠B
 low:B<N∧X<N
 size:N≤w.heap.size
 small:S.2.length≤1000
 bytes:∀ y∈S.2,y<256
theorem Zr.later {w w':World} {N B X:Nat} {m:Int} {S:St} (h:Zr w N B X m S) (hc:Chg (fun k=>N≤k) w w'):Zr w' N B X m S:=by
 obtain⟨p,c,hr,hp⟩:=h.rd
 have hs:=h.size
 exact⟨⟨p,c,hr.chg hc (by have:=h.low.1;omega) (fun a ha=>by have:=(hp a ha).1;omega),hp⟩,(hc.block X (by have:=h.low.2;omega) (by have:=h.low.2;omega)).trans h.box,h.ne,h.low,Nat.le_trans hs hc.size,h.small,h.bytes⟩
theorem Zr.below {w w':World} {N B X:Nat} {m:Int} {S:St} (h:Zr w N B X m S) (hb:Below w.heap.size w w'):Zr w' N B X m S:=h.later (Chg.of_below hb)
theorem Zr.went {w w':World} {N B X:Nat} {m:Int} {S T:St} {p:Option Addr} {c:Nat} (h:Zr w N B X m S) (hp:∀ a,p=some a→a.block<N∧a.block≠X) (hw:Went w B p T w') (hl:T.2.length≤S.2.length) (hb:∀ y∈T.2,y<256):Zr w' N B X m T∧Chg (fun k=>k=B∨k=X) w w':=by
 obtain⟨p',c',h1,h2⟩:=hw.rd
 have hs:=h.size
 refine⟨⟨⟨p',c',h1,fun a ha=>?_⟩,(hw.chg.block X (by have:=h.low.2;omega) h.ne).trans h.box,h.ne,h.low,Nat.le_trans hs hw.chg.size,Nat.le_trans hl h.small,hb⟩,hw.chg.mono fun k _ hk=>.inl hk⟩
 obtain⟨a',e1,e2⟩:=h2 a ha
 rw [e2]
 exact hp a' e1
theorem z8s {w:World} {N B X:Nat} {m:Int} {S:St} (h:Zr w N B X m S) (size:Int):Calls Tryz.prog 134 #[.pointer (some ⟨B,0,none⟩),.int .i64 size] w fun e w'=>e=.returned (.int .u64 (((numR S size).2:Nat):Int))∧Zr w' N B X m (numR S size).1∧Chg (fun k=>k=B∨k=X) w w':=by
 obtain⟨p,c,hr,hp⟩:=h.rd
 refine (z7z B c p S size w hr (by have:=h.small;omega)).mono ?_
 rintro e w' ⟨rfl,hw⟩
 obtain⟨h1,h2⟩:=h.went (c:=c) hp hw (z4z S size) (z0k h.bytes size)
 exact⟨rfl,h1,h2⟩
theorem q3b {w:World} {N B X:Nat} {m:Int} {S:St} (h:Zr w N B X m S):Calls Tryz.prog 138 #[.pointer (some ⟨B,0,none⟩)] w fun e w'=>e=.returned (.int .i64 (sgn (numR S 8).2))∧Zr w' N B X m (numR S 8).1∧Chg (fun k=>k=B∨k=X) w w':=by
 obtain⟨p,c,hr,hp⟩:=h.rd
 refine (int_any B c p S w hr (by have:=h.small;omega)).mono ?_
 rintro e w' ⟨rfl,hw⟩
 obtain⟨h1,h2⟩:=h.went (c:=c) hp hw (z4z S 8) (z0k h.bytes 8)
 exact⟨rfl,h1,h2⟩
theorem z_end {w:World} {N B X:Nat} {m:Int} {S:St} (h:Zr w N B X m S):Calls Tryz.prog 141 #[.pointer (some ⟨B,0,none⟩)] w fun e w'=>e=.returned (.int .i64 (endR S))∧w=w':=by
 obtain⟨p,c,hr,hp⟩:=h.rd
 exact end_any B c p S w hr (by have:=h.small;omega)
theorem Zr.c0 {w:World} {N B X:Nat} {m:Int} {S:St} (h:Zr w N B X m S):w.cell? ⟨X,0,none⟩=some (.pointer (some ⟨B,0,none⟩)):=z0a h.box rfl
theorem Zr.c1 {w:World} {N B X:Nat} {m:Int} {S:St} (h:Zr w N B X m S):w.cell? ⟨X,1,none⟩=some (.int .i64 m):=z0a h.box rfl
theorem Zr.free {w:World} {N B X:Nat} {m:Int} {S:St} (h:Zr w N B X m S) (j:Nat):w.frozen? ⟨X,j,none⟩=false:=z0t j h.box
theorem Zr.mark {w:World} {N B X:Nat} {m:Int} {S:St} (h:Zr w N B X m S) (m':Int):Zr (w.setCell ⟨X,1,none⟩ (.int .i64 m')) N B X m' S∧Chg (fun k=>k=B∨k=X) w (w.setCell ⟨X,1,none⟩ (.int .i64 m')):=by
 obtain⟨p,c,hr,hp⟩:=h.rd
 have hc:Chg (fun k=>k=X) w (w.setCell ⟨X,1,none⟩ (.int .i64 m')):=(Chg.refl _ _).setCell ⟨X,1,none⟩ _ fun _=>rfl
 have hx:=z0u 1 (.int .i64 m') h.box
 refine⟨⟨⟨p,c,hr.chg hc (fun e=>h.ne e.symm) (fun a ha=>(hp a ha).2),hp⟩,by simpa using hx,h.ne,h.low,Nat.le_trans h.size hc.size,h.small,h.bytes⟩,hc.mono fun k _ hk=>.inr hk⟩
theorem z2p {B X:Nat} {a b c:World} (h:Chg (fun k=>k=B∨k=X) a b) (g:Chg (fun k=>k=B∨k=X) b c):Chg (fun k=>k=B∨k=X) a c:=h.trans g fun _ _ h=>h
theorem z7q {B X:Nat} {a b:World} (h:Below a.heap.size a b):Chg (fun k=>k=B∨k=X) a b:=Chg.of_below h
abbrev wbox (B:Nat):Obj:=.cells #[.pointer (some ⟨B,0,none⟩)] 231
theorem z2o (a:Nat) (h:a<18446744073709551616):IntKind.u64.wrap (a:Int)=a:=by simp [IntKind.wrap,IntKind.bits,IntKind.signed];omega
theorem line_w (B:Nat) (v:Value) (Lb:List Nat) (a q:Int) (w:World) (h:Wr w B v 512 (0,Lb)) (hx:Lnok (a,q)) (hl:Lb.length+9≤512) :
 Calls Tryz.prog 160 #[.agg #[.pointer (some ⟨B,0,none⟩)],.agg #[.int .u8 a,.int .i64 q]] w (Wrot w B v 512 (0,Lb++lnB (a,q))):=by
 obtain⟨na,ea⟩:∃ na:Nat,a=(na:Int):=⟨a.toNat,by have:=hx.1;dsimp only at this;omega⟩
 have ba:na<256 ^ 1:=by have:=hx.1;dsimp only at this;omega
 have ca:IntKind.u64.wrap (na:Int)=na:=z2o _ (by omega)
 have hq:In64 q:=hx.2
 have hd:lnB (a,q)=le na 1++le (u64 q) 8:=by
  unfold lnB
  dsimp only
  rw [ea]
  rfl
 rw [hd]
 subst ea
 obtain⟨w2,hw2,hs2,hX,hY,hb2⟩:∃ w2,(w.alloc (wbox B)).alloc (.cells #[.int .u8 (na:Nat),.int .i64 q] 234)=w2∧w2.heap.size=w.heap.size+2∧w2.heap[w.heap.size]?=some (.cells #[.pointer (some ⟨B,0,none⟩)] 231 (0,0))∧w2.heap[w.heap.size+1]?=some (.cells #[.int .u8 (na:Nat),.int .i64 q] 234 (0,0))∧Below w.heap.size w w2:=⟨_,rfl,by simp,(Below.heap_alloc _ _ _ (by simp)).trans (z0b w _),by have:=z0b (w.alloc (wbox B)) (.cells #[.int .u8 (na:Nat),.int .i64 q] 234);rwa [World.size_alloc] at this,((Below.refl _ _).alloc (Nat.le_refl _) _).alloc (by simp) _⟩
 have hwr2:=h.chg (Chg.of_below (S:=fun _=>False) hb2) (fun h=>h) (fun _ _ h=>h)
 have hBl:=h.lt
 have hvl:=h.row.bound
 have HC:Hid (∀ w',Chg (fun k=>k=B∨v.ownBlock=some k) w2 w'→w'.heap[w.heap.size]?=some (.cells #[.pointer (some ⟨B,0,none⟩)] 231 (0,0))∧w'.heap[w.heap.size+1]?=some (.cells #[.int .u8 (na:Nat),.int .i64 q] 234 (0,0))):=hid fun w' hc=>⟨(hc.block _ (by omega) (fun hk=>by rcases hk with hk | hk;omega;have:=hvl _ hk;omega)).trans hX,(hc.block _ (by omega) (fun hk=>by rcases hk with hk | hk;omega;have:=hvl _ hk;omega)).trans hY⟩
 have HW2:=hid hw2
 have HB2:=hid hb2
 have H0:=hid (Wrote.same hwr2)
 clear hw2 hs2 hX hY hb2 hwr2 hBl hvl h hx hd
 obtain⟨hx,hy⟩:=HC.out _ H0.out.chg
 have x0:=z0a (j:=0) (v:=.pointer (some ⟨B,0,none⟩)) hx rfl
 have y0:=z0a (j:=0) (v:=.int .u8 (na:Nat)) hy rfl
 have y1:=z0a (j:=1) (v:=.int .i64 q) hy rfl
 clear hx hy
 go_enter Tryz.func160,Tryz.ntmps160
 go_wp2_with fail
 rw [HW2.out]
 obtain⟨v0,h0,o0⟩:=H0.out.wr
 refine (z7n B v0 (Lb) na 1 w2 h0 (by omega) (by omega) ba (by first | omega | (simp only [List.length_append,z0r];omega))).mono ?_
 rintro e x3 ⟨rfl,hw⟩
 have H1:=hid (H0.out.next o0 hw)
 clear hw h0 o0
 clear x0 y0 y1
 obtain⟨hx,hy⟩:=HC.out _ H1.out.chg
 have x0:=z0a (j:=0) (v:=.pointer (some ⟨B,0,none⟩)) hx rfl
 have y0:=z0a (j:=0) (v:=.int .u8 (na:Nat)) hy rfl
 have y1:=z0a (j:=1) (v:=.int .i64 q) hy rfl
 clear hx hy
 go_wp2_with fail
 obtain⟨v1,h1,o1⟩:=H1.out.wr
 refine (q2y B v1 (Lb++le na 1) q x3 h1 hq (by first | omega | (simp only [List.length_append,z0r];omega))).mono ?_
 rintro e x4 ⟨rfl,hw⟩
 have H2:=hid (H1.out.next o1 hw)
 clear hw h1 o1
 clear x0 y0 y1
 go_wp2_with fail
 go_end0
 refine⟨rfl,?_⟩
 have hf:=Wrote.before (Chg.of_below HB2.out) H2.out
 simp only [List.append_assoc] at hf ⊢
 exact hf
theorem take_w (B:Nat) (v:Value) (Lb:List Nat) (o a r q:Int) (w:World) (h:Wr w B v 512 (0,Lb)) (hx:Tkok (o,a,r,q)) (hl:Lb.length+14≤512) :
 Calls Tryz.prog 162 #[.agg #[.pointer (some ⟨B,0,none⟩)],.agg #[.int .u32 o,.int .u8 a,.int .u8 r,.int .i64 q]] w (Wrot w B v 512 (0,Lb++tkBy (o,a,r,q))):=by
 obtain⟨no,eo⟩:∃ no:Nat,o=(no:Int):=⟨o.toNat,by have:=hx.1;dsimp only at this;omega⟩
 have bo:no<256 ^ 4:=by have:=hx.1;dsimp only at this;omega
 have co:IntKind.u64.wrap (no:Int)=no:=z2o _ (by omega)
 obtain⟨na,ea⟩:∃ na:Nat,a=(na:Int):=⟨a.toNat,by have:=hx.2.1;dsimp only at this;omega⟩
 have ba:na<256 ^ 1:=by have:=hx.2.1;dsimp only at this;omega
 have ca:IntKind.u64.wrap (na:Int)=na:=z2o _ (by omega)
 obtain⟨nr,er⟩:∃ nr:Nat,r=(nr:Int):=⟨r.toNat,by have:=hx.2.2.1;dsimp only at this;omega⟩
 have br:nr<256 ^ 1:=by have:=hx.2.2.1;dsimp only at this;omega
 have cr:IntKind.u64.wrap (nr:Int)=nr:=z2o _ (by omega)
 have hq:In64 q:=hx.2.2.2
 have hd:tkBy (o,a,r,q)=le no 4++le na 1++le nr 1++le (u64 q) 8:=by
  unfold tkBy
  dsimp only
  rw [eo,ea,er]
  rfl
 rw [hd]
 subst eo
 subst ea
 subst er
 obtain⟨w2,hw2,hs2,hX,hY,hb2⟩:∃ w2,(w.alloc (wbox B)).alloc (.cells #[.int .u32 (no:Nat),.int .u8 (na:Nat),.int .u8 (nr:Nat),.int .i64 q] 204)=w2∧w2.heap.size=w.heap.size+2∧w2.heap[w.heap.size]?=some (.cells #[.pointer (some ⟨B,0,none⟩)] 231 (0,0))∧w2.heap[w.heap.size+1]?=some (.cells #[.int .u32 (no:Nat),.int .u8 (na:Nat),.int .u8 (nr:Nat),.int .i64 q] 204 (0,0))∧Below w.heap.size w w2:=⟨_,rfl,by simp,(Below.heap_alloc _ _ _ (by simp)).trans (z0b w _),by have:=z0b (w.alloc (wbox B)) (.cells #[.int .u32 (no:Nat),.int .u8 (na:Nat),.int .u8 (nr:Nat),.int .i64 q] 204);rwa [World.size_alloc] at this,((Below.refl _ _).alloc (Nat.le_refl _) _).alloc (by simp) _⟩
 have hwr2:=h.chg (Chg.of_below (S:=fun _=>False) hb2) (fun h=>h) (fun _ _ h=>h)
 have hBl:=h.lt
 have hvl:=h.row.bound
 have HC:Hid (∀ w',Chg (fun k=>k=B∨v.ownBlock=some k) w2 w'→w'.heap[w.heap.size]?=some (.cells #[.pointer (some ⟨B,0,none⟩)] 231 (0,0))∧w'.heap[w.heap.size+1]?=some (.cells #[.int .u32 (no:Nat),.int .u8 (na:Nat),.int .u8 (nr:Nat),.int .i64 q] 204 (0,0))):=hid fun w' hc=>⟨(hc.block _ (by omega) (fun hk=>by rcases hk with hk | hk;omega;have:=hvl _ hk;omega)).trans hX,(hc.block _ (by omega) (fun hk=>by rcases hk with hk | hk;omega;have:=hvl _ hk;omega)).trans hY⟩
 have HW2:=hid hw2
 have HB2:=hid hb2
 have H0:=hid (Wrote.same hwr2)
 clear hw2 hs2 hX hY hb2 hwr2 hBl hvl h hx hd
 obtain⟨hx,hy⟩:=HC.out _ H0.out.chg
 have x0:=z0a (j:=0) (v:=.pointer (some ⟨B,0,none⟩)) hx rfl
 have y0:=z0a (j:=0) (v:=.int .u32 (no:Nat)) hy rfl
 have y1:=z0a (j:=1) (v:=.int .u8 (na:Nat)) hy rfl
 have y2:=z0a (j:=2) (v:=.int .u8 (nr:Nat)) hy rfl
 have y3:=z0a (j:=3) (v:=.int .i64 q) hy rfl
 clear hx hy
 go_enter Tryz.func162,Tryz.ntmps162
 go_wp2_with fail
 rw [HW2.out]
 obtain⟨v0,h0,o0⟩:=H0.out.wr
 refine (z7n B v0 (Lb) no 4 w2 h0 (by omega) (by omega) bo (by first | omega | (simp only [List.length_append,z0r];omega))).mono ?_
 rintro e x3 ⟨rfl,hw⟩
 have H1:=hid (H0.out.next o0 hw)
 clear hw h0 o0
 clear x0 y0 y1 y2 y3
 obtain⟨hx,hy⟩:=HC.out _ H1.out.chg
 have x0:=z0a (j:=0) (v:=.pointer (some ⟨B,0,none⟩)) hx rfl
 have y0:=z0a (j:=0) (v:=.int .u32 (no:Nat)) hy rfl
 have y1:=z0a (j:=1) (v:=.int .u8 (na:Nat)) hy rfl
 have y2:=z0a (j:=2) (v:=.int .u8 (nr:Nat)) hy rfl
 have y3:=z0a (j:=3) (v:=.int .i64 q) hy rfl
 clear hx hy
 go_wp2_with fail
 obtain⟨v1,h1,o1⟩:=H1.out.wr
 refine (z7n B v1 (Lb++le no 4) na 1 x3 h1 (by omega) (by omega) ba (by first | omega | (simp only [List.length_append,z0r];omega))).mono ?_
 rintro e x4 ⟨rfl,hw⟩
 have H2:=hid (H1.out.next o1 hw)
 clear hw h1 o1
 clear x0 y0 y1 y2 y3
 obtain⟨hx,hy⟩:=HC.out _ H2.out.chg
 have x0:=z0a (j:=0) (v:=.pointer (some ⟨B,0,none⟩)) hx rfl
 have y0:=z0a (j:=0) (v:=.int .u32 (no:Nat)) hy rfl
 have y1:=z0a (j:=1) (v:=.int .u8 (na:Nat)) hy rfl
 have y2:=z0a (j:=2) (v:=.int .u8 (nr:Nat)) hy rfl
 have y3:=z0a (j:=3) (v:=.int .i64 q) hy rfl
 clear hx hy
 go_wp2_with fail
 obtain⟨v2,h2,o2⟩:=H2.out.wr
 refine (z7n B v2 (Lb++le no 4++le na 1) nr 1 x4 h2 (by omega) (by omega) br (by first | omega | (simp only [List.length_append,z0r];omega))).mono ?_
 rintro e x5 ⟨rfl,hw⟩
 have H3:=hid (H2.out.next o2 hw)
 clear hw h2 o2
 clear x0 y0 y1 y2 y3
 obtain⟨hx,hy⟩:=HC.out _ H3.out.chg
 have x0:=z0a (j:=0) (v:=.pointer (some ⟨B,0,none⟩)) hx rfl
 have y0:=z0a (j:=0) (v:=.int .u32 (no:Nat)) hy rfl
 have y1:=z0a (j:=1) (v:=.int .u8 (na:Nat)) hy rfl
 have y2:=z0a (j:=2) (v:=.int .u8 (nr:Nat)) hy rfl
 have y3:=z0a (j:=3) (v:=.int .i64 q) hy rfl
 clear hx hy
 go_wp2_with fail
 obtain⟨v3,h3,o3⟩:=H3.out.wr
 refine (q2y B v3 (Lb++le no 4++le na 1++le nr 1) q x5 h3 hq (by first | omega | (simp only [List.length_append,z0r];omega))).mono ?_
 rintro e x6 ⟨rfl,hw⟩
 have H4:=hid (H3.out.next o3 hw)
 clear hw h3 o3
 clear x0 y0 y1 y2 y3
 go_wp2_with fail
 go_end0
 refine⟨rfl,?_⟩
 have hf:=Wrote.before (Chg.of_below HB2.out) H4.out
 simp only [List.append_assoc] at hf ⊢
 exact hf
theorem wlist_ln (B:Nat) (v:Value) (Lb:List Nat) (p:Option Addr) (n c:Nat) (L:List Ln) (w:World) (h:Wr w B v 512 (0,Lb)) (hL:∀ w',Chg (fun k=>k=B∨v.ownBlock=some k) w w'→LL w' p n c L) (hok:∀ x∈L,Lnok x) (hn:n≤20) (hl:Lb.length+9*n+1≤512) :
 Calls Tryz.prog 159 #[.agg #[.pointer (some ⟨B,0,none⟩)],.slice p n c,.func (.func 160) #[.agg #[.pointer (some ⟨B,0,none⟩)]] #[]] w (Wrot w B v 512 (0,Lb++le n 1++L.flatMap lnB)):=by
 have hll:=hL w (Chg.refl _ _)
 have HLN:=hid hll.len
 have hcap:=hll.cap
 have cn:IntKind.u64.wrap (n:Int)=n:=z2o _ (by omega)
 have HST:=hid fun j (hj:j<n)=>flat_take lnB L l0 j (by rw [hll.len];exact hj)
 have HET:Hid ((L.take n).flatMap lnB=L.flatMap lnB):=hid (by rw [← hll.len,List.take_length])
 have HFL:Hid (∀ j,j≤n→((L.take j).flatMap lnB).length=9*j):=hid fun j hj=>by rw [z8e,List.length_take,hll.len];congr 1;omega
 have HOK:=hid fun j (hj:j<n)=>(show Lnok (L.getD j l0) from by rw [List.getD,List.getElem?_eq_getElem (by rw [hll.len];exact hj)];exact hok _ (List.getElem_mem _))
 obtain⟨w2,hw2,hs2,hX,hb2⟩:∃ w2,w.alloc (wbox B)=w2∧w2.heap.size=w.heap.size+1∧w2.heap[w.heap.size]?=some (.cells #[.pointer (some ⟨B,0,none⟩)] 231 (0,0))∧Below w.heap.size w w2:=⟨_,rfl,by simp,z0b w _,(Below.refl _ _).alloc (Nat.le_refl _) _⟩
 have hwr2:=h.chg (Chg.of_below (S:=fun _=>False) hb2) (fun h=>h) (fun _ _ h=>h)
 have hBl:=h.lt
 have hvl:=h.row.bound
 have HC:Hid (∀ w',Chg (fun k=>k=B∨v.ownBlock=some k) w2 w'→w'.cell? ⟨w.heap.size,0,none⟩=some (.pointer (some ⟨B,0,none⟩))):=hid fun w' hc=>z0a ((hc.block _ (by omega) (fun hk=>by rcases hk with hk | hk;omega;have:=hvl _ hk;omega)).trans hX) rfl
 have HL2:Hid (∀ w',Chg (fun k=>k=B∨v.ownBlock=some k) w2 w'→LL w' p n c L):=hid fun w' hc=>hL w' ((Chg.of_below hb2).trans hc fun _ _ h=>h)
 have HW2:=hid hw2
 have HB2:=hid hb2
 have H0:=hid (Wrote.same hwr2)
 clear hw2 hs2 hX hb2 hwr2 hBl hvl h hL hok hll
 have x0:=HC.out _ H0.out.chg
 go_enter Tryz.func159,Tryz.ntmps159
 go_wp2_with fail
 rw [HW2.out]
 obtain⟨v0,h0,o0⟩:=H0.out.wr
 refine (z7n B v0 Lb n 1 w2 h0 (by omega) (by omega) (by omega) (by omega)).mono ?_
 rintro e w3 ⟨rfl,hw⟩
 have H1:=hid (H0.out.next o0 hw)
 clear hw h0 o0 x0
 go_wp2_with fail
 go_loopw [16] (fun i wr=>∃ j:Nat,j≤n∧i=.int .i64 j∧Hid (Wrote w2 B v 512 (0,Lb++le n 1++(L.take j).flatMap lnB) wr)) (fun i _=>n-(Go.RowKit.intOf i).toNat)
 case atStart=>exact⟨0,Nat.zero_le _,rfl,hid (by rw [List.take_zero,List.flatMap_nil,List.append_nil];exact H1.out)⟩
 case round =>
  obtain⟨j,hj,rfl,HW⟩:=hrel
  by_cases hlt:j<n
  case neg =>
   obtain rfl:n=j:=by omega
   have hf:=HW.out
   rw [HET.out] at hf
   have HF:=hid (Wrote.before (Chg.of_below HB2.out) hf)
   clear hf
   go_wp2_with fail
   go_end0
   exact⟨rfl,HF.out⟩
  have hlt':(j:Int)<n:=by omega
  obtain⟨b,off,rfl,_,k0,k1⟩:=z2f (HL2.out wr HW.out.chg) hlt
  have hst:=HST.out j hlt
  have hok:=HOK.out j hlt
  generalize L.getD j l0=x at *
  obtain⟨a,q⟩:=x
  dsimp only at k0 k1 hst
  have HS:=hid hst
  have hba:Below wr.heap.size wr (wr.alloc (.cells #[.int .u8 a,.int .i64 q] 234)):=(Below.refl _ _).alloc (Nat.le_refl _) _
  obtain⟨v1,hv1,ho1⟩:=HW.out.wr
  have hone:=line_w B v1 (Lb++le n 1++(L.take j).flatMap lnB) a q (wr.alloc (.cells #[.int .u8 a,.int .i64 q] 234)) (hv1.chg (Chg.of_below (S:=fun _=>False) hba) (fun h=>h) (fun _ _ h=>h)) hok (by rw [List.length_append,List.length_append,z0r,HFL.out j hj];omega)
  have HO1:=hid ho1
  have HBA:=hid hba
  have HON:=hid hone
  clear hst hok hba hv1 ho1 hone
  go_wp2_with fail
  refine HON.out.mono ?_
  rintro e w4 ⟨rfl,hw⟩
  have H2:=hid (HW.out.next HO1.out (Wrote.before (Chg.of_below HBA.out) hw))
  clear hw
  go_wp2_with fail
  go_roundw
  case rel=>exact⟨j+1,by omega,by go_num,hid (by rw [HS.out,← List.append_assoc];exact H2.out)⟩
  case measure=>simp [Go.RowKit.intOf];omega
theorem wlist_tk (B:Nat) (v:Value) (Lb:List Nat) (p:Option Addr) (n c:Nat) (L:List Tk) (w:World) (h:Wr w B v 512 (0,Lb)) (hL:∀ w',Chg (fun k=>k=B∨v.ownBlock=some k) w w'→TKL w' p n c L) (hok:∀ x∈L,Tkok x) (hn:n≤20) (hl:Lb.length+14*n+1≤512) :
 Calls Tryz.prog 161 #[.agg #[.pointer (some ⟨B,0,none⟩)],.slice p n c,.func (.func 162) #[.agg #[.pointer (some ⟨B,0,none⟩)]] #[]] w (Wrot w B v 512 (0,Lb++le n 1++L.flatMap tkBy)):=by
 have hll:=hL w (Chg.refl _ _)
 have HLN:=hid hll.len
 have hcap:=hll.cap
 have cn:IntKind.u64.wrap (n:Int)=n:=z2o _ (by omega)
 have HST:=hid fun j (hj:j<n)=>flat_take tkBy L tk0 j (by rw [hll.len];exact hj)
 have HET:Hid ((L.take n).flatMap tkBy=L.flatMap tkBy):=hid (by rw [← hll.len,List.take_length])
 have HFL:Hid (∀ j,j≤n→((L.take j).flatMap tkBy).length=14*j):=hid fun j hj=>by rw [z9d,List.length_take,hll.len];congr 1;omega
 have HOK:=hid fun j (hj:j<n)=>(show Tkok (L.getD j tk0) from by rw [List.getD,List.getElem?_eq_getElem (by rw [hll.len];exact hj)];exact hok _ (List.getElem_mem _))
 obtain⟨w2,hw2,hs2,hX,hb2⟩:∃ w2,w.alloc (wbox B)=w2∧w2.heap.size=w.heap.size+1∧w2.heap[w.heap.size]?=some (.cells #[.pointer (some ⟨B,0,none⟩)] 231 (0,0))∧Below w.heap.size w w2:=⟨_,rfl,by simp,z0b w _,(Below.refl _ _).alloc (Nat.le_refl _) _⟩
 have hwr2:=h.chg (Chg.of_below (S:=fun _=>False) hb2) (fun h=>h) (fun _ _ h=>h)
 have hBl:=h.lt
 have hvl:=h.row.bound
 have HC:Hid (∀ w',Chg (fun k=>k=B∨v.ownBlock=some k) w2 w'→w'.cell? ⟨w.heap.size,0,none⟩=some (.pointer (some ⟨B,0,none⟩))):=hid fun w' hc=>z0a ((hc.block _ (by omega) (fun hk=>by rcases hk with hk | hk;omega;have:=hvl _ hk;omega)).trans hX) rfl
 have HL2:Hid (∀ w',Chg (fun k=>k=B∨v.ownBlock=some k) w2 w'→TKL w' p n c L):=hid fun w' hc=>hL w' ((Chg.of_below hb2).trans hc fun _ _ h=>h)
 have HW2:=hid hw2
 have HB2:=hid hb2
 have H0:=hid (Wrote.same hwr2)
 clear hw2 hs2 hX hb2 hwr2 hBl hvl h hL hok hll
 have x0:=HC.out _ H0.out.chg
 go_enter Tryz.func161,Tryz.ntmps161
 go_wp2_with fail
 rw [HW2.out]
 obtain⟨v0,h0,o0⟩:=H0.out.wr
 refine (z7n B v0 Lb n 1 w2 h0 (by omega) (by omega) (by omega) (by omega)).mono ?_
 rintro e w3 ⟨rfl,hw⟩
 have H1:=hid (H0.out.next o0 hw)
 clear hw h0 o0 x0
 go_wp2_with fail
 go_loopw [16] (fun i wr=>∃ j:Nat,j≤n∧i=.int .i64 j∧Hid (Wrote w2 B v 512 (0,Lb++le n 1++(L.take j).flatMap tkBy) wr)) (fun i _=>n-(Go.RowKit.intOf i).toNat)
 case atStart=>exact⟨0,Nat.zero_le _,rfl,hid (by rw [List.take_zero,List.flatMap_nil,List.append_nil];exact H1.out)⟩
 case round =>
  obtain⟨j,hj,rfl,HW⟩:=hrel
  by_cases hlt:j<n
  case neg =>
   obtain rfl:n=j:=by omega
   have hf:=HW.out
   rw [HET.out] at hf
   have HF:=hid (Wrote.before (Chg.of_below HB2.out) hf)
   clear hf
   go_wp2_with fail
   go_end0
   exact⟨rfl,HF.out⟩
  have hlt':(j:Int)<n:=by omega
  obtain⟨b,off,rfl,_,k0,k1,k2,k3⟩:=z1l (HL2.out wr HW.out.chg) hlt
  have hst:=HST.out j hlt
  have hok:=HOK.out j hlt
  generalize L.getD j tk0=x at *
  obtain⟨o,a,r,q⟩:=x
  dsimp only at k0 k1 k2 k3 hst
  have HS:=hid hst
  have hba:Below wr.heap.size wr (wr.alloc (.cells #[.int .u32 o,.int .u8 a,.int .u8 r,.int .i64 q] 204)):=(Below.refl _ _).alloc (Nat.le_refl _) _
  obtain⟨v1,hv1,ho1⟩:=HW.out.wr
  have hone:=take_w B v1 (Lb++le n 1++(L.take j).flatMap tkBy) o a r q (wr.alloc (.cells #[.int .u32 o,.int .u8 a,.int .u8 r,.int .i64 q] 204)) (hv1.chg (Chg.of_below (S:=fun _=>False) hba) (fun h=>h) (fun _ _ h=>h)) hok (by rw [List.length_append,List.length_append,z0r,HFL.out j hj];omega)
  have HO1:=hid ho1
  have HBA:=hid hba
  have HON:=hid hone
  clear hst hok hba hv1 ho1 hone
  go_wp2_with fail
  refine HON.out.mono ?_
  rintro e w4 ⟨rfl,hw⟩
  have H2:=hid (HW.out.next HO1.out (Wrote.before (Chg.of_below HBA.out) hw))
  clear hw
  go_wp2_with fail
  go_roundw
  case rel=>exact⟨j+1,by omega,by go_num,hid (by rw [HS.out,← List.append_assoc];exact H2.out)⟩
  case measure=>simp [Go.RowKit.intOf];omega
structure Rr (w:World) (B:Nat) (p0:Option Addr) (S:St):Prop where
 box:∃ p n c,w.heap[B]?=some (.cells #[.slice p n c,.int .i64 S.1] 162 (0,0))∧(S.1=0→Part w p0 p n c S.2)
 apart:S.1=0→S.2≠[]→∀ a,p0=some a→a.block<B
theorem Part.keep {w w':World} {p0 q:Option Addr} {m d:Nat} {M:List Nat} {B:Nat} (h:Part w p0 q m d M) (ha:∀ a,p0=some a→a.block≠B) (hc:Chg (fun k=>k=B) w w'):Part w' p0 q m d M:=by
 refine⟨h.1.keep fun a he hlt=>hc.block a.block hlt ?_,h.2.1,h.2.2⟩
 obtain⟨a',hp,hb⟩:=h.2.1 a he
 rw [hb]
 exact ha a' hp
theorem Rr.later {w w':World} {B:Nat} {p0:Option Addr} {S:St} (h:Rr w B p0 S) (hb:Below w.heap.size w w'):Rr w' B p0 S:=by
 obtain⟨p,n,c,h1,h2⟩:=h.box
 exact⟨⟨p,n,c,z0c h1 hb,fun h0=>⟨(h2 h0).1.later hb,(h2 h0).2⟩⟩,h.apart⟩
theorem z7m {S:St} (h:S.1≠0) (size:Int) (hs:1≤size∧size≤8):numR S size=(S,0):=by
 unfold numR z1i
 rw [if_pos hs,if_neg h];rfl
theorem z2a {w:World} {X:Nat} {c:Array Value} {t:TypeId} (h:w.heap[X]?=some (.cells c t (0,0))) (j:Nat):w.frozen? ⟨X,j,none⟩=false:=by
 simp [World.frozen?,h]
theorem z0n {w:World} {B:Nat} {p0:Option Addr} {S:St} (h:Rr w B p0 S) (size:Int) (hs:1≤size∧size≤8) :
 Calls Tryz.prog 94 #[.pointer (some ⟨B,0,none⟩),.int .i64 size] w fun e w'=>e=.returned (.int .u64 (((numR S size).2:Nat):Int))∧Rr w' B p0 (numR S size).1∧Chg (fun k=>k=B) w w':=by
 obtain⟨p,n,c,hb,hp⟩:=h.box
 have e0:w.cell? ⟨B,0,none⟩=some (.slice p n c):=z0a hb rfl
 have e1:w.cell? ⟨B,1,none⟩=some (.int .i64 S.1):=z0a hb rfl
 by_cases h0:S.1=0
 case neg =>
  have hd:(S.1 != 0)=true:=by simpa using h0
  have hn:=z7m h0 size hs
  have HR:=hid h
  rw [hn]
  clear hn h0 hp hb h
  generalize S.1=s1 at *
  go_enter Tryz.func94,Tryz.ntmps94
  go_wp2_with fail
  go_ret
  exact⟨rfl,HR.out,Chg.refl _ _⟩
 obtain⟨s,L⟩:=S
 obtain rfl:s=0:=h0
 have hpt:=hp rfl
 have hgn:=z6t p n c L size w hpt.1 hpt.2.2
 have HP:=hid hpt
 have HA:=hid (h.apart rfl)
 have hap:(numR (0,L) size).1.1=0→L≠[]:=by
  rintro hz rfl
  unfold numR z1i at hz
  rw [if_pos hs,if_pos rfl,if_pos (by simp;omega)] at hz
  have h6:(6:Int)=0:=hz
  exact absurd h6 (by decide)
 have HAP:=hid hap
 clear hap
 have HBX:=hid hb
 dsimp only at e1
 clear hp hpt h hb
 go_enter Tryz.func94,Tryz.ntmps94
 go_wp2_with fail
 refine hgn.mono ?_
 rintro e w2 ⟨q,m,d,kk,rfl,hq,rfl⟩
 have HQ:=hid (show Part (w.drewN kk) p0 q m d (z5l (numR (0,L) size).1) from ⟨hq.1.later (z0f (Below.refl _ _) kk),hq.2.1.trans HP.out.2.1,hq.2.2⟩)
 have hb2:=z0c HBX.out (z0f (Below.refl w.heap.size w) kk)
 have e0':(w.drewN kk).cell? ⟨B,0,none⟩=some (.slice p n c):=z0a hb2 rfl
 have e1':(w.drewN kk).cell? ⟨B,1,none⟩=some (.int .i64 0):=z0a hb2 rfl
 have f0:=z2a hb2 0
 have f1:=z2a hb2 1
 have hb3:=z0u 0 (.slice q m d) hb2
 have f3:=z2a hb3 1
 have e3:((w.drewN kk).setCell ⟨B,0,none⟩ (.slice q m d)).cell? ⟨B,1,none⟩=some (.int .i64 0):=z0a hb3 (by simp)
 have hb4:=z0u 1 (.int .i64 (numR (0,L) size).1.1) hb3
 have hc4:Chg (fun k=>k=B) w (((w.drewN kk).setCell ⟨B,0,none⟩ (.slice q m d)).setCell ⟨B,1,none⟩ (.int .i64 (numR (0,L) size).1.1)) :=
  (((Chg.refl (fun k=>k=B) w).drewN kk).setCell ⟨B,0,none⟩ _ fun _=>rfl).setCell ⟨B,1,none⟩ _ fun _=>rfl
 have HBOX:Hid ((((w.drewN kk).setCell ⟨B,0,none⟩ (.slice q m d)).setCell ⟨B,1,none⟩ (.int .i64 (numR (0,L) size).1.1)).heap[B]?=some (.cells #[.slice q m d,.int .i64 (numR (0,L) size).1.1] 162 (0,0))):=hid (by simpa using hb4)
 have HC4:=hid hc4
 have HQ4:Hid ((numR (0,L) size).1.1=0→Part (((w.drewN kk).setCell ⟨B,0,none⟩ (.slice q m d)).setCell ⟨B,1,none⟩ (.int .i64 (numR (0,L) size).1.1)) p0 q m d (z5l (numR (0,L) size).1)):=hid fun hz=>(HQ.out.keep (fun a ha=>Nat.ne_of_lt (HA.out (HAP.out hz) a ha)) (((Chg.refl (fun k=>k=B) (w.drewN kk)).setCell ⟨B,0,none⟩ _ fun _=>rfl).setCell ⟨B,1,none⟩ _ fun _=>rfl))
 clear hgn hq hb2 hb3 hb4 hc4 HQ
 have hrest:∀ S:St,S.1=0→z5l S=S.2:=fun S h=>if_pos h
 generalize hRR:numR (0,L) size=R at *
 obtain⟨⟨s2,L2⟩,x⟩:=R
 have HRR:=hid hRR
 dsimp only at e1' HBOX HC4 HQ4
 have HREST:=hid hrest
 clear hrest hRR
 go_wp2_with fail
 go_ret
 rw [HRR.out]
 refine⟨rfl,⟨⟨q,m,d,HBOX.out,fun hz=>?_⟩,fun hz _=>HA.out (HAP.out hz)⟩,HC4.out⟩
 have:=HQ4.out hz
 rw [HREST.out (s2,L2) hz] at this
 exact this
theorem z5m {w:World} {B:Nat} {p0:Option Addr} {S:St} (h:Rr w B p0 S) :
 Calls Tryz.prog 96 #[.pointer (some ⟨B,0,none⟩)] w fun e w'=>e=.returned (.int .i64 (wrap64 (((numR S 8).2:Nat):Int)))∧Rr w' B p0 (numR S 8).1∧Chg (fun k=>k=B) w w':=by
 have hn:=z0n h 8 (by omega)
 clear h
 go_enter Tryz.func96,Tryz.ntmps96
 go_wp2_with fail
 refine hn.mono ?_
 rintro e w2 ⟨rfl,hr,hc⟩
 have HR:=hid hr
 have HC:=hid hc
 clear hn hr hc
 go_wp2_with fail
 go_ret
 exact⟨rfl,HR.out,HC.out⟩
def z6h (S:St) (most:Nat):St × Nat:=if (numR S 1).1.1=0 then (if most<(numR S 1).2 then ((8,(numR S 1).1.2),0) else ((numR S 1).1,(numR S 1).2)) else ((numR S 1).1,0)
theorem z1p {w:World} {B:Nat} {p0:Option Addr} {S:St} (h:Rr w B p0 S):(numR S 1).2<256:=by
 by_cases h0:S.1=0
 · obtain⟨p,n,c,_,hp⟩:=h.box
   have hlt:=(hp h0).1.lt
   unfold numR z1i
   rw [if_pos (by omega),if_pos h0]
   split
   · show un []<256
     simp [un]
   · show un (S.2.take 1)<256
     match S.2,hlt with
     | [],_=>simp [un]
     | b::l,hlt =>
      have:=hlt b (List.mem_cons.2 (.inl rfl))
      simpa [un] using this
 · rw [z7m h0 1 (by omega)]
   show 0<256
   omega
theorem pgcount_any {w:World} {B:Nat} {p0:Option Addr} {S:St} (h:Rr w B p0 S) (most:Nat) (hm:most≤1000) :
 Calls Tryz.prog 172 #[.pointer (some ⟨B,0,none⟩),.int .i64 (most:Nat)] w fun e w'=>e=.returned (.int .i64 (((z6h S most).2:Nat):Int))∧Rr w' B p0 (z6h S most).1∧Chg (fun k=>k=B) w w':=by
 have hn:=z0n h 1 (by omega)
 have hx:=z1p h
 clear h
 have hco:z6h S most=if (numR S 1).1.1=0 then (if most<(numR S 1).2 then ((8,(numR S 1).1.2),0) else ((numR S 1).1,(numR S 1).2)) else ((numR S 1).1,0):=rfl
 rw [hco]
 clear hco
 generalize numR S 1=R at *
 obtain⟨⟨s2,L2⟩,x⟩:=R
 dsimp only at hn hx ⊢
 have hwx:wrap64 (x:Int)=x:=IntWalk.wrap64_in _ (by omega)
 by_cases h0:s2=0
 case neg =>
  rw [if_neg h0]
  have hd:(s2==0)=false:=by simpa using h0
  have hd2:(s2 != 0)=true:=by simpa using h0
  clear h0
  go_enter Tryz.func172,Tryz.ntmps172
  go_wp2_with fail
  refine hn.mono ?_
  rintro e w2 ⟨rfl,hr,hc⟩
  obtain⟨p,n,c,hb,_⟩:=hr.box
  have e1:w2.cell? ⟨B,1,none⟩=some (.int .i64 s2):=z0a hb rfl
  have HR:=hid hr
  have HC:=hid hc
  clear hn hr hc hb
  go_wp2_with fail
  go_ret
  exact⟨rfl,HR.out,HC.out⟩
 subst h0
 rw [if_pos rfl]
 by_cases hmx:most<x
 case neg =>
  rw [if_neg hmx]
  have hd:decide ((most:Int)<(x:Int))=false:=decide_eq_false (by omega)
  have hdn:decide (most<x)=false:=decide_eq_false hmx
  clear hmx
  go_enter Tryz.func172,Tryz.ntmps172
  go_wp2_with fail
  refine hn.mono ?_
  rintro e w2 ⟨rfl,hr,hc⟩
  obtain⟨p,n,c,hb,_⟩:=hr.box
  have e1:w2.cell? ⟨B,1,none⟩=some (.int .i64 0):=z0a hb rfl
  have HR:=hid hr
  have HC:=hid hc
  clear hn hr hc hb
  go_wp2_with fail
  go_ret
  exact⟨rfl,HR.out,HC.out⟩
 rw [if_pos hmx]
 have hd:decide ((most:Int)<(x:Int))=true:=decide_eq_true (by omega)
 have hdn:decide (most<x)=true:=decide_eq_true hmx
 clear hmx
 go_enter Tryz.func172,Tryz.ntmps172
 go_wp2_with fail
 refine hn.mono ?_
 rintro e w2 ⟨rfl,hr,hc⟩
 obtain⟨p,n,c,hb,_⟩:=hr.box
 have e1:w2.cell? ⟨B,1,none⟩=some (.int .i64 0):=z0a hb rfl
 have f1:=z2a hb 1
 have hb3:=z0u 1 (.int .i64 8) hb
 have hc3:Chg (fun k=>k=B) w (w2.setCell ⟨B,1,none⟩ (.int .i64 8)):=hc.setCell ⟨B,1,none⟩ _ fun _=>rfl
 have HBOX:Hid ((w2.setCell ⟨B,1,none⟩ (.int .i64 8)).heap[B]?=some (.cells #[.slice p n c,.int .i64 8] 162 (0,0))):=hid (by simpa using hb3)
 have HA:=hid hr.apart
 have HC:=hid hc3
 have e3:(w2.setCell ⟨B,1,none⟩ (.int .i64 8)).cell? ⟨B,1,none⟩=some (.int .i64 8):=z0a HBOX.out rfl
 clear hn hr hc hb hb3 hc3
 go_wp2_with fail
 go_ret
 exact⟨rfl,⟨⟨p,n,c,HBOX.out,fun hz=>by cases hz⟩,fun hz=>by cases hz⟩,HC.out⟩
end Go.Proofs.YtfdgnniicjdjdaaGreatDoor
