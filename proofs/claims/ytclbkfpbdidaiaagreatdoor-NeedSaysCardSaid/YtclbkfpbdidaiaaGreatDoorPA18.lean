import Derived.Test.YtclbkfpbdidaiaaGreatDoorPA17
import Derived.Deep.Fields
namespace Go.Proofs.YtclbkfpbdidaiaaGreatDoor
open Go.Lib (hid)
open Go.RowKit Go.ChangeShapes Go.WideShapes Go.Deep
set_option linter.unusedVariables false
set_option maxRecDepth 10000
structure Item where
 k:Nat
 x:Nat
 n:Int
 p:Option Addr
 m:Nat
 c:Nat
 L:List Nat
instance:Inhabited Item:=⟨⟨0,0,0,none,0,0,[]⟩⟩
section
variable {H:Type} {enc:TypeId × Value→H} {P:Program} {w:World} {base:Nat} {spare:Nat→Bool} {held:Bool}
end
end Go.Proofs.YtclbkfpbdidaiaaGreatDoor
namespace Go.Proofs.YtclbkfpbdidaiaaGreatDoor
open Go.Lib (hid)
open Go.RowKit Go.ChangeShapes Go.WideShapes
set_option linter.unusedVariables false
set_option maxRecDepth 10000
def Few (len:Nat) (its:Nat→Item):Prop:=len≤30∧∀ i,i<len→(its i).m≤300
def Item.val (it:Item):Value:=.agg #[.int .u8 ((it.k:Nat):Int),.int .u64 ((it.x:Nat):Int),.int .i64 it.n,.slice it.p it.m it.c]
theorem rnum_any (x n:Nat) (w:World) (hx:x<18446744073709551616) (hn:n≤8) :
 Calls Tryz.prog 116 #[.int .u64 (x:Int),.int .i64 n] w (Copied w n (le x n)):=by
 have HO:=hid (own_none w)
 have HB:Hid (Below w.heap.size w (w.alloc (.cells #[] 5))):=hid ((Below.refl _ _).alloc (Nat.le_refl _) _)
 go_enter Tryz.func116,Tryz.ntmps116
 go_wp2_with fail
 go_loopw [0,5,6] (fun y v i wr=>∃ (j:Nat) (p:Option Addr) (c:Nat),j≤n∧i=.int .i64 j∧y=.int .u64 ((x / 256 ^ j:Nat):Int)∧v=.slice p j c∧Row wr (.slice p j c) j (le x j)∧Below w.heap.size w wr∧∀ k,(Value.slice p j c).ownBlock=some k→w.heap.size≤k) (fun _ _ i _=>n-(intOf i).toNat)
 case atStart=>exact⟨0,_,_,Nat.zero_le _,rfl,by simp,rfl,HO.out,HB.out,fun k hk=>by simp [Value.ownBlock] at hk;omega⟩
 case round =>
  obtain⟨j,p,c,hj,rfl,rfl,rfl,hr,hb,ho⟩:=hrel
  have HR:=hid hr
  have HBB:=hid hb
  have HOO:=hid ho
  clear hr hb ho
  have hlt2:x / 256 ^ j<18446744073709551616:=Nat.lt_of_le_of_lt (Nat.div_le_self _ _) hx
  by_cases hlt:j<n
  · have HN:Hid (x / 256 ^ (j+1)=x / 256 ^ j / 256):=hid (by rw [Nat.pow_succ,Nat.div_div_eq_div_mul])
    have HS:=hid (le_snoc j x)
    generalize hy:x / 256 ^ (j+1)=z at *
    have HY:=hid hy
    clear hy
    generalize x / 256 ^ j=y at *
    have HRA:Hid (Row (wr.alloc (.cells #[.int .u8 ((y:Int) % 256)] 5)) (.slice p j c) j (le x j)):=hid (HR.out.chg ((Chg.refl (fun _=>False) _).alloc _) fun _ _ h=>h)
    have HSA:Hid (Sl (wr.alloc (.cells #[.int .u8 ((y:Int) % 256)] 5)) (some ⟨wr.heap.size,0,none⟩) 1 1 [y % 256]):=hid (by have:=sl_one (y % 256) (by omega) wr;rw [show (((y % 256:Nat):Int))=(y:Int) % 256 by omega] at this;exact this)
    go_wp2_with (at_builtin;refine z1w rfl _ _ rfl _ _ (le x j) rfl HRA.out _ _ _ [y % 256] rfl HSA.out (by omega) ?_)
    intro v' w' hr hc hk
    rw [← HS.out] at hr
    obtain⟨p',c',rfl,_⟩:=hr.sl
    have HF:Hid (Row w' (.slice p' (j+1) c') (j+1) (le x (j+1))∧Below w.heap.size w w'∧∀ k,(Value.slice p' (j+1) c').ownBlock=some k→w.heap.size≤k):=hid ⟨hr,hc.below (HBB.out.alloc HBB.out.size _) (Nat.le_trans HBB.out.size (by simp)) HOO.out,fun k hk'=>by
     rcases hk k hk' with h | h
     · exact HOO.out k h
     · have:=HBB.out.size;omega⟩
    clear hr hc hk
    go_wp2_with fail
    go_roundw
    case rel=>exact⟨j+1,p',c',by omega,by go_num,by rw [HY.out,HN.out];congr 1,rfl,HF.out.1,HF.out.2.1,HF.out.2.2⟩
    case measure=>simp [intOf];omega
  · obtain rfl:j=n:=by omega
    go_wp2_with fail
    go_ret
    exact⟨_,rfl,HR.out,HBB.out,HOO.out⟩
theorem rint_any (x:Nat) (w:World) (hx:x<18446744073709551616) :
 Calls Tryz.prog 120 #[.int .i64 (sgn x)] w (Copied w 8 (le x 8)):=by
 have HN:=hid (rnum_any x 8 w hx (Nat.le_refl _))
 have HS:=hid (wrap_sgn x hx)
 go_enter Tryz.func120,Tryz.ntmps120
 go_wp2_with fail
 rw [HS.out]
 refine HN.out.mono ?_
 rintro e w1 ⟨v,rfl,h1,h2,h3⟩
 have HF:Hid (∃ v',v'=v∧Row w1 v' 8 (le x 8)∧Below w.heap.size w w1∧∀ k,v'.ownBlock=some k→w.heap.size≤k):=hid ⟨v,rfl,h1,h2,h3⟩
 clear h1 h2 h3
 go_wp2_with fail
 go_ret
 obtain⟨v',rfl,h1,h2,h3⟩:=HF.out
 exact⟨_,rfl,h1,h2,h3⟩
theorem rbool_any (b:Bool) (w:World) :
 Calls Tryz.prog 119 #[.bool b] w fun e w'=>∃ q d,e=.returned (.slice q 1 d)∧Sl w' q 1 d [bit b]∧Below w.heap.size w w':=by
 cases b with
 | true =>
  have HS:=hid (sl_one 1 (by omega) w)
  have HB:Hid (Below w.heap.size w (w.alloc (.cells #[.int .u8 1] 5))):=hid ((Below.refl _ _).alloc (Nat.le_refl _) _)
  go_enter Tryz.func119,Tryz.ntmps119
  go_wp2_with fail
  go_ret
  exact⟨_,_,rfl,HS.out,HB.out⟩
 | false =>
  have HS:=hid (sl_one 0 (by omega) w)
  have HB:Hid (Below w.heap.size w (w.alloc (.cells #[.int .u8 0] 5))):=hid ((Below.refl _ _).alloc (Nat.le_refl _) _)
  go_enter Tryz.func119,Tryz.ntmps119
  go_wp2_with fail
  go_ret
  exact⟨_,_,rfl,HS.out,HB.out⟩
theorem rbytes_any (p:Option Addr) (m c:Nat) (L:List Nat) (w:World) (hs:Sl w p m c L) (hm:m≤65535) :
 Calls Tryz.prog 117 #[.slice p m c] w (Copied w (2+m) (le m 2++L)):=by
 have HN:=hid (rnum_any m 2 w (by omega) (by omega))
 have HS:=hid hs
 clear hs
 go_enter Tryz.func117,Tryz.ntmps117
 go_wp2_with fail
 refine HN.out.mono ?_
 rintro e w1 ⟨v,rfl,h1,h2,h3⟩
 have HR:=hid h1
 have HB:=hid h2
 have HO:=hid h3
 have HS1:=hid (HS.out.later h2)
 obtain⟨pv,cv,rfl,_⟩:=h1.sl
 clear h1 h2 h3
 go_wp2_with (at_builtin;refine z1w rfl _ _ rfl _ _ (le m 2) rfl HR.out _ _ _ L rfl HS1.out (by omega) ?_)
 intro v' w' hr hc hk
 obtain⟨p',c',rfl,_⟩:=hr.sl
 have HF:Hid (Row w' (.slice p' (2+m) c') (2+m) (le m 2++L)∧Below w.heap.size w w'∧∀ k,(Value.slice p' (2+m) c').ownBlock=some k→w.heap.size≤k):=hid ⟨hr,hc.below HB.out HB.out.size HO.out,fun k hk'=>by
  rcases hk k hk' with h | h
  · exact HO.out k h
  · exact Nat.le_trans HB.out.size h⟩
 clear hr hc hk
 go_wp2_with fail
 go_ret
 exact⟨_,rfl,HF.out⟩
end Go.Proofs.YtclbkfpbdidaiaaGreatDoor
