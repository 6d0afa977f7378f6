import Derived.Test.YtfdgnniicjdjdaaGreatDoorProg
import Derived.Test.YtfdgnniicjdjdaaGreatDoorPS07
import Derived.WalkKit
import Derived.ProofKit
import Derived.Lib.Hide
import Derived.OpenShut
namespace Go.Proofs.YtfdgnniicjdjdaaGreatDoor
open Go.Lib (hid)
open Go.RowKit Go.ChangeShapes
set_option linter.unusedVariables false
def Tab (w:World):Prop:=∀ i,i<16→w.cell? ⟨1,i,none⟩=some (.int .u32 ((halfTab.getD i 0:Nat):Int))
theorem Tab.lt {w:World} (h:Tab w):1<w.heap.size:=World.block_lt_of_cell? _ _ (h 0 (by omega))
theorem Tab.later {w w':World} {B:Nat} (h:Tab w) (hb:Below B w w') (hB:1<B):Tab w':=fun i hi=>by
 rw [hb.cell (p:=⟨1,i,none⟩) hB];exact h i hi
theorem half_any (r:Nat) (w:World) (hr:r<4294967296) (h:Tab w) :
 Calls Tryz.prog 173 #[.int .u32 (r:Int)] w fun e w'=>e=.returned (.int .u32 ((its 4 r:Nat):Int))∧w=w':=by
 have hb:bits .and .u32 (r:Int) 15=((r % 16:Nat):Int):=by
  have:=u32_and_nat r 15 hr (by omega)
  rw [nat_mask4] at this
  exact this
 have hc:=h (r % 16) (by omega)
 have hx:bits .xor .u32 ((r:Int) / 16) ((halfTab.getD (r % 16) 0:Nat):Int)=((its 4 r:Nat):Int):=by
  have:=u32_xor_nat (r / 16) (halfTab.getD (r % 16) 0) (by omega) (halfTab_lt _ (by omega))
  rw [half_its] at this
  simpa using this
 generalize its 4 r=y at hx ⊢
 generalize halfTab.getD (r % 16) 0=z at hx hc
 clear h
 go_enter Tryz.func173,Tryz.ntmps173
 go_wp2_with fail
 go_ret
 exact⟨rfl,rfl⟩
def q2u (w:World) (p:Option Addr) (n:Nat) (f:Nat→Nat):Prop :=
 (∀ j,j<n→f j<256)∧(0<n→∃ b off,p=some ⟨b,off,none⟩∧b<w.heap.size∧∀ j,j<n→w.cell? ⟨b,off+j,none⟩=some (.int .u8 ((f j:Nat):Int)))
theorem more_any (s:Nat) (p:Option Addr) (n cap:Nat) (f:Nat→Nat) (w:World) (hs:s<4294967296) (hB:q2u w p n f) (hbig:n≤1000000) (hT:Tab w) :
 Calls Tryz.prog 154 #[.int .u32 (s:Int),.slice p n cap] w fun e w'=>e=.returned (.int .u32 ((4294967295-runF (4294967295-s) f n:Nat):Int))∧w=w':=by
 have HT:=hid hT
 have HB:=hid hB
 have hn (x:Nat) (h:x<4294967296):bits .xor .u32 IntKind.u32.max (x:Int)=((4294967295-x:Nat):Int):=by
  rw [show IntKind.u32.max=4294967295 by rfl]
  have:=u32_xor_nat 4294967295 x (by omega) h
  rw [← not_nat x h] at this
  exact this
 have h0:=hn s hs
 have HN:=hid hn
 clear hT hB hn
 have hq:(4294967295-s:Nat)<4294967296:=by omega
 generalize (4294967295-s:Nat)=q at *
 go_enter Tryz.func154,Tryz.ntmps154
 go_wp2_with fail
 go_loop [5,12] (fun r i=>∃ k:Nat,k≤n∧r=.int .u32 ((runF q f k:Nat):Int)∧i=.int .i64 k) (fun _ i=>n-(intOf i).toNat)
 case atStart=>exact⟨0,Nat.zero_le _,rfl,rfl⟩
 case round =>
  obtain⟨k,hk,rfl,rfl⟩:=hrel
  by_cases hlt:k<n
  · obtain⟨b,off,rfl,hbl,hc⟩:=HB.out.2 (by omega)
    have hck:=hc k hlt
    have hfk:=HB.out.1 k hlt
    have hrk:runF q f k<4294967296:=q0i q f hq k fun j hj=>HB.out.1 j (by omega)
    have hx:=u32_xor_nat (runF q f k) (f k) hrk (by omega)
    have hlt2:runF q f k ^^^ f k<4294967296:=Nat.xor_lt_two_pow (n:=32) hrk (by omega)
    have he:Hid (its 4 (its 4 (runF q f k ^^^ f k))=runF q f (k+1)):=hid (its_eight _)
    clear hc
    generalize hy:runF q f (k+1)=y at he
    have HY:=hid hy
    clear hy
    generalize runF q f k=x at *
    generalize f k=z at *
    generalize x ^^^ z=v at *
    go_wp2_with fail
    refine (half_any _ _ hlt2 HT.out).mono ?_
    rintro e w' ⟨rfl,rfl⟩
    go_wp2_with fail
    refine (half_any _ _ (q2q _ _ hlt2) HT.out).mono ?_
    rintro e w' ⟨rfl,rfl⟩
    rw [he.out]
    go_wp2_with fail
    go_round
    case rel=>exact⟨k+1,by omega,by rw [HY.out],by go_num⟩
    case measure=>simp [intOf];omega
  · obtain rfl:k=n:=by omega
    have hrk:runF q f k<4294967296:=q0i q f hq k HB.out.1
    generalize hx:runF q f k=x at *
    have HX:=hid hx
    clear hx
    go_wp2_with fail
    rw [HN.out x hrk]
    go_ret
    exact⟨by rw [HX.out];rfl,rfl⟩
theorem sum_any (p:Option Addr) (n cap:Nat) (f:Nat→Nat) (w:World) (hB:q2u w p n f) (hbig:n≤1000000) (hT:Tab w) :
 Calls Tryz.prog 109 #[.slice p n cap] w fun e w'=>e=.returned (.int .u32 ((sumF f n:Nat):Int))∧w=w':=by
 have HT:=hid hT
 have HB:=hid hB
 clear hT hB
 go_enter Tryz.func109,Tryz.ntmps109
 go_wp2_with fail
 refine (more_any 0 _ _ _ f _ (by omega) HB.out hbig HT.out).mono ?_
 rintro e w' ⟨rfl,rfl⟩
 go_wp2_with fail
 go_ret
 exact⟨rfl,rfl⟩
theorem crcsame_any (p:Option Addr) (n cap:Nat) (f:Nat→Nat) (s:Int) (w:World) (hB:q2u w p n f) (hbig:n≤1000000) (hT:Tab w) :
 Calls Tryz.prog 155 #[.slice p n cap,.int .u32 s] w fun e w'=>e=.returned (.bool (((sumF f n:Nat):Int)==s))∧w=w':=by
 have HT:=hid hT
 have HB:=hid hB
 clear hT hB
 go_enter Tryz.func155,Tryz.ntmps155
 go_wp2_with fail
 refine (sum_any _ _ _ f _ HB.out hbig HT.out).mono ?_
 rintro e w' ⟨rfl,rfl⟩
 go_wp2_with fail
 go_ret
 exact⟨rfl,rfl⟩
theorem its_succ (k:Nat):∀ x,its (k+1) x=stp (its k x):=by
 induction k with
 | zero=>intro x;rfl
 | succ k ih=>intro x;exact ih (stp x)
theorem rsum_any (p:Option Addr) (n cap:Nat) (f:Nat→Nat) (w:World) (hB:q2u w p n f) (hbig:n≤1000000) :
 Calls Tryz.prog 119 #[.slice p n cap] w fun e w'=>e=.returned (.int .u32 ((sumF f n:Nat):Int))∧w=w':=by
 have HB:=hid hB
 clear hB
 go_enter Tryz.func119,Tryz.ntmps119
 go_wp2_with fail
 go_loop [3,4] (fun r i=>∃ k:Nat,k≤n∧r=.int .u32 ((runF 4294967295 f k:Nat):Int)∧i=.int .i64 k) (fun _ i=>n-(intOf i).toNat)
 case atStart=>exact⟨0,Nat.zero_le _,rfl,rfl⟩
 case round =>
  obtain⟨k,hk,rfl,rfl⟩:=hrel
  by_cases hlt:k<n
  · obtain⟨b,off,rfl,hbl,hc⟩:=HB.out.2 (by omega)
    have hck:=hc k hlt
    have hfk:=HB.out.1 k hlt
    have hrk:runF 4294967295 f k<4294967296:=q0i _ f (by omega) k fun j hj=>HB.out.1 j (by omega)
    have hx:=u32_xor_nat (runF 4294967295 f k) (f k) hrk (by omega)
    have hlt2:runF 4294967295 f k ^^^ f k<4294967296:=Nat.xor_lt_two_pow (n:=32) hrk (by omega)
    have he:Hid (its 8 (runF 4294967295 f k ^^^ f k)=runF 4294967295 f (k+1)):=hid rfl
    clear hc
    generalize hy:runF 4294967295 f (k+1)=y at he
    have HY:=hid hy
    clear hy
    generalize runF 4294967295 f k=x at *
    generalize f k=z at *
    generalize x ^^^ z=v at *
    go_wp2_with fail
    go_loop [3,5] (fun r i=>∃ m:Nat,m≤8∧r=.int .u32 ((its m v:Nat):Int)∧i=.int .i64 m) (fun _ i=>8-(intOf i).toNat)
    case atStart=>exact⟨0,Nat.zero_le _,rfl,rfl⟩
    case round =>
     obtain⟨m,hm,rfl,rfl⟩:=hrel
     by_cases hlm:m<8
     · have hu:its m v<4294967296:=q2q m v hlt2
       have hst:=its_succ m v
       generalize hv:its (m+1) v=t at *
       have HV:=hid hv
       have HST:=hid hst
       clear hv hst
       generalize its m v=u at *
       by_cases ho:u % 2=1
       · have hp:bits .xor .u32 ((u:Int) / 2) 3988292384=(t:Int):=by
          have:=u32_xor_nat (u / 2) 3988292384 (by omega) (by omega)
          rw [HST.out];unfold stp;rw [if_pos ho];simpa using this
         go_wp2_with fail
         go_round
         case rel=>exact⟨m+1,by omega,by rw [HV.out],by go_num⟩
         case measure=>simp [intOf];omega
       · have hp:(u:Int) / 2=(t:Int):=by
          rw [HST.out];unfold stp;rw [if_neg ho];simp
         go_wp2_with fail
         go_round
         case rel=>exact⟨m+1,by omega,by rw [HV.out],by go_num⟩
         case measure=>simp [intOf];omega
     · obtain rfl:m=8:=by omega
       rw [he.out]
       go_wp2_with fail
       go_round
       case rel=>exact⟨k+1,by omega,by rw [HY.out],by go_num⟩
       case measure=>simp [intOf];omega
  · obtain rfl:k=n:=by omega
    have hrk:runF 4294967295 f k<4294967296:=q0i _ f (by omega) k HB.out.1
    generalize hx:runF 4294967295 f k=x at *
    have HX:=hid hx
    clear hx
    go_wp2_with fail
    go_ret
    exact⟨by unfold sumF;rw [HX.out,show ((4294967295-x:Nat):Int)=4294967295-(x:Int) by omega];rfl,rfl⟩
end Go.Proofs.YtfdgnniicjdjdaaGreatDoor
