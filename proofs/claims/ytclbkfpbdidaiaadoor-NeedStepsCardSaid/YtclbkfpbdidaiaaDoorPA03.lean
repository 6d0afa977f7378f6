import Derived.Test.YtclbkfpbdidaiaaDoorPA02
import Derived.Test.YtclbkfpbdidaiaaDoorChecked
import Derived.WalkLawsBesides
import Derived.WalkSpells
import Derived.Lib.Hide
import Derived.BigQuiet
namespace Go.Proofs.YtclbkfpbdidaiaaDoor
open Go.Lib (hid)
open Go.RowKit
set_option linter.unusedVariables false
set_option maxRecDepth 10000
theorem signs_any (a:Int) (w:World) (ha0:-9223372036854775808≤a) (ha1:a≤9223372036854775807) :
 Calls Tryd.prog 84 #[.int .i64 a] w fun e w'=>e=.returned (.int .u64 (sg a))∧w=w':=by
 go_enter Tryd.func84,Tryd.ntmps84
 go_wp2
 go_ret
 exact⟨ret_int (by rw [u64w];unfold sg;split <;> omega),rfl⟩
def z1a:List Int→Int
 | []=>0
 | x::r=>x+z1a r
theorem total_append (a b:List Int):z1a (a++b)=z1a a+z1a b:=by
 induction a with
 | nil=>simp [z1a]
 | cons x r ih=>simp [z1a,ih];omega
theorem total_take (xs:List Int) (k:Nat) (h:k<xs.length):z1a (xs.take (k+1))=z1a (xs.take k)+xs.getD k 0:=by
 rw [List.take_add_one,total_append]
 simp [List.getD,List.getElem?_eq_getElem h,z1a]
theorem total_bd (xs:List Int) (h:∀ x∈xs,-9223372036854775808≤x∧x≤9223372036854775807):-9223372036854775808*(xs.length:Int)≤z1a xs∧z1a xs≤9223372036854775807*(xs.length:Int):=by
 induction xs with
 | nil=>simp [z1a]
 | cons x r ih =>
  have h1:=h x (by simp)
  have h2:=ih (fun y hy=>h y (by simp [hy]))
  simp [z1a];omega
def loOf (s:Int):Int:=s % 18446744073709551616
def hiOf (s:Int):Int:=s / 18446744073709551616 % 18446744073709551616
def car (s x:Int):Int:=(loOf s+loOf x+0) / 18446744073709551616
def carTwo (s x:Int):Int:=(hiOf s+sg x+car s x) / 18446744073709551616
theorem loOf_bd (s:Int):0≤loOf s∧loOf s≤18446744073709551615:=by unfold loOf;omega
theorem hiOf_bd (s:Int):0≤hiOf s∧hiOf s≤18446744073709551615:=by unfold hiOf;omega
theorem sg_bd (x:Int):0≤sg x∧sg x≤18446744073709551615:=by unfold sg;split <;> omega
theorem lo_step (s x:Int):(loOf s+loOf x+0) % 18446744073709551616=loOf (s+x):=by unfold loOf;omega
theorem hi_step (s x:Int) (h:-9223372036854775808≤x∧x≤9223372036854775807):(hiOf s+sg x+car s x) % 18446744073709551616=hiOf (s+x):=by
 unfold hiOf sg car loOf;split <;> omega
theorem car_bd (s x:Int):0≤car s x∧car s x≤1:=by unfold car loOf;omega
theorem fits_iff (s:Int) (h:-85070591730234615865843651857942052864≤s∧s≤85070591730234615865843651857942052864) :
 (hiOf s=sg (wrap64 (loOf s)) ↔ (-9223372036854775808≤s∧s≤9223372036854775807)):=by
 unfold hiOf sg wrap64 loOf;split <;> constructor <;> omega
theorem low_is (s:Int) (h:-9223372036854775808≤s∧s≤9223372036854775807):wrap64 (loOf s)=s:=by
 unfold wrap64 loOf;omega
theorem run_add (x y c:Int) (hx:0≤x) (hy:0≤y) (hc0:0≤c) (hc:c≤1) (w:World) :
 (callFunc 83 #[.int .u64 x,.int .u64 y,.int .u64 c]).run Tryd.prog w =
  .ok (.value (.tuple #[.int .u64 ((x+y+c) % 18446744073709551616),.int .u64 ((x+y+c) / 18446744073709551616)])) w:=by
 rw [run_callFunc_extern Tryd.func83 (by kernel_rfl) (by kernel_rfl) (by kernel_rfl) (e:=add64Entry) (by kernel_rfl),run_add64 x y c hx hy hc0 hc]
 rfl
theorem run_low (s x:Int) (w:World) :
 (callFunc 83 #[.int .u64 (loOf s),.int .u64 (IntKind.u64.wrap x),.int .u64 0]).run Tryd.prog w=.ok (.value (.tuple #[.int .u64 (loOf (s+x)),.int .u64 (car s x)])) w:=by
 rw [show IntKind.u64.wrap x=loOf x from u64w x,run_add _ _ _ (loOf_bd s).1 (loOf_bd x).1 (by omega) (by omega),lo_step]
 rfl
theorem run_high (s x:Int) (w:World) (h:-9223372036854775808≤x∧x≤9223372036854775807) :
 (callFunc 83 #[.int .u64 (hiOf s),.int .u64 (sg x),.int .u64 (car s x)]).run Tryd.prog w=.ok (.value (.tuple #[.int .u64 (hiOf (s+x)),.int .u64 (carTwo s x)])) w:=by
 rw [run_add _ _ _ (hiOf_bd s).1 (sg_bd x).1 (car_bd s x).1 (car_bd s x).2,hi_step s x h]
 rfl
theorem sum_row (b off len cap:Nat) (xs:List Int) (w:World) (hz:len=xs.length) (hbig:len≤1000000) (hc:∀ j,j<xs.length→w.cell? ⟨b,off+j,none⟩=some (.int .i64 (xs.getD j 0)))
 (hr:∀ x∈xs,-9223372036854775808≤x∧x≤9223372036854775807) :
 Calls Tryd.prog 74 #[.slice (some ⟨b,off,none⟩) len cap] w fun e w'=>e=.returned (.tuple #[.int .i64 (val (z1a xs)),.bool (okB (z1a xs))])∧w=w':=by
 have HZ:=hid hz
 have HC:=hid hc
 have HR:=hid hr
 clear hz hc hr
 go_enter Tryd.func74,Tryd.ntmps74
 go_wp2_with fail
 go_loop [4,5,12] (fun hi lo i=>∃ (k:Nat) (s:Int),k≤len∧hi=.int .u64 (hiOf s)∧lo=.int .u64 (loOf s)∧i=.int .i64 k∧Hid (s=z1a (xs.take k))) (fun _ _ i=>len-(intOf i).toNat)
 case atStart=>exact⟨0,0,Nat.zero_le _,rfl,rfl,rfl,hid rfl⟩
 case round =>
  obtain⟨k,s,hk,rfl,rfl,rfl,HS⟩:=hrel
  by_cases hlt:k<len
  · obtain⟨x,hx,hx0,hx1,hcell⟩:∃ x,Hid (x=xs.getD k 0)∧-9223372036854775808≤x∧x≤9223372036854775807∧w.cell? ⟨b,off+k,none⟩=some (.int .i64 x):=by
     have hk':k<xs.length:=by rw [← HZ.out];exact hlt
     have hm:=HR.out (xs.getD k 0) (by rw [List.getD,List.getElem?_eq_getElem hk'];simp)
     exact⟨_,hid rfl,hm.1,hm.2,HC.out k hk'⟩
    go_wp2_with fail
    rw [run_low]
    go_wp2_with (go_at_call 84;refine (signs_any _ _ (by omega) (by omega)).mono ?_;rintro e w' ⟨rfl,rfl⟩)
    rw [run_high s x w ⟨hx0,hx1⟩]
    go_wp2_with fail
    go_round
    case rel=>exact⟨k+1,s+x,by omega,rfl,rfl,by go_num,hid (by rw [HS.out,hx.out,total_take xs k (by rw [← HZ.out];exact hlt)])⟩
    case measure=>simp [intOf];omega
  · have hs:s=z1a xs:=by
     rw [HS.out,List.take_of_length_le]
     rw [← HZ.out];omega
    have hb:=total_bd xs HR.out
    rw [← HZ.out,← hs] at hb
    have hiff:=fits_iff s (by omega)
    have hw0:-9223372036854775808≤wrap64 (loOf s)∧wrap64 (loOf s)≤9223372036854775807:=by unfold wrap64;omega
    have hlow:=low_is s
    clear HS hb HC HR HZ
    subst hs
    by_cases hf:-9223372036854775808≤z1a xs∧z1a xs≤9223372036854775807
    · have ht:(hiOf (z1a xs) != sg (wrap64 (loOf (z1a xs))))=false:=by rw [hiff.2 hf];simp
      have hv:=two_in _ hf
      have hl:=hlow hf
      generalize hiOf (z1a xs)=H at *
      generalize loOf (z1a xs)=L at *
      generalize hy:wrap64 L=y at *
      have HL:=hid hl
      have HV:=hid hv
      have HY:=hid hy
      clear hl hv hiff hlow hf hy
      go_wp2_with fail
      rw [HY.out]
      refine (signs_any _ _ hw0.1 hw0.2).mono ?_
      rintro e w' ⟨rfl,rfl⟩
      go_wp2_with fail
      go_ret2
      exact⟨by rw [← HV.out,HL.out];rfl,rfl⟩
    · have ht:(hiOf (z1a xs) != sg (wrap64 (loOf (z1a xs))))=true:=by
       rw [bne_iff_ne];exact fun h=>hf (hiff.1 h)
      have hv:=two_out _ hf
      generalize hiOf (z1a xs)=H at *
      generalize loOf (z1a xs)=L at *
      generalize hy:wrap64 L=y at *
      have HV:=hid hv
      have HY:=hid hy
      clear hv hiff hlow hf hy
      go_wp2_with fail
      rw [HY.out]
      refine (signs_any _ _ hw0.1 hw0.2).mono ?_
      rintro e w' ⟨rfl,rfl⟩
      go_wp2_with fail
      go_ret2
      exact⟨by rw [← HV.out];rfl,rfl⟩
theorem sum_none (p:Option Addr) (cap:Nat) (w:World) :
 Calls Tryd.prog 74 #[.slice p 0 cap] w fun e w'=>e=.returned (.tuple #[.int .i64 0,.bool true])∧w=w':=by
 go_enter Tryd.func74,Tryd.ntmps74
 go_wp2_with fail
 go_loop [4,5,12] (fun hi lo i=>hi=.int .u64 0∧lo=.int .u64 0∧i=.int .i64 0) (fun _ _ i=>0)
 case atStart=>exact⟨rfl,rfl,rfl⟩
 case round =>
  obtain⟨rfl,rfl,rfl⟩:=hrel
  have h0:=hid (show sg 0=0 from rfl)
  go_wp2_with (go_at_call 84;refine (signs_any _ _ (by omega) (by omega)).mono ?_;rintro e w' ⟨rfl,rfl⟩;rw [h0.out])
  go_ret2
  exact⟨rfl,rfl⟩
end Go.Proofs.YtclbkfpbdidaiaaDoor
