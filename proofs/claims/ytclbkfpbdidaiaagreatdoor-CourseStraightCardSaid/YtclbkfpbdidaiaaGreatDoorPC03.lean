import Derived.Test.YtclbkfpbdidaiaaGreatDoorPC02
import Derived.Test.YtclbkfpbdidaiaaGreatDoorChecked
import Derived.WalkLawsBesides
import Derived.WalkSpells
import Derived.Lib.Hide
import Derived.BigQuiet
namespace Go.Proofs.YtclbkfpbdidaiaaGreatDoor
open Go.Lib (hid)
open Go.RowKit
set_option linter.unusedVariables false
set_option maxRecDepth 10000
theorem z6w (a:Int) (w:World) (ha0:-9223372036854775808≤a) (ha1:a≤9223372036854775807) :
 Calls Tryz.prog 152 #[.int .i64 a] w fun e w'=>e=.returned (.int .u64 (sg a))∧w=w':=by
 go_enter Tryz.func152,Tryz.ntmps152
 go_wp2
 go_ret
 exact⟨ret_int (by rw [u64w];unfold sg;split <;> omega),rfl⟩
theorem sub_any (a b:Int) (w:World) (ha0:-9223372036854775808≤a) (ha1:a≤9223372036854775807) (hb0:-9223372036854775808≤b) (hb1:b≤9223372036854775807) :
 Calls Tryz.prog 154 #[.int .i64 a,.int .i64 b] w fun e w'=>e=.returned (.tuple #[.int .i64 (val (a-b)),.bool (okB (a-b))])∧w=w':=by
 by_cases hp:0<b
 · by_cases hx:a < -9223372036854775808+b
   · go_enter Tryz.func154,Tryz.ntmps154
     go_wp2
     go_ret2
     exact⟨z9r (a-b) (by omega),rfl⟩
   · have hn:¬ b<0:=by omega
     go_enter Tryz.func154,Tryz.ntmps154
     go_wp2
     go_ret2
     exact⟨z8q (a-b) (by omega),rfl⟩
 · by_cases hn:b<0
   · by_cases hx:9223372036854775807+b<a
     · go_enter Tryz.func154,Tryz.ntmps154
       go_wp2
       go_ret2
       exact⟨z9r (a-b) (by omega),rfl⟩
     · go_enter Tryz.func154,Tryz.ntmps154
       go_wp2
       go_ret2
       exact⟨z8q (a-b) (by omega),rfl⟩
   · go_enter Tryz.func154,Tryz.ntmps154
     go_wp2
     go_ret2
     exact⟨z8q (a-b) (by omega),rfl⟩
theorem neg_any (a:Int) (w:World) (ha0:-9223372036854775808≤a) (ha1:a≤9223372036854775807) :
 Calls Tryz.prog 145 #[.int .i64 a] w fun e w'=>e=.returned (.tuple #[.int .i64 (val (-a)),.bool (okB (-a))])∧w=w':=by
 go_enter Tryz.func145,Tryz.ntmps145
 go_wp2_with (go_at_call 154;refine (sub_any _ _ _ (by omega) (by omega) (by omega) (by omega)).mono ?_;rintro e w' ⟨rfl,rfl⟩)
 go_ret2
 exact⟨rfl,rfl⟩
def z1h:List Int→Int
 | []=>0
 | x::r=>x+z1h r
theorem total_append (a b:List Int):z1h (a++b)=z1h a+z1h b:=by
 induction a with
 | nil=>simp [z1h]
 | cons x r ih=>simp [z1h,ih];omega
theorem z7p (xs:List Int) (k:Nat) (h:k<xs.length):z1h (xs.take (k+1))=z1h (xs.take k)+xs.getD k 0:=by
 rw [List.take_add_one,total_append]
 simp [List.getD,List.getElem?_eq_getElem h,z1h]
theorem total_bd (xs:List Int) (h:∀ x∈xs,-9223372036854775808≤x∧x≤9223372036854775807):-9223372036854775808*(xs.length:Int)≤z1h xs∧z1h xs≤9223372036854775807*(xs.length:Int):=by
 induction xs with
 | nil=>simp [z1h]
 | cons x r ih =>
  have h1:=h x (by simp)
  have h2:=ih (fun y hy=>h y (by simp [hy]))
  simp [z1h];omega
def loOf (s:Int):Int:=s % 18446744073709551616
def hiOf (s:Int):Int:=s / 18446744073709551616 % 18446744073709551616
def car (s x:Int):Int:=(loOf s+loOf x+0) / 18446744073709551616
def carTwo (s x:Int):Int:=(hiOf s+sg x+car s x) / 18446744073709551616
theorem loOf_bd (s:Int):0≤loOf s∧loOf s≤18446744073709551615:=by unfold loOf;omega
theorem hiOf_bd (s:Int):0≤hiOf s∧hiOf s≤18446744073709551615:=by unfold hiOf;omega
theorem sg_bd (x:Int):0≤sg x∧sg x≤18446744073709551615:=by unfold sg;split <;> omega
theorem lo_step (s x:Int):(loOf s+loOf x+0) % 18446744073709551616=loOf (s+x):=by unfold loOf;omega
theorem hi_step (s x:Int) (h:-9223372036854775808≤x∧x≤9223372036854775807):(hiOf s+sg x+car s x) % 18446744073709551616=hiOf (s+x):=by
 unfold hiOf sg car loOf;split <;> omega
theorem car_bd (s x:Int):0≤car s x∧car s x≤1:=by unfold car loOf;omega
theorem fits_iff (s:Int) (h:-85070591730234615865843651857942052864≤s∧s≤85070591730234615865843651857942052864) :
 (hiOf s=sg (wrap64 (loOf s)) ↔ (-9223372036854775808≤s∧s≤9223372036854775807)):=by
 unfold hiOf sg wrap64 loOf;split <;> constructor <;> omega
theorem low_is (s:Int) (h:-9223372036854775808≤s∧s≤9223372036854775807):wrap64 (loOf s)=s:=by
 unfold wrap64 loOf;omega
theorem run_add (x y c:Int) (hx:0≤x) (hy:0≤y) (hc0:0≤c) (hc:c≤1) (w:World) :
 (callFunc 151 #[.int .u64 x,.int .u64 y,.int .u64 c]).run Tryz.prog w =
  .ok (.value (.tuple #[.int .u64 ((x+y+c) % 18446744073709551616),.int .u64 ((x+y+c) / 18446744073709551616)])) w:=by
 rw [run_callFunc_extern Tryz.func151 (by kernel_rfl) (by kernel_rfl) (by kernel_rfl) (e:=add64Entry) (by kernel_rfl),run_add64 x y c hx hy hc0 hc]
 rfl
theorem run_low (s x:Int) (w:World) :
 (callFunc 151 #[.int .u64 (loOf s),.int .u64 (IntKind.u64.wrap x),.int .u64 0]).run Tryz.prog w=.ok (.value (.tuple #[.int .u64 (loOf (s+x)),.int .u64 (car s x)])) w:=by
 rw [show IntKind.u64.wrap x=loOf x from u64w x,run_add _ _ _ (loOf_bd s).1 (loOf_bd x).1 (by omega) (by omega),lo_step]
 rfl
theorem run_high (s x:Int) (w:World) (h:-9223372036854775808≤x∧x≤9223372036854775807) :
 (callFunc 151 #[.int .u64 (hiOf s),.int .u64 (sg x),.int .u64 (car s x)]).run Tryz.prog w=.ok (.value (.tuple #[.int .u64 (hiOf (s+x)),.int .u64 (carTwo s x)])) w:=by
 rw [run_add _ _ _ (hiOf_bd s).1 (sg_bd x).1 (car_bd s x).1 (car_bd s x).2,hi_step s x h]
 rfl
theorem sum_row (b off len cap:Nat) (xs:List Int) (w:World) (hz:len=xs.length) (hbig:len≤1000000) (hc:∀ j,j<xs.length→w.cell? ⟨b,off+j,none⟩=some (.int .i64 (xs.getD j 0)))
 (hr:∀ x∈xs,-9223372036854775808≤x∧x≤9223372036854775807) :
 Calls Tryz.prog 138 #[.slice (some ⟨b,off,none⟩) len cap] w fun e w'=>e=.returned (.tuple #[.int .i64 (val (z1h xs)),.bool (okB (z1h xs))])∧w=w':=by
 have HZ:=hid hz
 have HC:=hid hc
 have HR:=hid hr
 clear hz hc hr
 go_enter Tryz.func138,Tryz.ntmps138
 go_wp2_with fail
 go_loop [4,5,12] (fun hi lo i=>∃ (k:Nat) (s:Int),k≤len∧hi=.int .u64 (hiOf s)∧lo=.int .u64 (loOf s)∧i=.int .i64 k∧Hid (s=z1h (xs.take k))) (fun _ _ i=>len-(intOf i).toNat)
 case atStart=>exact⟨0,0,Nat.zero_le _,rfl,rfl,rfl,hid rfl⟩
 case round =>
  obtain⟨k,s,hk,rfl,rfl,rfl,HS⟩:=hrel
  by_cases hlt:k<len
  · obtain⟨x,hx,hx0,hx1,hcell⟩:∃ x,Hid (x=xs.getD k 0)∧-9223372036854775808≤x∧x≤9223372036854775807∧w.cell? ⟨b,off+k,none⟩=some (.int .i64 x):=by
     have hk':k<xs.length:=by rw [← HZ.out];exact hlt
     have hm:=HR.out (xs.getD k 0) (by rw [List.getD,List.getElem?_eq_getElem hk'];simp)
     exact⟨_,hid rfl,hm.1,hm.2,HC.out k hk'⟩
    go_wp2_with fail
    rw [run_low]
    go_wp2_with (go_at_call 152;refine (z6w _ _ (by omega) (by omega)).mono ?_;rintro e w' ⟨rfl,rfl⟩)
    rw [run_high s x w ⟨hx0,hx1⟩]
    go_wp2_with fail
    go_round
    case rel=>exact⟨k+1,s+x,by omega,rfl,rfl,by go_num,hid (by rw [HS.out,hx.out,z7p xs k (by rw [← HZ.out];exact hlt)])⟩
    case measure=>simp [intOf];omega
  · have hs:s=z1h xs:=by
     rw [HS.out,List.take_of_length_le]
     rw [← HZ.out];omega
    have hb:=total_bd xs HR.out
    rw [← HZ.out,← hs] at hb
    have hiff:=fits_iff s (by omega)
    have hw0:-9223372036854775808≤wrap64 (loOf s)∧wrap64 (loOf s)≤9223372036854775807:=by unfold wrap64;omega
    have hlow:=low_is s
    clear HS hb HC HR HZ
    subst hs
    by_cases hf:-9223372036854775808≤z1h xs∧z1h xs≤9223372036854775807
    · have ht:(hiOf (z1h xs) != sg (wrap64 (loOf (z1h xs))))=false:=by rw [hiff.2 hf];simp
      have hv:=z8q _ hf
      have hl:=hlow hf
      generalize hiOf (z1h xs)=H at *
      generalize loOf (z1h xs)=L at *
      generalize hy:wrap64 L=y at *
      have HL:=hid hl
      have HV:=hid hv
      have HY:=hid hy
      clear hl hv hiff hlow hf hy
      go_wp2_with fail
      rw [HY.out]
      refine (z6w _ _ hw0.1 hw0.2).mono ?_
      rintro e w' ⟨rfl,rfl⟩
      go_wp2_with fail
      go_ret2
      exact⟨by rw [← HV.out,HL.out];rfl,rfl⟩
    · have ht:(hiOf (z1h xs) != sg (wrap64 (loOf (z1h xs))))=true:=by
       rw [bne_iff_ne];exact fun h=>hf (hiff.1 h)
      have hv:=z9r _ hf
      generalize hiOf (z1h xs)=H at *
      generalize loOf (z1h xs)=L at *
      generalize hy:wrap64 L=y at *
      have HV:=hid hv
      have HY:=hid hy
      clear hv hiff hlow hf hy
      go_wp2_with fail
      rw [HY.out]
      refine (z6w _ _ hw0.1 hw0.2).mono ?_
      rintro e w' ⟨rfl,rfl⟩
      go_wp2_with fail
      go_ret2
      exact⟨by rw [← HV.out];rfl,rfl⟩
theorem sum_none (p:Option Addr) (cap:Nat) (w:World) :
 Calls Tryz.prog 138 #[.slice p 0 cap] w fun e w'=>e=.returned (.tuple #[.int .i64 0,.bool true])∧w=w':=by
 go_enter Tryz.func138,Tryz.ntmps138
 go_wp2_with fail
 go_loop [4,5,12] (fun hi lo i=>hi=.int .u64 0∧lo=.int .u64 0∧i=.int .i64 0) (fun _ _ i=>0)
 case atStart=>exact⟨rfl,rfl,rfl⟩
 case round =>
  obtain⟨rfl,rfl,rfl⟩:=hrel
  have h0:=hid (show sg 0=0 from rfl)
  go_wp2_with (go_at_call 152;refine (z6w _ _ (by omega) (by omega)).mono ?_;rintro e w' ⟨rfl,rfl⟩;rw [h0.out])
  go_ret2
  exact⟨rfl,rfl⟩
theorem two_cells {w w':World} {c0 c1:Value} {T:TypeId} (h:Below (w.alloc (.cells #[c0,c1] T)).heap.size (w.alloc (.cells #[c0,c1] T)) w') :
 w'.cell? ⟨w.heap.size,0,none⟩=some c0∧w'.cell? ⟨w.heap.size,1,none⟩=some c1∧w'.frozen? ⟨w.heap.size,0,none⟩=false∧w'.frozen? ⟨w.heap.size,1,none⟩=false∧w.heap.size<w'.heap.size:=by
 refine⟨?_,?_,?_,?_,?_⟩
 · rw [h.cell (p:=⟨w.heap.size,0,none⟩) (by simp)];simp
 · rw [h.cell (p:=⟨w.heap.size,1,none⟩) (by simp)];simp
 · rw [h.frozen (p:=⟨w.heap.size,0,none⟩) (by simp)];simp
 · rw [h.frozen (p:=⟨w.heap.size,1,none⟩) (by simp)];simp
 · have:=h.size;simp at this;omega
def hiH (a:Int):Int:=a / 4294967296
def loH (a:Int):Int:=a % 4294967296
theorem halves_bd (a:Int) (h0:-9223372036854775808≤a) (h1:a≤9223372036854775807):-2147483648≤hiH a∧hiH a≤2147483647∧0≤loH a∧loH a≤4294967295:=by unfold hiH loH;omega
theorem halves_up (a:Int):-1-hiH (-(a+1))=hiH a∧4294967295-loH (-(a+1))=loH a:=by unfold hiH loH;omega
theorem halves_pos (a:Int) (w:World) (h0:0≤a) (h1:a≤9223372036854775807) :
 Calls Tryz.prog 96 #[.int .i64 a] w fun e w'=>e=.returned (.agg #[.int .i64 (hiH a),.int .i64 (loH a)])∧Below w.heap.size w w':=by
 have hn:¬ a<0:=by omega
 go_enter Tryz.func96,Tryz.ntmps96
 go_wp2
 exact bodyPost_ret (v:=.agg #[.int .i64 (hiH a),.int .i64 (loH a)]) (by simp [results,Tryz.results96,go_sem,hiH,loH]) rfl ⟨rfl,(Below.refl _ _).alloc (Nat.le_refl _) _⟩
theorem halves_any (a:Int) (w:World) (h0:-9223372036854775808≤a) (h1:a≤9223372036854775807) :
 Calls Tryz.prog 96 #[.int .i64 a] w fun e w'=>e=.returned (.agg #[.int .i64 (hiH a),.int .i64 (loH a)])∧Below w.heap.size w w':=by
 by_cases hn:a<0
 · have hm0:0≤-(a+1):=by omega
   have hb:=halves_bd (-(a+1)) (by omega) (by omega)
   obtain⟨hb0,hb1,hb2,hb3⟩:=hb
   have HU:=hid (halves_up a)
   go_enter Tryz.func96,Tryz.ntmps96
   go_wp2_with fail
   refine (halves_pos _ _ (by omega) (by omega)).mono ?_
   rintro e w' ⟨rfl,hbel⟩
   obtain⟨hc0,hc1,hf0,hf1,hsz⟩:=two_cells hbel
   have HB:=hid hbel
   clear hbel
   go_wp2_with fail
   refine bodyPost_ret (v:=.agg #[.int .i64 (hiH a),.int .i64 (loH a)]) ?_ rfl ⟨rfl,?_⟩
   · simp [results,Tryz.results96,go_sem,hc0,hc1,hsz,HU.out.1,HU.out.2]
   · exact ((((((Below.refl _ _).alloc (Nat.le_refl _) _).trans (HB.out.mono (by simp))).setCell (by simp) _).setCell (by simp) _)).alloc (by simp [World.setCell];omega) _
 · exact halves_pos a w (by omega) h1
theorem step_no (s x:Int) (h:¬ 4294967296≤loH s+loH x):hiH s+hiH x=hiH (s+x)∧loH s+loH x=loH (s+x):=by unfold hiH loH at *;omega
theorem step_yes (s x:Int) (h:4294967296≤loH s+loH x):hiH s+hiH x+1=hiH (s+x)∧loH s+loH x-4294967296=loH (s+x):=by unfold hiH loH at *;omega
theorem parts_bd (s:Int) (n:Nat) (hn:n≤1000000) (h0:-9223372036854775808*(n:Int)≤s) (h1:s≤9223372036854775807*(n:Int)):-2147483648000000≤hiH s∧hiH s≤2147483648000000∧0≤loH s∧loH s≤4294967295:=by
 unfold hiH loH;omega
theorem fits_parts (s:Int):(-2147483648≤hiH s∧hiH s≤2147483647) ↔ (-9223372036854775808≤s∧s≤9223372036854775807):=by unfold hiH;omega
theorem whole_parts (s:Int):hiH s*4294967296+loH s=s:=by unfold hiH loH;omega
theorem rsum_row (b off len cap:Nat) (xs:List Int) (w:World) (hb:b<w.heap.size) (hz:len=xs.length) (hbig:len≤1000000) (hc:∀ j,j<xs.length→w.cell? ⟨b,off+j,none⟩=some (.int .i64 (xs.getD j 0)))
 (hr:∀ x∈xs,-9223372036854775808≤x∧x≤9223372036854775807) :
 Calls Tryz.prog 75 #[.slice (some ⟨b,off,none⟩) len cap] w fun e w'=>e=.returned (.tuple #[.int .i64 (val (z1h xs)),.bool (okB (z1h xs))])∧Below w.heap.size w w':=by
 have HZ:=hid hz
 have HC:=hid hc
 have HR:=hid hr
 clear hz hc hr
 go_enter Tryz.func75,Tryz.ntmps75
 go_wp2_with fail
 go_loopw [5] (fun i wr=>∃ (k:Nat) (s:Int),k≤len∧i=.int .i64 k∧Hid (s=z1h (xs.take k))∧-9223372036854775808*(k:Int)≤s∧s≤9223372036854775807*(k:Int) ∧
  wr.cell? ⟨w.heap.size,0,none⟩=some (.int .i64 (hiH s))∧wr.cell? ⟨w.heap.size,1,none⟩=some (.int .i64 (loH s))∧wr.frozen? ⟨w.heap.size,0,none⟩=false∧wr.frozen? ⟨w.heap.size,1,none⟩=false∧w.heap.size<wr.heap.size∧Hid (Below w.heap.size w wr)) (fun i _=>len-(intOf i).toNat)
 case atStart=>exact⟨0,0,Nat.zero_le _,rfl,hid rfl,by omega,by omega,by simp [hiH],by simp [loH],by simp,by simp,by simp,hid ((Below.refl _ _).alloc (Nat.le_refl _) _)⟩
 case round =>
  obtain⟨k,s,hk,rfl,HS,hs0,hs1,hc0,hc1,hf0,hf1,hsz,HB⟩:=hrel
  have HS0:=hs0
  have HS1:=hs1
  obtain⟨hp0,hp1,hp2,hp3⟩:=parts_bd s k (by omega) hs0 hs1
  by_cases hlt:k<len
  · obtain⟨x,hx,hx0,hx1,hcell⟩:∃ x,Hid (x=xs.getD k 0)∧-9223372036854775808≤x∧x≤9223372036854775807∧wr.cell? ⟨b,off+k,none⟩=some (.int .i64 x):=by
     have hk':k<xs.length:=by rw [← HZ.out];exact hlt
     have hm:=HR.out (xs.getD k 0) (by rw [List.getD,List.getElem?_eq_getElem hk'];simp)
     exact⟨_,hid rfl,hm.1,hm.2,by rw [HB.out.cell (p:=⟨b,off+k,none⟩) hb];exact HC.out k hk'⟩
    obtain⟨hq0,hq1,hq2,hq3⟩:=halves_bd x hx0 hx1
    by_cases hov:4294967296≤loH s+loH x
    · have HN:=hid (step_yes s x hov)
      go_wp2_with fail
      refine (halves_any _ _ hx0 hx1).mono ?_
      rintro e w1 ⟨rfl,hb1⟩
      have gc0:w1.cell? ⟨w.heap.size,0,none⟩=some (.int .i64 (hiH s)):=by rw [hb1.cell (p:=⟨w.heap.size,0,none⟩) hsz];exact hc0
      have gc1:w1.cell? ⟨w.heap.size,1,none⟩=some (.int .i64 (loH s)):=by rw [hb1.cell (p:=⟨w.heap.size,1,none⟩) hsz];exact hc1
      have gf0:w1.frozen? ⟨w.heap.size,0,none⟩=false:=by rw [hb1.frozen (p:=⟨w.heap.size,0,none⟩) hsz];exact hf0
      have gf1:w1.frozen? ⟨w.heap.size,1,none⟩=false:=by rw [hb1.frozen (p:=⟨w.heap.size,1,none⟩) hsz];exact hf1
      have gsz:w.heap.size<w1.heap.size:=Nat.lt_of_lt_of_le hsz hb1.size
      have HB1:=hid (HB.out.trans (hb1.mono (Nat.le_of_lt hsz)))
      clear hb1 HB
      go_wp2_with fail
      go_roundw
      case rel =>
       refine⟨k+1,s+x,by omega,by go_num,hid (by rw [HS.out,hx.out,z7p xs k (by rw [← HZ.out];exact hlt)]),by omega,by omega,?_,?_,?_,?_,?_,?_⟩
       · rw [← HN.out.1];go_simp
       · rw [← HN.out.2];go_simp;exact World.cell?_setCell_same _ _ _ (u:=.int .i64 (loH s+loH x)) (by go_simp)
       · go_simp
       · go_simp
       · simp [World.setCell];omega
       · exact hid (((((HB1.out.setCell (Nat.le_refl _) _).setCell (Nat.le_refl _) _).setCell (Nat.le_refl _) _).setCell (Nat.le_refl _) _).alloc (by simp [World.setCell];omega) _)
      case measure=>simp [intOf];omega
    · have HN:=hid (step_no s x hov)
      go_wp2_with fail
      refine (halves_any _ _ hx0 hx1).mono ?_
      rintro e w1 ⟨rfl,hb1⟩
      have gc0:w1.cell? ⟨w.heap.size,0,none⟩=some (.int .i64 (hiH s)):=by rw [hb1.cell (p:=⟨w.heap.size,0,none⟩) hsz];exact hc0
      have gc1:w1.cell? ⟨w.heap.size,1,none⟩=some (.int .i64 (loH s)):=by rw [hb1.cell (p:=⟨w.heap.size,1,none⟩) hsz];exact hc1
      have gf0:w1.frozen? ⟨w.heap.size,0,none⟩=false:=by rw [hb1.frozen (p:=⟨w.heap.size,0,none⟩) hsz];exact hf0
      have gf1:w1.frozen? ⟨w.heap.size,1,none⟩=false:=by rw [hb1.frozen (p:=⟨w.heap.size,1,none⟩) hsz];exact hf1
      have gsz:w.heap.size<w1.heap.size:=Nat.lt_of_lt_of_le hsz hb1.size
      have HB1:=hid (HB.out.trans (hb1.mono (Nat.le_of_lt hsz)))
      clear hb1 HB
      go_wp2_with fail
      go_roundw
      case rel =>
       refine⟨k+1,s+x,by omega,by go_num,hid (by rw [HS.out,hx.out,z7p xs k (by rw [← HZ.out];exact hlt)]),by omega,by omega,?_,?_,?_,?_,?_,?_⟩
       · rw [← HN.out.1];go_simp
       · rw [← HN.out.2];go_simp
       · go_simp
       · go_simp
       · simp [World.setCell];omega
       · exact hid (((HB1.out.setCell (Nat.le_refl _) _).setCell (Nat.le_refl _) _).alloc (by simp [World.setCell];omega) _)
      case measure=>simp [intOf];omega
  · have hs:s=z1h xs:=by
     rw [HS.out,List.take_of_length_le]
     rw [← HZ.out];omega
    have hfit:=fits_parts s
    have hwh:=whole_parts s
    clear HC HR HZ HS hs0 hs1 HS0 HS1
    subst hs
    have hin:=z8q (z1h xs)
    have hout:=z9r (z1h xs)
    generalize hiH (z1h xs)=H at *
    generalize loH (z1h xs)=L at *
    by_cases h1:H < -2147483648
    · have HV:=hid (hout (by omega))
      clear hfit hwh hin hout
      go_wp2_with fail
      go_ret2
      exact⟨by rw [← HV.out];rfl,HB.out⟩
    · by_cases h2:2147483647<H
      · have HV:=hid (hout (by omega))
        clear hfit hwh hin hout
        go_wp2_with fail
        go_ret2
        exact⟨by rw [← HV.out];rfl,HB.out⟩
      · have HV:=hid (hin (by omega))
        have HW:=hid hwh
        have hb2:-9223372036854775808≤H*4294967296∧H*4294967296≤9223372036854775807:=by omega
        have hb3:-9223372036854775808≤H*4294967296+L∧H*4294967296+L≤9223372036854775807:=by omega
        obtain⟨hb20,hb21⟩:=hb2
        obtain⟨hb30,hb31⟩:=hb3
        clear hfit hwh hin hout
        go_wp2_with fail
        go_ret2
        exact⟨by rw [← HV.out,← HW.out];rfl,HB.out⟩
theorem rsum_none (p:Option Addr) (cap:Nat) (w:World) :
 Calls Tryz.prog 75 #[.slice p 0 cap] w fun e w'=>e=.returned (.tuple #[.int .i64 0,.bool true])∧Below w.heap.size w w':=by
 go_enter Tryz.func75,Tryz.ntmps75
 go_wp2_with fail
 go_loop [5] (fun i=>i=.int .i64 0) (fun _=>0)
 case atStart=>exact rfl
 case round =>
  obtain rfl:=hrel
  go_wp2_with fail
  go_ret2
  exact⟨rfl,(Below.refl _ _).alloc (Nat.le_refl _) _⟩
end Go.Proofs.YtclbkfpbdidaiaaGreatDoor
