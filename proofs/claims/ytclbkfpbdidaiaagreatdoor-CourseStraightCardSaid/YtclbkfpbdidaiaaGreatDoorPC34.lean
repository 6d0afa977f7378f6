import Derived.Test.YtclbkfpbdidaiaaGreatDoorPC33
import Derived.Deep.RegionHeld
namespace Go.Proofs.YtclbkfpbdidaiaaGreatDoor
open Go.Lib (hid)
set_option maxHeartbeats 1000000
open Go.RowKit Go.ChangeShapes Go.WideShapes
set_option linter.unusedVariables false
set_option linter.unusedSimpArgs false
set_option maxRecDepth 10000
theorem undo_any (t r:Int) (p:Option Addr) (n c:Nat) (L:List Ln) (W:World) (hL:LL W p n c L) (hok:∀ x∈L,Lnok x) (hr:0≤r∧r≤255) (hn:n≤1000) :
 Calls Tryz.prog 93 #[.agg #[.int .u8 t,.int .u8 r,.slice p n c]] W (z5n W (negF (opsS t r L))):=by
 have hb1:Below W.heap.size W (W.alloc (.cells #[.int .u8 t,.int .u8 r,.slice p n c] 52)):=(Below.refl _ _).alloc (Nat.le_refl _) _
 have HB1:=hid hb1
 have hop:=ops_any t r p n c L _ (hL.later hb1) hok hn
 have HNB:=hid (negB_ops t r L hr hok)
 have HOK:=hid fun o ho=>(z8w t r L hr hok o ho).1
 have HLE:Hid ((opsS t r L).length≤2000):=hid (by have:=z9y t r L;rw [hL.len] at this;omega)
 generalize opsS t r L=M at *
 clear hL hok hb1
 go_enter Tryz.func93,Tryz.ntmps93
 go_wp2_with fail
 refine hop.mono ?_
 rintro e w2 ⟨p2,c2,rfl,hs2,hb2,_⟩
 have HB2:=hid (HB1.out.trans (hb2.mono HB1.out.size))
 have hne:=neg_o p2 _ c2 M w2 hs2 HOK.out (by have:=HLE.out;omega)
 rw [HNB.out,negV_true HNB.out] at hne
 clear hop hb2 hs2
 generalize M.length=m at *
 go_wp2_with fail
 refine hne.mono ?_
 rintro e w3 ⟨p3,c3,rfl,hs3,hb3,hp3⟩
 have HG:Hid (z5n W (negF M) (.returned (.slice p3 (negF M).length c3)) w3):=hid ⟨p3,c3,rfl,hs3,HB2.out.trans (hb3.mono HB2.out.size),fun a ha=>Nat.le_trans HB2.out.size (hp3 a ha)⟩
 clear hne hs3 hb3 hp3
 generalize (negF M).length=k at *
 go_wp2_with fail
 go_ret
 exact HG.out
end Go.Proofs.YtclbkfpbdidaiaaGreatDoor
