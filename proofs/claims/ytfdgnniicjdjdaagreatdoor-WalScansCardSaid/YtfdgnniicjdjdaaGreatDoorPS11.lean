import Derived.Test.YtfdgnniicjdjdaaGreatDoorPS10
import Derived.StillTailTactics
namespace Go.Proofs.YtfdgnniicjdjdaaGreatDoor
open Go.Lib (hid)
set_option maxHeartbeats 1000000
open Go.RowKit Go.ChangeShapes Go.WideShapes
set_option linter.unusedVariables false
set_option maxRecDepth 10000
set_option linter.unusedSimpArgs false
def z8r (n s:Nat):List (List Int):=List.replicate n (List.replicate s 0)
theorem zeroV_flat (n s:Nat):(z8r n s).flatten=List.replicate (n*s) 0:=by simp [z8r]
theorem z7f (n s:Nat):(z8r n s).length=n:=by simp [z8r]
theorem zeroV_all (n s:Nat):∀ x∈z8r n s,x.length=s:=fun x hx=>by rw [List.eq_of_mem_replicate hx];simp
theorem new_anyD (x y:Int) (w:World):Calls Tryz.prog 52 #[.int .i64 x,.int .i64 y] w fun e w'=>e=.returned (.pointer (some ⟨w.heap.size,0,none⟩))∧Vo w' w.heap.size (w.heap.size+1) (kp y 4096) (z8r (kp x 1024) (kp y 4096))∧Below w.heap.size w w':=by
 have k1:=fun w=>kept_any x 1024 w (by omega)
 have k2:=fun w=>kept_any y 4096 w (by omega)
 have l1:=q3c x 1024 (by omega)
 have l2:=q3c y 4096 (by omega)
 generalize kp x 1024=n at *
 generalize kp y 4096=s at *
 have l1':n≤1024:=by omega
 have l2':s≤4096:=by omega
 have hbig:n*s≤4194304:=Nat.le_trans (Nat.mul_le_mul l1' l2') (by omega)
 have e1:IntKind.i64.wrap ((n:Int)*(s:Int))=((n*s:Nat):Int):=by
  rw [← Int.natCast_mul]
  exact IntWalk.i64_in _ (by omega)
 have e2:(n:Int)*(s:Int)=((n*s:Nat):Int):=by rw [Int.natCast_mul]
 have hmk:=fun w=>made_bytes (n*s) (by omega) w
 have HZ:=hid (zeroV_flat n s)
 generalize hm:n*s=m at *
 have HM:=hid hm
 clear hm
 go_enter Tryz.func52,Tryz.ntmps52
 go_wp2_with fail
 refine (k1 _).mono ?_
 rintro e w' ⟨rfl,rfl⟩
 go_wp2_with fail
 refine (k2 _).mono ?_
 rintro e w' ⟨rfl,rfl⟩
 clear k1 k2
 go_wp2_with fail
 go_region
 go_wp2_with fail
 go_ret
 refine⟨rfl,⟨?_,?_,zeroV_all n s,by omega,by rw [z7f];exact l1',l2'⟩,?_⟩
 · have h1:=z0b w' (.cells #[.int .i64 (n:Nat),.int .i64 (s:Nat),.slice (some ⟨w'.heap.size+1,0,none⟩) m m] 168)
   have h2:=z0c h1 ((Below.refl _ _).alloc (Nat.le_refl _) (.cells (vB (List.replicate m 0)).toArray 5))
   rw [z7f,HM.out]
   exact h2
 · have h1:=z0b (w'.alloc (.cells #[.int .i64 (n:Nat),.int .i64 (s:Nat),.slice (some ⟨w'.heap.size+1,0,none⟩) m m] 168)) (.cells (vB (List.replicate m 0)).toArray 5)
   rw [HZ.out]
   have h2:(w'.alloc (.cells #[.int .i64 (n:Nat),.int .i64 (s:Nat),.slice (some ⟨w'.heap.size+1,0,none⟩) m m] 168)).heap.size=w'.heap.size+1:=by simp
   rw [h2] at h1
   exact h1
 · exact (((Below.refl _ _).alloc (Nat.le_refl _) _).alloc (by simp) _).drew
/-- Another volume that has the same. -/
theorem copy_any (B G s:Nat) (V:List (List Int)) (w:World) (h:Vo w B G s V):Calls Tryz.prog 100 #[.pointer (some ⟨B,0,none⟩)] w fun e w'=>e=.returned (.pointer (some ⟨w.heap.size,0,none⟩))∧Vo w' w.heap.size (w.heap.size+1) s V∧Below w.heap.size w w':=by
 have H:=hid h
 have hb:=blocks_any B G s V w h
 have hsz:=size_anyD B G s V w h
 have hn:=new_anyD (V.length:Nat) (s:Nat) w
 rw [show kp (V.length:Nat) 1024=V.length by have:=h.n;unfold kp;omega,show kp (s:Nat) 4096=s by have:=h.s;unfold kp;omega] at hn
 have hbig:=h.big
 have HL:=hid h.flat
 clear h
 generalize hnn:V.length=n at *
 have HNN:=hid hnn
 clear hnn
 go_enter Tryz.func100,Tryz.ntmps100
 go_wp2_with fail
 refine hb.mono ?_
 rintro e w' ⟨rfl,rfl⟩
 go_wp2_with fail
 refine hsz.mono ?_
 rintro e w'' ⟨rfl,rfl⟩
 go_wp2_with fail
 refine hn.mono ?_
 rintro e W1 ⟨rfl,hv1,hb1⟩
 have HV1:=hid hv1
 have HB1:=hid hb1
 have H1:=hid (H.out.later hb1)
 have c2:=fun q=>show (W1.drewN q).cell? ⟨B,2,none⟩=_ from H1.out.cells.2.2
 have v2:=fun q=>show (W1.drewN q).cell? ⟨w''.heap.size,2,none⟩=_ from HV1.out.cells.2.2
 rw [z7f] at v2
 rw [HNN.out] at c2
 have c2':=c2 0
 have v2':=v2 0
 rw [World.drewN_zero] at c2' v2'
 clear hv1 hb1 hb hsz hn H
 go_wp2_with fail
 go_still_tail 8,(by kernel_rfl)
 change wpList _ _ _ _ _ W1.drew
 have hle:(z8r n s).flatten.length=n*s:=by rw [zeroV_flat];simp
 have hbl:=H1.out.row
 have hsrc:BL W1.drew (some ⟨G,0,none⟩) (n*s) (n*s) V.flatten:=by
  have:=BL.of_row (n:=n*s) (off:=0) (c:=n*s) (w:=W1.drew) hbl (by rw [HL.out];omega) (Nat.le_refl _) (by unfold maxLen;omega)
  rwa [List.drop_zero,List.take_of_length_le (by rw [HL.out];exact Nat.le_refl _)] at this
 refine wpList_copy_at rfl _ _ rfl _ _ _ _ _ _ (n*s) rfl rfl (Nat.min_self _) (w''.heap.size+1) 0 (z8r n s).flatten 5 HV1.out.row _ hsrc (fun _=>rfl) (by rw [hle];omega) ?_
 intro w3 h3 hc3
 have h3':=h3.out
 have hx:splice (z8r n s).flatten 0 (V.flatten.take (n*s))=V.flatten:=by
  have e:=HL.out
  rw [List.take_of_length_le (by omega)]
  exact splice_all _ _ (by rw [hle,e])
 rw [hx] at h3'
 have H3:=hid h3'
 clear h3 h3' hx hsrc hbl
 go_wp2_with fail
 go_ret
 refine⟨rfl,⟨?_,H3.out,H1.out.len,by omega,H1.out.n,H1.out.s⟩,?_⟩
 · have h4:=HV1.out.blk
   rw [z7f] at h4
   have h5:w3.heap[w''.heap.size]?=W1.drew.heap[w''.heap.size]?:=hc3.block _ (z0g h4) (by omega)
   rw [h5,HNN.out]
   exact h4
 · exact hc3.below HB1.out.drew HB1.out.size fun k hk=>by omega
end Go.Proofs.YtfdgnniicjdjdaaGreatDoor
