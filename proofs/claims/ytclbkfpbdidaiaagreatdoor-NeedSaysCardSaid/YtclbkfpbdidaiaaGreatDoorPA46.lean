import Derived.Test.YtclbkfpbdidaiaaGreatDoorPA99
import Derived.Test.YtclbkfpbdidaiaaGreatDoorPA39
import Derived.Test.YtclbkfpbdidaiaaGreatDoorPA45
import Derived.Test.YtclbkfpbdidaiaaGreatDoorPA40
namespace Go.Proofs.YtclbkfpbdidaiaaGreatDoor
open Go.Lib (hid)
set_option maxHeartbeats 4000000
open Go.RowKit
set_option linter.unusedVariables false
set_option linter.unusedSimpArgs false
set_option maxRecDepth 10000
theorem k000:Kok (0,0,0):=⟨by decide,by decide,by decide⟩
theorem in0:In64 0:=by unfold In64;decide
def x1st (P:Pg):Rx:=⟨1,1,0,0,false,(0,0,0),0,0,P⟩
theorem x1st_good {P:Pg} (hg:z0p 4 4 P=true):z1n (x1st P)=true:=by
 simp [z1n,x1st,kOk,kS,kT,kB,kA,kO,kP,stepB,addB,outB,progB,hg]
theorem x1st_ok {P:Pg} (hok:Pgok P):Rxok (x1st P):=⟨by show (0:Int)≤1∧(1:Int)≤255;decide,by show (0:Int)≤1∧(1:Int)≤4294967295;decide,by show (0:Int)≤0∧(0:Int)≤4294967295;decide,by show (0:Int)≤0∧(0:Int)≤255;decide,k000,in0,by show (0:Int)≤0∧(0:Int)≤255;decide,hok⟩
theorem start_1st {P:Pg} (hg:z0p 4 4 P=true):startX (x1st P)=(⟨1,P,false,0,0,0⟩,0):=by
 unfold startX
 rw [if_pos ⟨rfl,x1st_good hg⟩]
 rfl
end Go.Proofs.YtclbkfpbdidaiaaGreatDoor
namespace Go.Proofs.YtclbkfpbdidaiaaGreatDoor
open Go.Lib (hid)
set_option maxHeartbeats 4000000
open Go.RowKit Go.ChangeShapes Go.WideShapes
set_option linter.unusedVariables false
set_option linter.unusedSimpArgs false
set_option maxRecDepth 10000
theorem cr_new0 (w:World) (c:Cv):CB ((w.alloc (.cells #[.int .u32 0,.int .u8 0,.int .u32 0,.int .u8 0,.slice none 0 0,.slice none 0 0,.slice none 0 0,.int .u8 0,.int .u8 0,.int .u8 0,.int .i64 0,.bool false,.int .i64 0,.int .i64 0,.int .u32 0] 34)).setRow w.heap.size (ccs c)) w.heap.size c∧Below w.heap.size w ((w.alloc (.cells #[.int .u32 0,.int .u8 0,.int .u32 0,.int .u8 0,.slice none 0 0,.slice none 0 0,.slice none 0 0,.int .u8 0,.int .u8 0,.int .u8 0,.int .i64 0,.bool false,.int .i64 0,.int .i64 0,.int .u32 0] 34)).setRow w.heap.size (ccs c)) :=
 ⟨(CB.new w cz).set c,below_setRow ((Below.refl _ _).alloc (Nat.le_refl _) _) (Nat.le_refl _) _⟩
theorem rc_new0 (w:World) (r:Rv):RB ((w.alloc (.cells #[.int .u8 0,.int .u32 0,.int .u32 0,.int .u8 0,.bool false,.int .u8 0,.int .u8 0,.int .u8 0,.int .i64 0,.int .u8 0,.int .u8 0,.int .u32 0,.int .u8 0,.slice none 0 0,.slice none 0 0,.slice none 0 0,.int .u8 0,.int .u8 0,.int .u8 0,.int .i64 0] 42)).setRow w.heap.size (rcs r)) w.heap.size r∧Below w.heap.size w ((w.alloc (.cells #[.int .u8 0,.int .u32 0,.int .u32 0,.int .u8 0,.bool false,.int .u8 0,.int .u8 0,.int .u8 0,.int .i64 0,.int .u8 0,.int .u8 0,.int .u32 0,.int .u8 0,.slice none 0 0,.slice none 0 0,.slice none 0 0,.int .u8 0,.int .u8 0,.int .u8 0,.int .i64 0] 42)).setRow w.heap.size (rcs r)) :=
 ⟨(RB.new w rz).set r,below_setRow ((Below.refl _ _).alloc (Nat.le_refl _) _) (Nat.le_refl _) _⟩
end Go.Proofs.YtclbkfpbdidaiaaGreatDoor
namespace Go.Proofs.YtclbkfpbdidaiaaGreatDoor
open Go.Lib (hid)
set_option maxHeartbeats 4000000
open Go.RowKit
set_option linter.unusedVariables false
set_option linter.unusedSimpArgs false
set_option maxRecDepth 10000
def passN (n:Nat):Int:=28+22*(n:Int)
def failN (n:Nat):Int:=39+44*(n:Int)
def passS (s:Stp):Int:=passN (opsT s).length
def failS (s:Stp):Int:=failN (opsT s).length
def z1d:List Stp→Int
 | []=>0
 | s::S=>passS s+z1d S
def failL (S:List Stp):Int:=S.foldl (fun m s=>if m<failS s then failS s else m) 0
theorem passL_app (A B:List Stp):z1d (A++B)=z1d A+z1d B:=by
 induction A with
 | nil=>simp [z1d]
 | cons s A ih=>simp only [List.cons_append,z1d,ih];omega
theorem passL_one (S:List Stp) (j:Nat) (h:j<S.length):z1d (S.take (j+1))=z1d (S.take j)+passS (S.getD j (0,0,[])):=by
 rw [List.take_add_one,List.getElem?_eq_getElem h,passL_app]
 simp [z1d,List.getD,List.getElem?_eq_getElem h]
theorem passL_nn (S:List Stp):0≤z1d S:=by
 induction S with
 | nil=>exact Int.le_refl 0
 | cons s A ih=>simp only [z1d,passS,passN];omega
theorem passL_split (S:List Stp) (j:Nat):z1d S=z1d (S.take j)+z1d (S.drop j):=by
 rw [← passL_app,List.take_append_drop]
theorem take_end (S:List Stp) (j:Nat) (h:j<S.length):S.take (j+1)=S.take j ++ [S.getD j (0,0,[])]:=by
 rw [List.take_add_one,List.getElem?_eq_getElem h]
 simp [List.getD,List.getElem?_eq_getElem h]
theorem failL_one (S:List Stp) (j:Nat) (h:j<S.length):failL (S.take (j+1))=if failL (S.take j)<failS (S.getD j (0,0,[])) then failS (S.getD j (0,0,[])) else failL (S.take j):=by
 rw [take_end S j h]
 unfold failL
 rw [List.foldl_append]
 rfl
theorem failL_ge (S:List Stp):∀ j,j≤S.length→0≤failL (S.take j)∧∀ i,i<j→failS (S.getD i (0,0,[]))≤failL (S.take j):=by
 intro j
 induction j with
 | zero=>intro _;exact⟨by simp [failL],fun i h=>by omega⟩
 | succ j ih =>
  intro hj
  obtain⟨h1,h2⟩:=ih (by omega)
  rw [failL_one S j (by omega)]
  refine⟨by split <;> omega,fun i hi=>?_⟩
  rcases (by omega:i=j∨i<j) with rfl | h
  · split <;> omega
  · have:=h2 i h
    split <;> omega
theorem failL_le (S:List Stp) (b:Int) (hb:0≤b) (h:∀ s∈S,failS s≤b):∀ j,j≤S.length→failL (S.take j)≤b:=by
 intro j
 induction j with
 | zero=>intro _;simpa [failL] using hb
 | succ j ih =>
  intro hj
  have h1:=ih (by omega)
  have h2:=h (S.getD j (0,0,[])) (by rw [List.getD,List.getElem?_eq_getElem (by omega)];exact List.getElem_mem _)
  rw [failL_one S j (by omega)]
  split <;> omega
theorem failL_all (S:List Stp):failL (S.take S.length)=failL S:=by rw [List.take_length]
theorem opsS_fine {s:Stp} (h:FineS s):(opsS s.1 s.2.1 s.2.2).length≤6:=(good_counts h.1 ⟨h.2.2.1.1,h.2.2.1.2⟩ h.2.2.2.1).2.2.2
theorem passL_le (S:List Stp) (h:∀ s∈S,FineS s):z1d S≤160*(S.length:Int):=by
 induction S with
 | nil=>simp [z1d]
 | cons s A ih =>
  have h1:=ih fun t ht=>h t (List.mem_cons.2 (.inr ht))
  have h2:=opsS_fine (h s (List.mem_cons.2 (.inl rfl)))
  simp only [z1d,passS,passN,opsT,List.length_cons]
  omega
theorem failS_le {s:Stp} (h:FineS s):failS s≤303:=by
 have:=opsS_fine h
 unfold failS failN opsT
 omega
def keptR (retry:Int):Int:=if retry<0 then 0 else if 4<retry then 4 else retry
def thrC (c:Crs) (retry:Int):Int:=if c.tr≤keptR retry then keptR retry+1-c.tr else 0
def attP (P:Pg):Int:=failL (z0o P)
def restC (c:Crs) (retry:Int):Int :=
 if goodC c=false then 0
 else if c.bk then z1d ((z0o c.P).take c.st.toNat)+12
 else z1d ((z0o c.P).drop c.st.toNat)+thrC c retry*attP c.P+11+z1d (z0o c.P)+12
def allC (c:Crs) (dd:Bool) (retry:Int):Int:=restC c retry+attP c.P+(if dd=true∧c.bk=false then attP c.P else 0)
def holdC (c:Crs) (dd:Bool) (sz retry:Int):Int :=
 if goodC c=false then 0
 else if c.tx=0 then restC c retry+attP c.P
 else if allC c dd retry≤sz then 0 else allC c dd retry-sz
def crs0 (P:Pg):Crs:=⟨1,P,false,0,0,0⟩
def startN (P:Pg) (retry:Int):Int:=if z0p 4 4 P=true then sizeX (x1st P)+holdC (crs0 P) false 0 retry else 0
theorem crs0_good {P:Pg} (hg:z0p 4 4 P=true):goodC (crs0 P)=true:=by
 refine goodC_of (show (1:Int)≠0 by decide) hg (Int.le_refl 0) ?_ (Int.le_refl 0)
 show (0:Int)≤lenC (crs0 P)
 unfold lenC
 omega
theorem hold_crs0 {P:Pg} (hg:z0p 4 4 P=true) {dd:Bool} {sz retry:Int}:holdC (crs0 P) dd sz retry=restC (crs0 P) retry+attP P:=by
 have hgc:=crs0_good hg
 unfold holdC
 rw [if_neg (by rw [hgc];simp)]
 exact if_pos rfl
end Go.Proofs.YtclbkfpbdidaiaaGreatDoor
namespace Go.Proofs.YtclbkfpbdidaiaaGreatDoor
open Go.Lib (hid)
set_option maxHeartbeats 4000000
open Go.RowKit Go.ChangeShapes Go.WideShapes
set_option linter.unusedVariables false
set_option linter.unusedSimpArgs false
set_option maxRecDepth 10000
theorem item_two (t r:Int) (x:Ln):(itemS t r x).length≤2:=by
 unfold itemS
 split
 · rcases one_cases t r x with ⟨_,h⟩ | ⟨_,h⟩ | ⟨_,h⟩ | ⟨_,h⟩ | ⟨_,h⟩ | ⟨_,h⟩ | ⟨_,h⟩ | ⟨_,h⟩ | ⟨_,h⟩ <;> rw [h] <;> simp
 · simp
theorem ops_two (t r:Int) (L:List Ln):(opsS t r L).length≤2*L.length:=by
 unfold opsS
 induction L with
 | nil=>simp
 | cons x L ih =>
  have:=item_two t r x
  simp only [List.flatMap_cons,List.length_append,List.length_cons]
  omega
theorem cost_at {k z:Int} (h:costI k=z) (W:World):Calls Tryz.prog 45 #[.int .u8 k] W fun e w'=>e=.returned (.int .i64 z)∧Below W.heap.size W w':=h ▸ cost_any k W
theorem rcost_at {k z:Int} (h:costI k=z) (h0:0≤k) (W:World):Calls Tryz.prog 46 #[.int .u8 k] W fun e w'=>e=.returned (.int .i64 z)∧w'=W:=h ▸ rcost_any k h0 W
theorem nd_pass (t r:Int) (p:Option Addr) (n c:Nat) (L:List Ln) (W:World) (hL:LL W p n c L) (hok:∀ x∈L,Lnok x) (hn:n≤1000):Calls Tryz.prog 14 #[.agg #[.int .u8 t,.int .u8 r,.slice p n c]] W fun e w'=>e=.returned (.int .i64 (passS (t,r,L)))∧Below W.heap.size W w':=by
 have hb1:Below W.heap.size W (W.alloc (.cells #[.int .u8 t,.int .u8 r,.slice p n c] 52)):=(Below.refl _ _).alloc (Nat.le_refl _) _
 have HOP:=hid (ops_any t r p n c L _ (hL.later hb1) hok hn)
 have h2:=ops_two t r L
 have hl:=hL.len
 have HV:Hid (passS (t,r,L)=passN (opsS t r L).length):=hid rfl
 have hm:(opsS t r L).length≤2000:=by omega
 have HB1:=hid hb1
 generalize passS (t,r,L)=V at *
 generalize opsS t r L=O at *
 generalize hk:O.length=m at *
 have HK:=hid hk
 clear hk h2 hl hL hok hn hb1
 go_enter Tryz.func14,Tryz.ntmps14
 go_wp2_with fail
 refine HOP.out.mono ?_
 rintro e w1 ⟨p2,c2,rfl,hs2,hb2,_⟩
 have HB2:=hid (HB1.out.trans (hb2.mono HB1.out.size))
 clear hs2 hb2 HOP
 simp only [HK.out]
 go_wp2_with fail
 refine (cost_at (k:=2) (z:=17) rfl _).mono ?_
 rintro e w2 ⟨rfl,hb⟩
 have HB3:=hid (HB2.out.trans (hb.mono HB2.out.size))
 clear hb
 go_wp2_with fail
 refine (cost_at (k:=3) (z:=22) rfl _).mono ?_
 rintro e w3 ⟨rfl,hb⟩
 have HB4:=hid (HB3.out.trans (hb.mono HB3.out.size))
 clear hb
 go_wp2_with fail
 refine (cost_at (k:=4) (z:=11) rfl _).mono ?_
 rintro e w4 ⟨rfl,hb⟩
 have HB5:=hid (HB4.out.trans (hb.mono HB4.out.size))
 clear hb
 go_wp2_with fail
 go_ret
 exact⟨congrArg (fun z:Int=>Ending.returned (Value.int .i64 z)) (by rw [HV.out];unfold passN;omega),HB5.out⟩
theorem nd_fail (t r:Int) (p:Option Addr) (n c:Nat) (L:List Ln) (W:World) (hL:LL W p n c L) (hok:∀ x∈L,Lnok x) (hn:n≤1000):Calls Tryz.prog 16 #[.agg #[.int .u8 t,.int .u8 r,.slice p n c]] W fun e w'=>e=.returned (.int .i64 (failS (t,r,L)))∧Below W.heap.size W w':=by
 have hb1:Below W.heap.size W (W.alloc (.cells #[.int .u8 t,.int .u8 r,.slice p n c] 52)):=(Below.refl _ _).alloc (Nat.le_refl _) _
 have HOP:=hid (ops_any t r p n c L _ (hL.later hb1) hok hn)
 have h2:=ops_two t r L
 have hl:=hL.len
 have HV:Hid (failS (t,r,L)=failN (opsS t r L).length):=hid rfl
 have hm:(opsS t r L).length≤2000:=by omega
 have HB1:=hid hb1
 generalize failS (t,r,L)=V at *
 generalize opsS t r L=O at *
 generalize hk:O.length=m at *
 have HK:=hid hk
 clear hk h2 hl hL hok hn hb1
 go_enter Tryz.func16,Tryz.ntmps16
 go_wp2_with fail
 refine HOP.out.mono ?_
 rintro e w1 ⟨p2,c2,rfl,hs2,hb2,_⟩
 have HB2:=hid (HB1.out.trans (hb2.mono HB1.out.size))
 clear hs2 hb2 HOP
 simp only [HK.out]
 go_wp2_with fail
 refine (cost_at (k:=2) (z:=17) rfl _).mono ?_
 rintro e w2 ⟨rfl,hb⟩
 have HB3:=hid (HB2.out.trans (hb.mono HB2.out.size))
 clear hb
 go_wp2_with fail
 refine (cost_at (k:=3) (z:=22) rfl _).mono ?_
 rintro e w3 ⟨rfl,hb⟩
 have HB4:=hid (HB3.out.trans (hb.mono HB3.out.size))
 clear hb
 go_wp2_with fail
 refine (cost_at (k:=5) (z:=11) rfl _).mono ?_
 rintro e w4 ⟨rfl,hb⟩
 have HB5:=hid (HB4.out.trans (hb.mono HB4.out.size))
 clear hb
 go_wp2_with fail
 refine (cost_at (k:=6) (z:=22) rfl _).mono ?_
 rintro e w5 ⟨rfl,hb⟩
 have HB6:=hid (HB5.out.trans (hb.mono HB5.out.size))
 clear hb
 go_wp2_with fail
 refine (cost_at (k:=7) (z:=11) rfl _).mono ?_
 rintro e w6 ⟨rfl,hb⟩
 have HB7:=hid (HB6.out.trans (hb.mono HB6.out.size))
 clear hb
 go_wp2_with fail
 go_ret
 exact⟨congrArg (fun z:Int=>Ending.returned (Value.int .i64 z)) (by rw [HV.out];unfold failN;omega),HB7.out⟩
theorem nr_pass (t r:Int) (p:Option Addr) (n c:Nat) (L:List Ln) (W:World) (hL:LL W p n c L) (hok:∀ x∈L,Lnok x) (hn:n≤1000):Calls Tryz.prog 15 #[.agg #[.int .u8 t,.int .u8 r,.slice p n c]] W fun e w'=>e=.returned (.int .i64 (passS (t,r,L)))∧Below W.heap.size W w':=by
 have hb1:Below W.heap.size W (W.alloc (.cells #[.int .u8 t,.int .u8 r,.slice p n c] 52)):=(Below.refl _ _).alloc (Nat.le_refl _) _
 have h2:=ops_two t r L
 have hl:=hL.len
 have HV:Hid (passS (t,r,L)=passN (opsS t r L).length):=hid rfl
 have hm:(opsS t r L).length≤2000:=by omega
 have HB1:=hid hb1
 have HOP:=hid fun w' (hb:Below (W.alloc (.cells #[.int .u8 t,.int .u8 r,.slice p n c] 52)).heap.size (W.alloc (.cells #[.int .u8 t,.int .u8 r,.slice p n c] 52)) w')=>refops_any t r p n c L w' ((hL.later hb1).later hb) hok hn
 obtain⟨W1,hW1⟩:∃ W1,W.alloc (.cells #[.int .u8 t,.int .u8 r,.slice p n c] 52)=W1:=⟨_,rfl⟩
 have hblk:=z0c W (.cells #[.int .u8 t,.int .u8 r,.slice p n c] 52)
 rw [hW1] at HOP HB1 hblk
 have HC:=hid (z1m hblk)
 have HW1:=hid hW1
 generalize passS (t,r,L)=V at *
 generalize opsS t r L=O at *
 generalize hk:O.length=m at *
 have HK:=hid hk
 obtain⟨B,hB⟩:∃ B,W.heap.size=B:=⟨_,rfl⟩
 have HBE:=hid hB
 rw [hB] at HC
 clear hk h2 hl hL hok hn hb1 hW1 hblk hB
 go_enter Tryz.func15,Tryz.ntmps15
 go_upto_region 1 with (fail)
 rw [HW1.out,HBE.out]
 have hbd:Below W1.heap.size W1 W1.drew:=(Below.refl _ _).drew
 refine wp_region_held_drew (S:=fun w'=>Hid (Below W1.heap.size W1 w')) (by kernel_rfl) (hid hbd) (fun hHeld=>?_)
 clear hbd
 generalize W1.drew=Wd at *
 refine wpAnyH_take (i:=1) (oi:=⟨some 4,_,_,_,_,_⟩) (v:=.agg #[.int .u8 t,.int .u8 r,.slice p n c]) rfl (by kernel_rfl) (by kernel_rfl) (by kernel_rfl) (fun _ _ _ h=>h) (Or.inl ⟨by rfl,fun w' hw'=>?_⟩) (by assumption) ?_
 · have c0:=z0w ⟨w',hw'.out⟩ HC.out.1
   have c1:=z0w ⟨w',hw'.out⟩ HC.out.2.1
   have c2:=z0w ⟨w',hw'.out⟩ HC.out.2.2
   dsimp only at c0 c1 c2
   clear hHeld hw' HC
   go_simp
 try simp only [Act.put,sIB,sCZ,sCS]
 refine wpAnyH_ready (rs:=[0]) (by kernel_rfl) (by simp) (AllReadyH.cons rfl (fun K hK=>?_) (AllReadyH.nil))
 go_simp
 go_wp2_with fail
 refine (rcost_at (k:=2) (z:=17) rfl (by omega) _).mono ?_
 rintro e wa ⟨rfl,rfl⟩
 go_wp2_with fail
 refine hK.out _ _ hHeld (fun hHeld2=>?_)
 try simp only [Act.put,sIB,sCZ,sCS]
 clear hK K hHeld
 have hHeld:=hHeld2
 clear hHeld2
 have hop:=HOP.out
 refine wpAnyH_ready (rs:=[2]) (by kernel_rfl) (by simp) (AllReadyH.cons rfl (fun K hK=>?_) (AllReadyH.nil))
 go_simp
 go_wp2_with fail
 refine (HOP.out _ hHeld.out).mono ?_
 rintro e wb ⟨p2,k2,rfl,hs2,hb2,_⟩
 have hSN:Hid (Below W1.heap.size W1 wb):=hid (hHeld.out.trans (hb2.mono hHeld.out.size))
 simp only [HK.out]
 clear hs2 hb2 hop
 go_wp2_with fail
 refine hK.out _ _ hSN (fun hHeld2=>?_)
 try simp only [Act.put,sIB,sCZ,sCS]
 clear hK K hHeld
 have hHeld:=hHeld2
 clear hHeld2
 refine wpAnyH_take (i:=3) (oi:=⟨some 6,_,_,_,_,_⟩) (v:=.int .i64 (m:Int)) rfl (by kernel_rfl) (by kernel_rfl) (by kernel_rfl) (fun _ _ _ h=>h) (Or.inl ⟨by rfl,fun w' hw'=>?_⟩) (by assumption) ?_
 · clear hHeld
   go_simp
   try exact IntWalk.i64_in _ (by omega)
 try simp only [Act.put,sIB,sCZ,sCS]
 refine wpAnyH_ready (rs:=[4]) (by kernel_rfl) (by simp) (AllReadyH.cons rfl (fun K hK=>?_) (AllReadyH.nil))
 go_simp
 go_wp2_with fail
 refine (rcost_at (k:=3) (z:=22) rfl (by omega) _).mono ?_
 rintro e wc ⟨rfl,rfl⟩
 go_wp2_with fail
 refine hK.out _ _ hHeld (fun hHeld2=>?_)
 try simp only [Act.put,sIB,sCZ,sCS]
 clear hK K hHeld
 have hHeld:=hHeld2
 clear hHeld2
 refine wpAnyH_take (i:=5) (oi:=⟨some 8,_,_,_,_,_⟩) (v:=.int .i64 ((m:Int)*22)) rfl (by kernel_rfl) (by kernel_rfl) (by kernel_rfl) (fun _ _ _ h=>h) (Or.inl ⟨by rfl,fun w' hw'=>?_⟩) (by assumption) ?_
 · clear hHeld
   go_simp
   try exact IntWalk.i64_in _ (by omega)
 try simp only [Act.put,sIB,sCZ,sCS]
 refine wpAnyH_take (i:=6) (oi:=⟨some 9,_,_,_,_,_⟩) (v:=.int .i64 (17+(m:Int)*22)) rfl (by kernel_rfl) (by kernel_rfl) (by kernel_rfl) (fun _ _ _ h=>h) (Or.inl ⟨by rfl,fun w' hw'=>?_⟩) (by assumption) ?_
 · clear hHeld
   go_simp
   try exact IntWalk.i64_in _ (by omega)
 try simp only [Act.put,sIB,sCZ,sCS]
 refine wpAnyH_ready (rs:=[7]) (by kernel_rfl) (by simp) (AllReadyH.cons rfl (fun K hK=>?_) (AllReadyH.nil))
 go_simp
 go_wp2_with fail
 refine (rcost_at (k:=4) (z:=11) rfl (by omega) _).mono ?_
 rintro e wd ⟨rfl,rfl⟩
 go_wp2_with fail
 refine hK.out _ _ hHeld (fun hHeld2=>?_)
 try simp only [Act.put,sIB,sCZ,sCS]
 clear hK K hHeld
 have hHeld:=hHeld2
 clear hHeld2
 refine wpAnyH_take (i:=8) (oi:=⟨some 11,_,_,_,_,_⟩) (v:=.int .i64 (17+(m:Int)*22+11)) rfl (by kernel_rfl) (by kernel_rfl) (by kernel_rfl) (fun _ _ _ h=>h) (Or.inl ⟨by rfl,fun w' hw'=>?_⟩) (by assumption) ?_
 · clear hHeld
   go_simp
   try exact IntWalk.i64_in _ (by omega)
 try simp only [Act.put,sIB,sCZ,sCS]
 refine wpAnyH_take (i:=9) (oi:=⟨some 2,_,_,_,_,_⟩) (v:=.int .i64 (17+(m:Int)*22+11)) rfl (by kernel_rfl) (by kernel_rfl) (by kernel_rfl) (fun _ _ _ h=>h) (Or.inl ⟨by rfl,fun w' hw'=>?_⟩) (by assumption) ?_
 · clear hHeld
   go_simp
   try exact IntWalk.i64_in _ (by omega)
 try simp only [Act.put,sIB,sCZ,sCS]
 have h3:=hHeld.out
 refine wpAnyH_done (by kernel_rfl) ?_ _
 clear hHeld
 have HB3:=hid (HB1.out.trans (h3.mono HB1.out.size))
 clear h3
 go_wp2_with fail
 go_ret
 exact⟨congrArg (fun z:Int=>Ending.returned (Value.int .i64 z)) (by rw [HV.out];unfold passN;omega),HB3.out⟩
theorem nr_fail (t r:Int) (p:Option Addr) (n c:Nat) (L:List Ln) (W:World) (hL:LL W p n c L) (hok:∀ x∈L,Lnok x) (hn:n≤1000):Calls Tryz.prog 17 #[.agg #[.int .u8 t,.int .u8 r,.slice p n c]] W fun e w'=>e=.returned (.int .i64 (failS (t,r,L)))∧Below W.heap.size W w':=by
 have hb1:Below W.heap.size W (W.alloc (.cells #[.int .u8 t,.int .u8 r,.slice p n c] 52)):=(Below.refl _ _).alloc (Nat.le_refl _) _
 have h2:=ops_two t r L
 have hl:=hL.len
 have HV:Hid (failS (t,r,L)=failN (opsS t r L).length):=hid rfl
 have hm:(opsS t r L).length≤2000:=by omega
 have HB1:=hid hb1
 have HOP:=hid (refops_any t r p n c L _ (hL.later hb1) hok hn)
 generalize failS (t,r,L)=V at *
 generalize opsS t r L=O at *
 generalize hk:O.length=m at *
 have HK:=hid hk
 clear hk h2 hl hL hok hn hb1
 go_enter Tryz.func17,Tryz.ntmps17
 go_wp2_with fail
 refine HOP.out.mono ?_
 rintro e w1 ⟨p2,c2,rfl,hs2,hb2,_⟩
 have HB2:=hid (HB1.out.trans (hb2.mono HB1.out.size))
 clear hs2 hb2 HOP
 simp only [HK.out]
 go_wp2_with fail
 refine (rcost_at (k:=2) (z:=17) rfl (by omega) _).mono ?_
 rintro e w2 ⟨rfl,rfl⟩
 go_wp2_with fail
 refine (rcost_at (k:=3) (z:=22) rfl (by omega) _).mono ?_
 rintro e w3 ⟨rfl,rfl⟩
 go_wp2_with fail
 refine (rcost_at (k:=5) (z:=11) rfl (by omega) _).mono ?_
 rintro e w5 ⟨rfl,rfl⟩
 go_wp2_with fail
 refine (rcost_at (k:=6) (z:=22) rfl (by omega) _).mono ?_
 rintro e w6 ⟨rfl,rfl⟩
 go_wp2_with fail
 refine (rcost_at (k:=7) (z:=11) rfl (by omega) _).mono ?_
 rintro e w7 ⟨rfl,rfl⟩
 go_wp2_with fail
 go_ret
 exact⟨congrArg (fun z:Int=>Ending.returned (Value.int .i64 z)) (by rw [HV.out];unfold failN;omega),HB2.out⟩
theorem slg_drop {α:Type} {enc:α→List Value} {k:Nat} {d:α} {w:World} {p:Option Addr} {n c:Nat} {L:List α} (h:SlG enc k d w p n c L) (i:Nat) (hi:i≤n) (q:Option Addr) (hq:i<n→∀ b off,p=some ⟨b,off,none⟩→q=some ⟨b,off+i*k,none⟩) (hn:q=none→c-i=0):SlG enc k d w q (n-i) (c-i) (L.drop i):=by
 refine⟨by rw [List.length_drop,h.len],by have:=h.cap;omega,by have:=h.max;omega,hn,fun h0=>?_⟩
 obtain⟨b,off,hp,hlt,hc⟩:=h.cell (by omega)
 refine⟨b,off+i*k,hq (by omega) b off hp,hlt,fun j hj x v hv=>?_⟩
 rw [List.getD,List.getElem?_drop] at hv
 have:=hc (i+j) (by omega) x v hv
 rw [Nat.add_mul] at this
 rw [show off+i*k+j*k+x=off+(i*k+j*k)+x by omega]
 exact this
theorem TellsAll.take {w:World}:∀ {H:List Hs} {S:List Stp} (i:Nat),TellsAll w H S→TellsAll w (H.take i) (S.take i)
 | [],[],i,_=>by simp [TellsAll]
 | _::_,_::_,0,_=>by simp [TellsAll]
 | _::_,_::_,i+1,h=>⟨h.1,TellsAll.take i h.2⟩
 | [],_::_,_,h=>h.elim
 | _::_,[],_,h=>h.elim
theorem TellsAll.drop {w:World}:∀ {H:List Hs} {S:List Stp} (i:Nat),TellsAll w H S→TellsAll w (H.drop i) (S.drop i)
 | [],[],i,_=>by simp [TellsAll]
 | _::_,_::_,0,h=>h
 | _::_,_::_,i+1,h=>TellsAll.drop i h.2
 | [],_::_,_,h=>h.elim
 | _::_,[],_,h=>h.elim
theorem SL.take {w:World} {p:Option Addr} {n c:Nat} {H:List Hs} {S:List Stp} (h:SL w p n c H S) (i:Nat) (hi:i≤n):SL w p i c (H.take i) (S.take i):=⟨h.row.take i hi,h.tells.take i⟩
theorem SL.drop {w:World} {p:Option Addr} {n c:Nat} {H:List Hs} {S:List Stp} (h:SL w p n c H S) (i:Nat) (hi:i≤n) (q:Option Addr) (hq:i<n→∀ b off,p=some ⟨b,off,none⟩→q=some ⟨b,off+i*3,none⟩) (hn:q=none→c-i=0):SL w q (n-i) (c-i) (H.drop i) (S.drop i):=⟨slg_drop h.row i hi q hq hn,h.tells.drop i⟩
theorem passL_few {S:List Stp} {n:Nat} (h:∀ s∈S,FineS s) (hl:S.length=n) (hn:n≤5):0≤z1d S∧z1d S≤800:=⟨passL_nn S,by have:=passL_le S h;omega⟩
theorem fine_at {S:List Stp} (h:∀ s∈S,FineS s) {j:Nat} (hj:j<S.length):FineS (S.getD j (0,0,[])):=h _ (by rw [List.getD,List.getElem?_eq_getElem hj];exact List.getElem_mem _)
theorem fine_take {S:List Stp} (h:∀ s∈S,FineS s) (i:Nat):∀ s∈S.take i,FineS s:=fun s hs=>h s (List.mem_of_mem_take hs)
theorem fine_drop {S:List Stp} (h:∀ s∈S,FineS s) (i:Nat):∀ s∈S.drop i,FineS s:=fun s hs=>h s (List.mem_of_mem_drop hs)
theorem failL_few {S:List Stp} (h:∀ s∈S,FineS s) (j:Nat) (hj:j≤S.length):0≤failL (S.take j)∧failL (S.take j)≤303:=⟨(failL_ge S j hj).1,failL_le S 303 (by omega) (fun s hs=>failS_le (h s hs)) j hj⟩
theorem nd_passes (p:Option Addr) (n c:Nat) (H:List Hs) (S:List Stp) (W:World) (hS:SL W p n c H S) (hf:∀ s∈S,FineS s) (hn:n≤5):Calls Tryz.prog 50 #[.slice p n c] W fun e w'=>e=.returned (.int .i64 (z1d S))∧Below W.heap.size W w':=by
 have hl:S.length=n:=by rw [← hS.tells.len];exact hS.row.len
 have HFJ:Hid (∀ j,j<n→FineS (S.getD j (0,0,[]))):=hid fun j hj=>fine_at hf (by omega)
 have HPS:Hid (∀ j,j<n→z1d (S.take (j+1))=z1d (S.take j)+passS (S.getD j (0,0,[]))):=hid fun j hj=>passL_one S j (by omega)
 have HPB:Hid (∀ j,j≤n→0≤z1d (S.take j)∧z1d (S.take j)≤800):=hid fun j hj=>passL_few (n:=j) (fine_take hf j) (by rw [List.length_take];omega) (by omega)
 have HEND:Hid (z1d (S.take n)=z1d S):=hid (by rw [← hl,List.take_length])
 have HS:=hid hS
 clear hS hf hl
 go_enter Tryz.func50,Tryz.ntmps50
 go_wp2_with fail
 go_loopw [3,8] (fun v ix wr=>∃ (j:Nat) (x:Int),j≤n∧ix=.int .i64 j∧v=.int .i64 x∧Hid (z1d (S.take j)=x)∧Hid (Below W.heap.size W wr)) (fun _ ix _=>n-(Go.RowKit.intOf ix).toNat)
 case atStart=>exact⟨0,0,Nat.zero_le _,rfl,rfl,hid (by rw [List.take_zero];rfl),hid (Below.refl _ _)⟩
 case round =>
  obtain⟨j,x,hj,rfl,rfl,HX,HB⟩:=hrel
  by_cases hlt:j<n
  case pos =>
   have hlt':(j:Int)<n:=by omega
   have HSA:=hid (HS.out.later HB.out)
   obtain⟨b',off',heb,_,k0,k1,k2⟩:=step_cells HSA.out.row hlt
   obtain⟨t1,t2,t3⟩:=HSA.out.tells.at j (by rw [HSA.out.row.len];exact hlt)
   subst heb
   have hfine:=HFJ.out j hlt
   have hst:=HPS.out j hlt
   have hb1:=HPB.out j (by omega)
   have hb2:=HPB.out (j+1) (by omega)
   rw [hst] at hb2
   rw [HX.out] at hst hb1 hb2
   rw [t1] at k0
   rw [t2] at k1
   generalize S.getD j (0,0,[])=sj at *
   obtain⟨ts,rs,Lq⟩:=sj
   generalize H.getD j hs0=h3 at *
   obtain⟨y1,y2,ip,il,ic⟩:=h3
   dsimp only at k0 k1 k2 t1 t2 t3
   obtain⟨f1,f2,f3,f4,f5⟩:=hfine
   dsimp only at f1 f2 f3 f4 f5
   have hl1:=t3.len
   have hba:Below wr.heap.size wr (wr.alloc (.cells #[.int .u8 ts,.int .u8 rs,.slice ip il ic] 52)):=(Below.refl _ _).alloc (Nat.le_refl _) _
   have HOP:=hid (nd_pass ts rs ip il ic Lq (wr.alloc (.cells #[.int .u8 ts,.int .u8 rs,.slice ip il ic] 52)) (t3.later hba) f4 (by omega))
   have HBA:=hid (HB.out.trans (hba.mono HB.out.size))
   generalize passS (ts,rs,Lq)=z at *
   have HST:=hid hst
   clear hst t1 t2 t3 f1 f2 f3 f4 f5 hl1 hba
   go_wp2_with fail
   refine HOP.out.mono ?_
   rintro e w4 ⟨rfl,hb4⟩
   have HB4:=hid (HBA.out.trans (hb4.mono HBA.out.size))
   clear hb4 HOP k0 k1 k2
   go_wp2_with fail
   go_roundw
   case rel=>exact⟨j+1,x+z,by omega,by go_num,rfl,hid HST.out,HB4⟩
   case measure=>simp [Go.RowKit.intOf];omega
  obtain rfl:n=j:=by omega
  have HE:Hid (z1d S=x):=hid (by rw [← HEND.out];exact HX.out)
  go_wp2_with fail
  go_ret
  exact⟨by rw [HE.out];rfl,HB.out⟩
theorem nd_attempt (p:Rv) (L:List Ln) (T:List Tk) (M:List Ln) (W:World) (hw:Words W) (hP:RvM W p L T M) (hok:Pgok (p.pg L T M)) (h1:p.ln≤400∧p.tn≤400∧p.wn≤400):Calls Tryz.prog 18 #[.agg (pcs p)] W fun e w'=>e=.returned (.int .i64 (attP (p.pg L T M)))∧Below W.heap.size W w':=by
 have hb0:Below W.heap.size W (W.alloc (.cells (pcs p) 26)):=(Below.refl _ _).alloc (Nat.le_refl _) _
 have HST:=hid (steps_p p.pk p.od p.po p.lp p.ln p.lcp p.tp p.tn p.tcp p.wp p.wn p.wcp p.sk p.fr p.to p.q L T M _ (hw.later hb0) (PgM.later hP hb0) hok h1)
 have hfn:(∀ s∈z0o (p.pg L T M),FineS s)∧(z0o (p.pg L T M)).length≤5:=by
  cases hg:z0p 4 4 (p.pg L T M) with
  | false=>rw [steps_no hg];exact⟨(fun s hs=>by cases hs),by simp⟩
  | true=>exact⟨(z2g hg hok).2,(z2g hg hok).1.2⟩
 have HA:Hid (attP (p.pg L T M)=failL (z0o (p.pg L T M))):=hid rfl
 generalize attP (p.pg L T M)=AV at *
 have HB0:=hid hb0
 obtain⟨hf,hn⟩:=hfn
 have HST2:Hid (Calls Tryz.prog 48 #[.agg (pcs p)] (W.alloc (.cells (pcs p) 26)) (GivesS (W.alloc (.cells (pcs p) 26)) (z0o (p.pg L T M)))):=HST
 generalize z0o (p.pg L T M)=S at *
 obtain⟨n,hl⟩:∃ n,S.length=n:=⟨_,rfl⟩
 have HL:=hid hl
 rw [hl] at hn
 have HFJ:Hid (∀ j,j<n→FineS (S.getD j (0,0,[]))):=hid fun j hj=>fine_at hf (by omega)
 have HPS:Hid (∀ j,j<n→failL (S.take (j+1))=if failL (S.take j)<failS (S.getD j (0,0,[])) then failS (S.getD j (0,0,[])) else failL (S.take j)):=hid fun j hj=>failL_one S j (by omega)
 have HPB:Hid (∀ j,j≤n→0≤failL (S.take j)∧failL (S.take j)≤303):=hid fun j hj=>failL_few hf j (by omega)
 have HEND:Hid (failL (S.take n)=failL S):=hid (by rw [← hl,List.take_length])
 have hpb:(W.alloc (.cells (pcs p) 26)).heap[W.heap.size]?=some (.cells (pcs p) 26 (0,0)):=z0c _ _
 have HPB0:=hid hpb
 clear hb0 hP hok h1 hf hl hw hpb HST
 go_enter Tryz.func18,Tryz.ntmps18
 go_upto_region 2 with (fail)
 generalize W.alloc (.cells (pcs p) 26)=W1 at *
 obtain⟨B,hB⟩:∃ B,W.heap.size=B:=⟨_,rfl⟩
 have HBE:=hid hB
 rw [hB] at HPB0
 rw [hB]
 clear hB
 go_wp2_with (first | ((with_reducible refine wpList_load_row rfl 26 _ rfl _ rfl 26 (pcs p) (0,0) _ HPB0.out Tryz.underlying26 rfl (by kernel_rfl) ?_)) | fail)
 refine HST2.out.mono ?_
 rintro e w3 ⟨p3,k3,H,rfl,hs3,hb3⟩
 have HB3:Hid (Below W.heap.size W w3):=hid (HB0.out.trans (hb3.mono HB0.out.size))
 have HS:=hid hs3
 simp only [HL.out] at HS ⊢
 clear hb3 hs3 HST2 HPB0
 go_wp2_with fail
 go_loopw [3,9] (fun v ix wr=>∃ (j:Nat) (x:Int),j≤n∧ix=.int .i64 j∧v=.int .i64 x∧Hid (failL (S.take j)=x)∧Hid (Below w3.heap.size w3 wr)) (fun _ ix _=>n-(Go.RowKit.intOf ix).toNat)
 case atStart=>exact⟨0,0,Nat.zero_le _,rfl,rfl,hid (by rw [List.take_zero];rfl),hid (Below.refl _ _)⟩
 case round =>
  obtain⟨j,x,hj,rfl,rfl,HX,HB⟩:=hrel
  by_cases hlt:j<n
  case pos =>
   have hlt':(j:Int)<n:=by omega
   have HSA:=hid (HS.out.later HB.out)
   obtain⟨b',off',heb,_,k0,k1,k2⟩:=step_cells HSA.out.row hlt
   obtain⟨t1,t2,t3⟩:=HSA.out.tells.at j (by rw [HSA.out.row.len];exact hlt)
   subst heb
   have hfine:=HFJ.out j hlt
   have hst:=HPS.out j hlt
   have hb1:=HPB.out j (by omega)
   have hb3:0≤failS (S.getD j (0,0,[]))∧failS (S.getD j (0,0,[]))≤303:=⟨by unfold failS failN;omega,failS_le hfine⟩
   rw [HX.out] at hst hb1
   rw [t1] at k0
   rw [t2] at k1
   generalize S.getD j (0,0,[])=sj at *
   obtain⟨ts,rs,Lq⟩:=sj
   generalize H.getD j hs0=h3 at *
   obtain⟨y1,y2,ip,il,ic⟩:=h3
   dsimp only at k0 k1 k2 t1 t2 t3
   obtain⟨f1,f2,f3,f4,f5⟩:=hfine
   dsimp only at f1 f2 f3 f4 f5
   have hl1:=t3.len
   have hba:Below wr.heap.size wr (wr.alloc (.cells #[.int .u8 ts,.int .u8 rs,.slice ip il ic] 52)):=(Below.refl _ _).alloc (Nat.le_refl _) _
   have HOP:=hid (nd_fail ts rs ip il ic Lq (wr.alloc (.cells #[.int .u8 ts,.int .u8 rs,.slice ip il ic] 52)) (t3.later hba) f4 (by omega))
   have HBA:=hid (HB.out.trans (hba.mono HB.out.size))
   generalize failS (ts,rs,Lq)=z at *
   obtain⟨mx,hmx⟩:∃ mx,max x z=mx:=⟨_,rfl⟩
   have HST:Hid (failL (S.take (j+1))=mx):=hid (by rw [hst,← hmx];split <;> omega)
   clear hst t1 t2 t3 f1 f2 f3 f4 f5 hl1 hba
   go_wp2_with fail
   refine HOP.out.mono ?_
   rintro e w4 ⟨rfl,hb4⟩
   have HB4:=hid (HBA.out.trans (hb4.mono HBA.out.size))
   clear hb4 HOP k0 k1 k2
   go_wp2_with fail
   go_roundw
   case rel=>exact⟨j+1,mx,by omega,by go_num,rfl,HST,HB4⟩
   case measure=>simp [Go.RowKit.intOf];omega
  obtain rfl:n=j:=by omega
  have HE:Hid (AV=x):=hid (by rw [HA.out,← HEND.out];exact HX.out)
  have HB5:=hid (HB3.out.trans (HB.out.mono HB3.out.size))
  go_wp2_with fail
  go_ret
  exact⟨by rw [HE.out];rfl,HB5.out⟩
theorem nr_kept (retry:Int) (W:World) (h2:In64 retry):Calls Tryz.prog 54 #[.int .i64 retry] W fun e w'=>e=.returned (.int .i64 (keptR retry))∧w'=W:=by
 unfold In64 at h2
 by_cases h0:retry<0
 · have HE:Hid (keptR retry=0):=hid (if_pos h0)
   go_enter Tryz.func54,Tryz.ntmps54
   go_wp2_with fail
   go_ret
   exact⟨by rw [HE.out];rfl,rfl⟩
 · by_cases h4:4<retry
   · have HE:Hid (keptR retry=4):=hid (by unfold keptR;rw [if_neg h0,if_pos h4])
     go_enter Tryz.func54,Tryz.ntmps54
     go_wp2_with fail
     go_ret
     exact⟨by rw [HE.out];rfl,rfl⟩
   · have HE:Hid (keptR retry=retry):=hid (by unfold keptR;rw [if_neg h0,if_neg h4])
     go_enter Tryz.func54,Tryz.ntmps54
     go_wp2_with fail
     go_ret
     exact⟨by rw [HE.out];rfl,rfl⟩
theorem steps_few {P:Pg} (hok:Pgok P):(∀ s∈z0o P,FineS s)∧(z0o P).length≤5:=by
 cases hg:z0p 4 4 P with
 | false=>rw [steps_no hg];exact⟨(fun s hs=>by cases hs),by simp⟩
 | true=>exact⟨(z2g hg hok).2,(z2g hg hok).1.2⟩
theorem nr_passes (p:Rv) (L:List Ln) (T:List Tk) (M:List Ln) (W:World) (hP:RvM W p L T M) (hok:Pgok (p.pg L T M)) (h1:p.ln≤400∧p.tn≤400∧p.wn≤400) (f g:Nat) (hfg:f≤g) (hgl:g≤(z0o (p.pg L T M)).length):Calls Tryz.prog 53 #[.agg (pcs p),.int .i64 (f:Int),.int .i64 (g:Int)] W fun e w'=>e=.returned (.int .i64 (z1d ((z0o (p.pg L T M)).take g)-z1d ((z0o (p.pg L T M)).take f)))∧Below W.heap.size W w':=by
 have hb0:Below W.heap.size W (W.alloc (.cells (pcs p) 26)):=(Below.refl _ _).alloc (Nat.le_refl _) _
 have HST2:Hid (Calls Tryz.prog 13 #[.agg (pcs p)] (W.alloc (.cells (pcs p) 26)) (GivesS (W.alloc (.cells (pcs p) 26)) (z0o (p.pg L T M)))):=hid (rsteps_p p.pk p.od p.po p.lp p.ln p.lcp p.tp p.tn p.tcp p.wp p.wn p.wcp p.sk p.fr p.to p.q L T M _ (PgM.later hP hb0) hok ⟨by omega,by omega,by omega⟩)
 obtain⟨hf,hn⟩:=steps_few hok
 have HB0:=hid hb0
 generalize z0o (p.pg L T M)=S at *
 obtain⟨n,hl⟩:∃ n,S.length=n:=⟨_,rfl⟩
 have HL:=hid hl
 rw [hl] at hn
 have HFJ:Hid (∀ j,j<n→FineS (S.getD j (0,0,[]))):=hid fun j hj=>fine_at hf (by omega)
 rw [hl] at hgl
 obtain⟨x0,hx0⟩:∃ x0,z1d (S.take f)=x0:=⟨_,rfl⟩
 rw [hx0]
 have HX0:=hid hx0
 have HPS:Hid (∀ j,j<n→z1d (S.take (j+1))-x0=z1d (S.take j)-x0+passS (S.getD j (0,0,[]))):=hid fun j hj=>by rw [passL_one S j (by omega)];omega
 have HPB:Hid (∀ j,j≤n→-800≤z1d (S.take j)-x0∧z1d (S.take j)-x0≤800):=hid fun j hj=>by
  have h1:=passL_few (n:=j) (fine_take hf j) (by rw [List.length_take];omega) (by omega)
  have h2:=passL_few (n:=f) (fine_take hf f) (by rw [List.length_take];omega) (by omega)
  rw [hx0] at h2
  omega
 clear hx0
 have hpb:(W.alloc (.cells (pcs p) 26)).heap[W.heap.size]?=some (.cells (pcs p) 26 (0,0)):=z0c _ _
 have HPB0:=hid hpb
 clear hb0 hP hok h1 hf hl hpb
 go_enter Tryz.func53,Tryz.ntmps53
 go_upto_region 1 with (fail)
 generalize W.alloc (.cells (pcs p) 26)=W1 at *
 obtain⟨B,hB⟩:∃ B,W.heap.size=B:=⟨_,rfl⟩
 have HBE:=hid hB
 rw [hB] at HPB0
 rw [hB]
 clear hB
 go_wp2_with (first | ((with_reducible refine wpList_load_row rfl 26 _ rfl _ ?_ 26 (pcs p) (0,0) _ HPB0.out Tryz.underlying26 rfl (by kernel_rfl) ?_);rfl) | fail)
 refine HST2.out.mono ?_
 rintro e w3 ⟨p3,k3,H,rfl,hs3,hb3⟩
 have HB3:Hid (Below W.heap.size W w3):=hid (HB0.out.trans (hb3.mono HB0.out.size))
 have HS:=hid hs3
 simp only [HL.out] at HS ⊢
 clear hb3 hs3 HST2 HPB0
 go_wp2_with fail
 go_loopw [8,9] (fun v ix wr=>∃ (j:Nat) (x:Int),(f≤j∧j≤g)∧ix=.int .i64 j∧v=.int .i64 x∧Hid (z1d (S.take j)-x0=x)∧Hid (Below w3.heap.size w3 wr)) (fun _ ix _=>g-(Go.RowKit.intOf ix).toNat)
 case atStart=>exact⟨f,0,⟨Nat.le_refl _,hfg⟩,rfl,rfl,hid (by rw [HX0.out];omega),hid (Below.refl _ _)⟩
 case round =>
  obtain⟨j,x,hj,rfl,rfl,HX,HB⟩:=hrel
  by_cases hlt:j<g
  case pos =>
   have hlt':(j:Int)<g:=by omega
   have hjn:j<n:=by omega
   have hjz:(j:Int)<n:=by omega
   have HSA:=hid (HS.out.later HB.out)
   have hcap:=HSA.out.row.cap
   obtain⟨b',off',heb,_,k0,k1,k2⟩:=step_cells HSA.out.row hjn
   obtain⟨t1,t2,t3⟩:=HSA.out.tells.at j (by rw [HSA.out.row.len];exact hjn)
   subst heb
   have hfine:=HFJ.out j hjn
   have hst:=HPS.out j hjn
   have hb1:=HPB.out j (by omega)
   have hb2:=HPB.out (j+1) (by omega)
   rw [hst] at hb2
   rw [HX.out] at hst hb1 hb2
   rw [t1] at k0
   rw [t2] at k1
   generalize S.getD j (0,0,[])=sj at *
   obtain⟨ts,rs,Lq⟩:=sj
   generalize H.getD j hs0=h3 at *
   obtain⟨y1,y2,ip,il,ic⟩:=h3
   dsimp only at k0 k1 k2 t1 t2 t3
   obtain⟨f1,f2,f3,f4,f5⟩:=hfine
   dsimp only at f1 f2 f3 f4 f5
   have hl1:=t3.len
   have HOP:=hid fun w' (hb:Below wr.heap.size wr w')=>nr_pass ts rs ip il ic Lq w' (t3.later hb) f4 (by omega)
   generalize passS (ts,rs,Lq)=z at *
   have HST:=hid hst
   clear hst t1 t2 t3 f1 f2 f3 f4 f5 hl1
   go_wp2_with fail
   refine (HOP.out _ (Below.refl _ _)).mono ?_
   rintro e w4 ⟨rfl,hb4⟩
   have HB4:=hid (HB.out.trans (hb4.mono HB.out.size))
   clear hb4 HOP k0 k1 k2
   go_wp2_with fail
   go_roundw
   case rel=>exact⟨j+1,x+z,by omega,by go_num,rfl,hid HST.out,HB4⟩
   case measure=>simp [Go.RowKit.intOf];omega
  obtain rfl:g=j:=by omega
  have HE:Hid (z1d (S.take g)-x0=x):=HX
  have HB5:=hid (HB3.out.trans (HB.out.mono HB3.out.size))
  go_wp2_with fail
  go_ret
  exact⟨by rw [HE.out];rfl,HB5.out⟩
theorem nr_attempt (p:Rv) (L:List Ln) (T:List Tk) (M:List Ln) (W:World) (hP:RvM W p L T M) (hok:Pgok (p.pg L T M)) (h1:p.ln≤400∧p.tn≤400∧p.wn≤400):Calls Tryz.prog 19 #[.agg (pcs p)] W fun e w'=>e=.returned (.int .i64 (attP (p.pg L T M)))∧Below W.heap.size W w':=by
 have hb0:Below W.heap.size W (W.alloc (.cells (pcs p) 26)):=(Below.refl _ _).alloc (Nat.le_refl _) _
 have HST2:Hid (Calls Tryz.prog 13 #[.agg (pcs p)] (W.alloc (.cells (pcs p) 26)) (GivesS (W.alloc (.cells (pcs p) 26)) (z0o (p.pg L T M)))):=hid (rsteps_p p.pk p.od p.po p.lp p.ln p.lcp p.tp p.tn p.tcp p.wp p.wn p.wcp p.sk p.fr p.to p.q L T M _ (PgM.later hP hb0) hok ⟨by omega,by omega,by omega⟩)
 obtain⟨hf,hn⟩:=steps_few hok
 have HB0:=hid hb0
 have HA:Hid (attP (p.pg L T M)=failL (z0o (p.pg L T M))):=hid rfl
 generalize attP (p.pg L T M)=AV at *
 generalize z0o (p.pg L T M)=S at *
 obtain⟨n,hl⟩:∃ n,S.length=n:=⟨_,rfl⟩
 have HL:=hid hl
 rw [hl] at hn
 have HFJ:Hid (∀ j,j<n→FineS (S.getD j (0,0,[]))):=hid fun j hj=>fine_at hf (by omega)
 have HPS:Hid (∀ j,j<n→failL (S.take (j+1))=if failL (S.take j)<failS (S.getD j (0,0,[])) then failS (S.getD j (0,0,[])) else failL (S.take j)):=hid fun j hj=>failL_one S j (by omega)
 have HPB:Hid (∀ j,j≤n→0≤failL (S.take j)∧failL (S.take j)≤303):=hid fun j hj=>failL_few hf j (by omega)
 have HEND:Hid (failL (S.take n)=failL S):=hid (by rw [← hl,List.take_length])
 have hpb:(W.alloc (.cells (pcs p) 26)).heap[W.heap.size]?=some (.cells (pcs p) 26 (0,0)):=z0c _ _
 have HPB0:=hid hpb
 clear hb0 hP hok h1 hf hl hpb
 go_enter Tryz.func19,Tryz.ntmps19
 go_upto_region 1 with (fail)
 generalize W.alloc (.cells (pcs p) 26)=W1 at *
 obtain⟨B,hB⟩:∃ B,W.heap.size=B:=⟨_,rfl⟩
 have HBE:=hid hB
 rw [hB] at HPB0
 rw [hB]
 clear hB
 go_wp2_with (first | ((with_reducible refine wpList_load_row rfl 26 _ rfl _ ?_ 26 (pcs p) (0,0) _ HPB0.out Tryz.underlying26 rfl (by kernel_rfl) ?_);rfl) | fail)
 refine HST2.out.mono ?_
 rintro e w3 ⟨p3,k3,H,rfl,hs3,hb3⟩
 have HB3:Hid (Below W.heap.size W w3):=hid (HB0.out.trans (hb3.mono HB0.out.size))
 have HS:=hid hs3
 simp only [HL.out] at HS ⊢
 clear hb3 hs3 HST2 HPB0
 go_wp2_with fail
 go_loopw [4,5] (fun v ix wr=>∃ (j:Nat) (x:Int),(j≤n)∧ix=.int .i64 j∧v=.int .i64 x∧Hid (failL (S.take j)=x)∧Hid (Below w3.heap.size w3 wr)) (fun _ ix _=>n-(Go.RowKit.intOf ix).toNat)
 case atStart=>exact⟨0,0,Nat.zero_le _,rfl,rfl,hid (by rw [List.take_zero];rfl),hid (Below.refl _ _)⟩
 case round =>
  obtain⟨j,x,hj,rfl,rfl,HX,HB⟩:=hrel
  by_cases hlt:j<n
  case pos =>
   have hlt':(j:Int)<n:=by omega
   have hjn:j<n:=by omega
   have hjz:(j:Int)<n:=by omega
   have HSA:=hid (HS.out.later HB.out)
   have hcap:=HSA.out.row.cap
   obtain⟨b',off',heb,_,k0,k1,k2⟩:=step_cells HSA.out.row hjn
   obtain⟨t1,t2,t3⟩:=HSA.out.tells.at j (by rw [HSA.out.row.len];exact hjn)
   subst heb
   have hfine:=HFJ.out j hjn
   have hst:=HPS.out j hjn
   have hb1:=HPB.out j (by omega)
   have hb3:0≤failS (S.getD j (0,0,[]))∧failS (S.getD j (0,0,[]))≤303:=⟨by unfold failS failN;omega,failS_le hfine⟩
   rw [HX.out] at hst hb1
   rw [t1] at k0
   rw [t2] at k1
   generalize S.getD j (0,0,[])=sj at *
   obtain⟨ts,rs,Lq⟩:=sj
   generalize H.getD j hs0=h3 at *
   obtain⟨y1,y2,ip,il,ic⟩:=h3
   dsimp only at k0 k1 k2 t1 t2 t3
   obtain⟨f1,f2,f3,f4,f5⟩:=hfine
   dsimp only at f1 f2 f3 f4 f5
   have hl1:=t3.len
   have HOP:=hid fun w' (hb:Below wr.heap.size wr w')=>nr_fail ts rs ip il ic Lq w' (t3.later hb) f4 (by omega)
   generalize failS (ts,rs,Lq)=z at *
   have HST:=hid hst
   clear hst t1 t2 t3 f1 f2 f3 f4 f5 hl1
   by_cases hxz:x<z
   · have hxd:decide (x<z)=true:=decide_eq_true hxz
     have HST2:Hid (failL (S.take (j+1))=z):=hid (by rw [HST.out,if_pos hxz])
     clear HST
     go_wp2_with fail
     refine (HOP.out _ (Below.refl _ _)).mono ?_
     rintro e w4 ⟨rfl,hb4⟩
     have HOP4:=hid (HOP.out _ hb4)
     have k0':=(hb4.cell (World.block_lt_of_cell? _ _ k0)).trans k0
     have k1':=(hb4.cell (World.block_lt_of_cell? _ _ k1)).trans k1
     have k2':=(hb4.cell (World.block_lt_of_cell? _ _ k2)).trans k2
     have HB4:=hid (HB.out.trans (hb4.mono HB.out.size))
     clear hb4 HOP k0 k1 k2
     go_wp2_with fail
     refine HOP4.out.mono ?_
     rintro e w5 ⟨rfl,hb5⟩
     have HB5:=hid (HB4.out.trans (hb5.mono HB4.out.size))
     clear hb5 HOP4 k0' k1' k2'
     go_wp2_with fail
     go_roundw
     case rel=>exact⟨j+1,z,by omega,by go_num,rfl,HST2,HB5⟩
     case measure=>simp [Go.RowKit.intOf];omega
   · have hxd:decide (x<z)=false:=decide_eq_false hxz
     have HST2:Hid (failL (S.take (j+1))=x):=hid (by rw [HST.out,if_neg hxz])
     clear HST
     go_wp2_with fail
     refine (HOP.out _ (Below.refl _ _)).mono ?_
     rintro e w4 ⟨rfl,hb4⟩
     have HB4:=hid (HB.out.trans (hb4.mono HB.out.size))
     clear hb4 HOP k0 k1 k2
     go_wp2_with fail
     go_roundw
     case rel=>exact⟨j+1,x,by omega,by go_num,rfl,HST2,HB4⟩
     case measure=>simp [Go.RowKit.intOf];omega
  obtain rfl:n=j:=by omega
  have HE:Hid (AV=x):=hid (by rw [HA.out,← HEND.out];exact HX.out)
  have HB5:=hid (HB3.out.trans (HB.out.mono HB3.out.size))
  go_wp2_with fail
  go_ret
  exact⟨by rw [HE.out];rfl,HB5.out⟩
end Go.Proofs.YtclbkfpbdidaiaaGreatDoor
