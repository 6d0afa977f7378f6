import Derived.Test.YtnpjpelbcmgodaaGreatDoorPA42
import Derived.Test.YtnpjpelbcmgodaaGreatDoorPA19
import Derived.Sort.LotD5
namespace Go.Proofs.YtnpjpelbcmgodaaGreatDoor
open Go.Lib (hid)
set_option maxHeartbeats 4000000
open Go.RowKit Go.ChangeShapes Go.WideShapes
set_option linter.unusedVariables false
set_option linter.unusedSimpArgs false
set_option maxRecDepth 10000
def Cx (w:World) (q x:Nat):Prop:=∃ cur,w.heap[q]?=some (.cells cur 207 (0,0))∧cur[0]?=some (.int .u64 (x:Int))
theorem Cx.cell {w:World} {q s:Nat} (h:Cx w q s):w.cell? ⟨q,0,none⟩=some (.int .u64 (s:Int)):=by
 obtain⟨cur,h1,h2⟩:=h
 exact z0a h1 h2
theorem Cx.free {w:World} {q s:Nat} (h:Cx w q s):w.frozen? ⟨q,0,none⟩=false:=by
 obtain⟨cur,h1,h2⟩:=h
 exact z0m _ h1
theorem Cx.put {w:World} {q s:Nat} (h:Cx w q s) (s':Nat):Cx (w.setCell ⟨q,0,none⟩ (.int .u64 (s':Int))) q s':=by
 obtain⟨cur,h1,h2⟩:=h
 have hl:=(Array.getElem?_eq_some_iff.1 h2).1
 exact⟨_,z0p 0 _ h1,by rw [Array.getElem?_setIfInBounds,if_pos rfl,if_pos hl]⟩
theorem Cx.drewN {w:World} {q s:Nat} (h:Cx w q s) (k:Nat):Cx (w.drewN k) q s:=h
theorem Cx.turn {w w':World} {q s:Nat} {S:Nat→Prop} (h:Cx w q s) (hc:Turn S w w') (hn:¬ S q):Cx w' q s:=by
 obtain⟨cur,h1,h2⟩:=h
 exact⟨cur,(hc.block q (z0k h1) hn).trans h1,h2⟩
theorem set_set (w:World) (b o:Nat) (v v':Value):(w.setCell ⟨b,o,none⟩ v).setCell ⟨b,o,none⟩ v'=w.setCell ⟨b,o,none⟩ v':=by
 rw [Sort.setCell_eq,Sort.setCell_eq,Sort.mapBlock_mapBlock,Sort.setCell_eq]
 congr 1
 funext c
 simp
set_option maxRecDepth 100000 in
theorem next_u (q X:Nat) (hX:X<18446744073709551616) (w:World) (hc:w.cell? ⟨q,0,none⟩=some (.int .u64 X)) (hf:w.frozen? ⟨q,0,none⟩=false) :
 Calls Tryz.prog 159 #[.pointer (some ⟨q,0,none⟩)] w fun e w'=>e=.returned (.int .u64 (Sort.xorNextN X:Nat))∧w'=(w.setCell ⟨q,0,none⟩ (.int .u64 (Sort.xorNextN X:Nat))).drewN 3:=by
 obtain⟨A,hA⟩:∃ A:Nat,A=X ^^^ (X*8192 % 18446744073709551616):=⟨_,rfl⟩
 obtain⟨B,hB⟩:∃ B:Nat,B=A ^^^ (A / 128):=⟨_,rfl⟩
 obtain⟨C,hC⟩:∃ C:Nat,C=B ^^^ (B*131072 % 18446744073709551616):=⟨_,rfl⟩
 have lA:A<18446744073709551616:=by rw [hA];exact Nat.xor_lt_two_pow (n:=64) (by omega) (by omega)
 have lB:B<18446744073709551616:=by rw [hB];exact Nat.xor_lt_two_pow (n:=64) (by omega) (by omega)
 have e1:bits .xor .u64 (X:Int) (IntKind.u64.wrap ((X:Int)*8192))=(A:Int):=by
  rw [IntKind.wrap_u64,show ((X:Int)*8192 % 18446744073709551616)=((X*8192 % 18446744073709551616:Nat):Int) by omega,bits_xor_u64_nat _ _ hX (by omega),hA]
 have e2:bits .xor .u64 (A:Int) ((A:Int) / 128)=(B:Int):=by
  rw [show ((A:Int) / 128)=((A / 128:Nat):Int) by omega,bits_xor_u64_nat _ _ lA (by omega),hB]
 have e3:bits .xor .u64 (B:Int) (IntKind.u64.wrap ((B:Int)*131072))=(C:Int):=by
  rw [IntKind.wrap_u64,show ((B:Int)*131072 % 18446744073709551616)=((B*131072 % 18446744073709551616:Nat):Int) by omega,bits_xor_u64_nat _ _ lB (by omega),hC]
 have hv:Sort.xorNextN X=C:=by unfold Sort.xorNextN;simp only [];rw [← hA,← hB,← hC]
 rw [hv]
 clear hA hB hC hv
 have hss:∀ v v',(w.setCell ⟨q,0,none⟩ v).setCell ⟨q,0,none⟩ v'=w.setCell ⟨q,0,none⟩ v':=set_set w q 0
 go_enter Tryz.func159,Tryz.ntmps159
 go_wp2
 go_region
 all_goals go_wp2
 all_goals go_region
 all_goals go_wp2
 all_goals go_region
 all_goals go_wp2
 go_ret
 exact⟨rfl,rfl⟩
theorem next_r (q X:Nat) (hX:X<18446744073709551616) (w:World) (hc:Cx w q X):Calls Tryz.prog 159 #[.pointer (some ⟨q,0,none⟩)] w fun e w'=>∃ X':Nat,X'<18446744073709551616∧e=.returned (.int .u64 (X':Int))∧Cx w' q X'∧Turn (fun k=>k=q) w w':=by
 refine (next_u q X hX w hc.cell hc.free).mono ?_
 rintro e w' ⟨rfl,rfl⟩
 exact⟨_,Sort.xorNextN_lt X hX,rfl,(hc.put _).drewN 3,z6x (turn_one w q _) 3⟩
theorem two_wrap (k:Nat) (hk:k≤62):IntKind.u64.wrap ((2:Int) ^ k)=((2 ^ k:Nat):Int):=by
 have h:(2:Nat) ^ k≤2 ^ 62:=Nat.pow_le_pow_right (by decide) hk
 rw [IntKind.wrap_u64,show ((2:Int) ^ k)=((2 ^ k:Nat):Int) by push_cast;rfl]
 generalize (2:Nat) ^ k=p at h
 omega
theorem npow_u (n:Nat) (h1:1≤n) (hn:n≤255) (w:World):Calls Tryz.prog 158 #[.int .i64 n] w fun e w'=>(∃ M:Nat,1≤M∧M≤2*n∧e=.returned (.int .u64 (M:Int)))∧w'=w:=by
 have hl:=hid (jlen_u n hn w)
 go_enter Tryz.func158,Tryz.ntmps158
 go_wp2_with fail
 refine hl.out.mono ?_
 rintro e w' ⟨⟨k,rfl,hk,hk2⟩,hw⟩
 subst hw
 have HP:=hid (show 1≤2 ^ k∧2 ^ k≤2*n from ⟨Nat.one_le_two_pow,by omega⟩)
 have hp:=two_wrap k (by omega)
 clear hk2 hl
 go_wp2_with fail
 go_ret
 exact⟨⟨2 ^ k,HP.out.1,HP.out.2,rfl⟩,rfl⟩
set_option maxRecDepth 100000 in
theorem break_u (blk off cap a b n:Nat) (d:Array Int) (w:World) (hH:HdU w blk off d) (hdn:d.size=n) (hab:a+8≤b) (hb:b≤n) (hsz:n≤255) :
 Calls Tryz.prog 132 #[.slice (some ⟨blk,off,none⟩) n cap,.int .i64 a,.int .i64 b] w fun e w'=>e=.returned (.tuple #[])∧Pm w blk off a b d w':=by
 have hlt:=hH.lt
 have hne:blk≠w.heap.size:=by omega
 have A0:Hid (Sd w blk off d (w.alloc (.cells #[.int .u64 ((b:Int)-(a:Int))] 207))∧Cx (w.alloc (.cells #[.int .u64 ((b:Int)-(a:Int))] 207)) w.heap.size (b-a)):=by
  have ht:Turn (fun k=>k=blk) w (w.alloc (.cells #[.int .u64 ((b:Int)-(a:Int))] 207)):=Turn.of_below ((Below.refl _ _).alloc (Nat.le_refl _) _)
  exact hid ⟨⟨hH.turn (Turn.of_below (S:=fun _=>False) ((Below.refl _ _).alloc (Nat.le_refl _) _)) fun h=>h,ht⟩,⟨_,z0c w _,by simp;omega⟩⟩
 have NP:=fun W=>npow_u (b-a) (by omega) (by omega) W
 rw [show ((b-a:Nat):Int)=(b:Int)-(a:Int) by omega] at NP
 replace NP:=hid NP
 have HDN:=hid hdn
 have h8:(8:Int)≤(b:Int)-(a:Int):=by omega
 clear hH hdn
 go_enter Tryz.func132,Tryz.ntmps132
 go_wp2_with fail
 refine (NP.out _).mono ?_
 rintro e w' ⟨⟨M,hM1,hM2,rfl⟩,hw⟩
 subst hw
 go_wp2_with fail
 go_loopw [9] (fun vi wr=>∃ (X R:Nat) (dk:Array Int),vi=.int .i64 (X:Int)∧a+(b-a) / 4*2≤X+1∧X≤a+(b-a) / 4*2+2∧R<18446744073709551616∧Hid (dk.size=n)∧Hid (Sd w blk off dk wr)∧Hid (Cx wr w.heap.size R)∧Hid (Sort.PermIn a b d dk)) (fun vi _=>a+(b-a) / 4*2+3-(Go.RowKit.intOf vi).toNat)
 case atStart=>exact⟨a+(b-a) / 4*2-1,b-a,d,by congr 1;omega,by omega,by omega,by omega,HDN,hid A0.out.1,hid A0.out.2,hid (Sort.permIn_refl _ _ _)⟩
 case round =>
  obtain⟨X,R,dk,rfl,hX1,hX2,hR,HK,HW,HX,HP⟩:=hrel
  by_cases hle:(X:Int)≤(a:Int)+((b:Int)-(a:Int)) / 4*2+1
  · have NX:=next_r w.heap.size R hR wr HX.out
    have hXb:a≤X∧X<b∧X<n:=by omega
    have HXR:=hid (show a+(b-a) / 4*2≤X+1∧X+1≤a+(b-a) / 4*2+2 by omega)
    clear hX1 hX2
    go_wp2_with fail
    refine NX.mono ?_
    rintro e w1 ⟨R',hR',rfl,hx1,ht1⟩
    have HX1:=hid hx1
    have HW1:Hid (Sd w blk off dk w1):=hid ⟨HW.out.1.turn ht1 hne,HW.out.2.trans (S':=fun k=>k=w.heap.size) ht1 fun k hk e=>absurd (e:k=w.heap.size) (by omega)⟩
    clear hx1 ht1 NX HX HW
    obtain⟨O,hO⟩:∃ O:Nat,O=R' &&& (M-1):=⟨_,rfl⟩
    have lO:O≤M-1:=by rw [hO];exact Nat.and_le_right
    have eAnd:bits .and .u64 (R':Int) ((M:Int)-1)=(O:Int):=by
     rw [show ((M:Int)-1)=((M-1:Nat):Int) by omega,bits_and_u64_nat _ _ hR' (by omega),hO]
    clear hO
    obtain⟨G,hG⟩:∃ G:Nat→Int,∀ t,G t=dk[t]!:=⟨fun t=>dk[t]!,fun _=>rfl⟩
    have hcw:∀ t,t<n→w1.cell? ⟨blk,off+t,none⟩=some (.int .u32 (G t)):=fun t ht=>by
     rw [hG]
     exact HW1.out.1.cell (by rw [HK.out];exact ht)
    have hfw:∀ t,t<n→w1.frozen? ⟨blk,off+t,none⟩=false:=fun t _=>HW1.out.1.free t
    have HG:=hid hG
    clear hG
    have NEXT:∀ P:Nat,Hid (a≤P∧P<b→∀ q,(∃ (X' R:Nat) (dj:Array Int),Value.int .i64 ((X:Int)+1)=.int .i64 (X':Int)∧a+(b-a) / 4*2≤X'+1∧X'≤a+(b-a) / 4*2+2∧R<18446744073709551616∧Hid (dj.size=n)∧Hid (Sd w blk off dj (((w1.drewN q).setCell ⟨blk,off+X,none⟩ (.int .u32 (G P))).setCell ⟨blk,off+P,none⟩ (.int .u32 (G X))))∧Hid (Cx (((w1.drewN q).setCell ⟨blk,off+X,none⟩ (.int .u32 (G P))).setCell ⟨blk,off+P,none⟩ (.int .u32 (G X))) w.heap.size R)∧Hid (Sort.PermIn a b d dj))):=fun P=>hid fun hP q=>by
     have h1:=(HW1.out.drewN q).swap (i:=X) (j:=P) (by rw [HK.out];omega) (by rw [HK.out];omega)
     rw [← HG.out,← HG.out] at h1
     have hxr:=HXR.out
     exact⟨X+1,R',Sort.swp dk X P,by go_num,by omega,by omega,hR',hid (by rw [Sort.swp_size];exact HK.out),hid h1,hid ((HX1.out.drewN q).turn (turn_two _ blk _ _ _ _) (fun h=>hne h.symm)),hid (z4p HP.out (by rw [HK.out];exact hb) (by omega) (by omega) (by omega) (by omega))⟩
    by_cases hge:(b:Int)-(a:Int)≤(O:Int)
    · obtain⟨P,hP⟩:∃ P:Nat,P=a+(O-(b-a)):=⟨_,rfl⟩
      have eP:(a:Int)+((O:Int)-((b:Int)-(a:Int)))=(P:Int):=by omega
      have hPb:a≤P∧P<b∧P<n:=by omega
      clear hP
      go_wp2_with fail
      by_cases hEq:P=X
      · have NX:=NEXT P
        rw [hEq] at NX
        replace NX:=hid (NX.out (by omega) 1)
        clear NEXT
        go_region
        all_goals go_wp2
        go_roundw
        case rel=>exact NX.out
        case measure =>
         simp [Go.RowKit.intOf]
         try omega
      · have NX:=hid ((NEXT P).out (by omega) 1)
        clear NEXT
        have hEq2:X≠P:=fun e=>hEq e.symm
        go_region
        all_goals go_wp2
        go_roundw
        case rel=>exact NX.out
        case measure =>
         simp [Go.RowKit.intOf]
         try omega
    · obtain⟨P,hP⟩:∃ P:Nat,P=a+O:=⟨_,rfl⟩
      have eP:(a:Int)+(O:Int)=(P:Int):=by omega
      have hPb:a≤P∧P<b∧P<n:=by omega
      clear hP
      go_wp2_with fail
      by_cases hEq:P=X
      · have NX:=NEXT P
        rw [hEq] at NX
        replace NX:=hid (NX.out (by omega) 1)
        clear NEXT
        go_region
        all_goals go_wp2
        go_roundw
        case rel=>exact NX.out
        case measure =>
         simp [Go.RowKit.intOf]
         try omega
      · have NX:=hid ((NEXT P).out (by omega) 1)
        clear NEXT
        have hEq2:X≠P:=fun e=>hEq e.symm
        go_region
        all_goals go_wp2
        go_roundw
        case rel=>exact NX.out
        case measure =>
         simp [Go.RowKit.intOf]
         try omega
  · go_wp2_with fail
    go_end0
    exact⟨rfl,dk,HP.out,HW.out⟩
end Go.Proofs.YtnpjpelbcmgodaaGreatDoor
