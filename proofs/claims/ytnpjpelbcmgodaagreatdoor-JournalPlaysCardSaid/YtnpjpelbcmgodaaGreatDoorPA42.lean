import Derived.Test.YtnpjpelbcmgodaaGreatDoorPA41
import Derived.Deep.Cut
namespace Go.Proofs.YtnpjpelbcmgodaaGreatDoor
open Go.Lib (hid)
set_option maxHeartbeats 16000000
open Go.RowKit Go.ChangeShapes Go.WideShapes
set_option linter.unusedVariables false
set_option linter.unusedSimpArgs false
set_option maxRecDepth 10000
def Ct (w:World) (q s:Nat):Prop:=∃ cur,w.heap[q]?=some (.cells cur 3 (0,0))∧cur[0]?=some (.int .i64 (s:Int))
theorem Ct.cell {w:World} {q s:Nat} (h:Ct w q s):w.cell? ⟨q,0,none⟩=some (.int .i64 (s:Int)):=by
 obtain⟨cur,h1,h2⟩:=h
 exact z0a h1 h2
theorem Ct.free {w:World} {q s:Nat} (h:Ct w q s):w.frozen? ⟨q,0,none⟩=false:=by
 obtain⟨cur,h1,h2⟩:=h
 exact z0m _ h1
theorem Ct.put {w:World} {q s:Nat} (h:Ct w q s) (s':Nat):Ct (w.setCell ⟨q,0,none⟩ (.int .i64 (s':Int))) q s':=by
 obtain⟨cur,h1,h2⟩:=h
 have hl:=(Array.getElem?_eq_some_iff.1 h2).1
 exact⟨_,z0p 0 _ h1,by rw [Array.getElem?_setIfInBounds,if_pos rfl,if_pos hl]⟩
theorem turn_one (w:World) (q:Nat) (v:Value):Turn (fun k=>k=q) w (w.setCell ⟨q,0,none⟩ v):=by
 have h:=(Chg.refl (fun k=>k=q) w).setCell ⟨q,0,none⟩ v fun _=>rfl
 exact⟨h.os,h.tape,h.output,h.size,h.block⟩
theorem z6x {S:Nat→Prop} {w w':World} (h:Turn S w w') (q:Nat):Turn S w (w'.drewN q):=⟨h.os,h.tape,h.output,h.size,h.block⟩
set_option maxRecDepth 100000 in
theorem order2_u (blk off cap a b n q s:Nat) (d:Array Int) (w:World) (hH:HdU w blk off d) (hdn:d.size=n) (ha:a<n) (hb:b<n) (hq:Ct w q s) (hs:s≤100) :
 Calls Tryz.prog 170 #[.slice (some ⟨blk,off,none⟩) n cap,.int .i64 a,.int .i64 b,.pointer (some ⟨q,0,none⟩)] w fun e w'=>(∃ x y:Nat,e=.returned (.tuple #[.int .i64 x,.int .i64 y])∧((x=a∧y=b)∨(x=b∧y=a)))∧Turn (fun k=>k=q) w w'∧∃ s',s'≤s+1∧Ct w' q s':=by
 have ca:=hH.cell (t:=a) (by omega)
 have cb:=hH.cell (t:=b) (by omega)
 have cs:=hq.cell
 have fs:=hq.free
 have HQ:=hid hq
 clear hH hq
 go_enter Tryz.func170,Tryz.ntmps170
 go_wp2_with fail
 go_quiet (first | (go_at_call 136;refine Calls.quiet_of_same (z1s _ _ _)))
 go_wp2
 · (try go_region)
   all_goals go_wp2
   go_ret2
   refine⟨⟨b,a,rfl,.inr ⟨rfl,rfl⟩⟩,?_,s+1,Nat.le_refl _,?_⟩
   · exact z6x (turn_one w q _) _
   · exact HQ.out.put (s+1)
 · go_ret2
   exact⟨⟨a,b,rfl,.inl ⟨rfl,rfl⟩⟩,z6x (Turn.refl _ _) _,s,by omega,HQ.out⟩
set_option maxRecDepth 100000 in
theorem median_u (blk off cap a b c n q s:Nat) (d:Array Int) (w:World) (hH:HdU w blk off d) (hdn:d.size=n) (ha:a<n) (hb:b<n) (hc:c<n) (hq:Ct w q s) (hs:s≤90) (hne:blk≠q) :
 Calls Tryz.prog 161 #[.slice (some ⟨blk,off,none⟩) n cap,.int .i64 a,.int .i64 b,.int .i64 c,.pointer (some ⟨q,0,none⟩)] w fun e w'=>(∃ x:Nat,e=.returned (.int .i64 x)∧(x=a∨x=b∨x=c))∧Turn (fun k=>k=q) w w'∧∃ s',s'≤s+3∧Ct w' q s':=by
 have O2:=hid fun (a b s:Nat) (W:World) (hT:Turn (fun k=>k=q) w W) (ha:a<n) (hb:b<n) (hq:Ct W q s) (hs:s≤100)=>order2_u blk off cap a b n q s d W (hH.turn hT hne) hdn ha hb hq hs
 have HQ:=hid hq
 clear hH hq
 go_enter Tryz.func161,Tryz.ntmps161
 go_wp2_with fail
 refine (O2.out a b s w (Turn.refl _ _) ha hb HQ.out (by omega)).mono ?_
 rintro e w1 ⟨⟨x1,y1,rfl,h1⟩,ht1,s1,hs1,hq1⟩
 have T1:=hid ht1
 have Q1:=hid hq1
 clear ht1 hq1
 go_wp2_with fail
 refine (O2.out y1 c s1 w1 T1.out (by omega) hc Q1.out (by omega)).mono ?_
 rintro e w2 ⟨⟨x2,y2,rfl,h2⟩,ht2,s2,hs2,hq2⟩
 have T2:=hid (T1.out.trans ht2 fun _ _ h=>h)
 have Q2:=hid hq2
 clear ht2 hq2
 go_wp2_with fail
 refine (O2.out x1 x2 s2 w2 T2.out (by omega) (by omega) Q2.out (by omega)).mono ?_
 rintro e w3 ⟨⟨x3,y3,rfl,h3⟩,ht3,s3,hs3,hq3⟩
 have T3:=hid (T2.out.trans ht3 fun _ _ h=>h)
 have Q3:=hid hq3
 clear ht3 hq3
 go_wp2_with fail
 go_ret
 exact⟨⟨y3,rfl,by omega⟩,T3.out,s3,by omega,Q3.out⟩
set_option maxRecDepth 100000 in
theorem medadj_u (blk off cap a n q s:Nat) (d:Array Int) (w:World) (hH:HdU w blk off d) (hdn:d.size=n) (ha:1≤a) (hb:a+1<n) (hsz:n≤1000000000) (hq:Ct w q s) (hs:s≤90) (hne:blk≠q) :
 Calls Tryz.prog 160 #[.slice (some ⟨blk,off,none⟩) n cap,.int .i64 a,.pointer (some ⟨q,0,none⟩)] w fun e w'=>(∃ x:Nat,e=.returned (.int .i64 x)∧a≤x+1∧x≤a+1)∧Turn (fun k=>k=q) w w'∧∃ s',s'≤s+3∧Ct w' q s':=by
 have M:=median_u blk off cap (a-1) a (a+1) n q s d w hH hdn (by omega) (by omega) hb hq hs hne
 rw [show ((a-1:Nat):Int)=(a:Int)-1 by omega,show ((a+1:Nat):Int)=(a:Int)+1 by omega] at M
 replace M:=hid M
 clear hH hq
 go_enter Tryz.func160,Tryz.ntmps160
 go_wp2_with fail
 refine M.out.mono ?_
 rintro e w1 ⟨⟨x,rfl,hx⟩,ht1,hq1⟩
 have T1:=hid ht1
 have Q1:=hid hq1
 clear ht1 hq1
 go_wp2_with fail
 go_ret
 exact⟨⟨x,rfl,by omega⟩,T1.out,Q1.out⟩
set_option maxRecDepth 100000 in
theorem pivot_u (blk off cap a b n:Nat) (d:Array Int) (w:World) (hH:HdU w blk off d) (hdn:d.size=n) (hab:a+8≤b) (hb:b≤n) (hsz:n≤1000000000) :
 Calls Tryz.prog 133 #[.slice (some ⟨blk,off,none⟩) n cap,.int .i64 a,.int .i64 b] w fun e w'=>(∃ p h:Nat,e=.returned (.tuple #[.int .i64 p,.int .i64 h])∧a≤p∧p<b∧h≤2)∧Turn (fun _=>False) w w':=by
 obtain⟨w0,hw0⟩:∃ w0,w.alloc (.cells #[.int .i64 0] 3)=w0:=⟨_,rfl⟩
 have hlt:=hH.lt
 have hne:blk≠w.heap.size:=by omega
 have T0:Hid (Turn (fun _=>False) w w0):=hid (hw0 ▸ Turn.of_below ((Below.refl _ _).alloc (Nat.le_refl _) _))
 have Q0:Hid (Ct w0 w.heap.size 0):=hid (hw0 ▸ ⟨_,z0c w _,rfl⟩)
 have H0:HdU w0 blk off d:=hH.turn T0.out (fun h=>h)
 have MD:=hid fun (x y z s:Nat) (W:World) (hT:Turn (fun k=>k=w.heap.size) w0 W) (h1:x<n) (h2:y<n) (h3:z<n) (hq:Ct W w.heap.size s) (hs:s≤90)=>median_u blk off cap x y z n w.heap.size s d W (H0.turn hT hne) hdn h1 h2 h3 hq hs hne
 have MA:=hid fun (x s:Nat) (W:World) (hT:Turn (fun k=>k=w.heap.size) w0 W) (h1:1≤x) (h2:x+1<n) (hq:Ct W w.heap.size s) (hs:s≤90)=>medadj_u blk off cap x n w.heap.size s d W (H0.turn hT hne) hdn h1 h2 hsz hq hs hne
 clear H0 hH hdn
 obtain⟨I,hI⟩:∃ I:Nat,I=a+(b-a) / 4*1:=⟨_,rfl⟩
 obtain⟨J,hJ⟩:∃ J:Nat,J=a+(b-a) / 4*2:=⟨_,rfl⟩
 obtain⟨K,hK⟩:∃ K:Nat,K=a+(b-a) / 4*3:=⟨_,rfl⟩
 have eI:((a:Int)+((b:Int)-(a:Int)) / 4)=(I:Int):=by omega
 have eJ:((a:Int)+((b:Int)-(a:Int)) / 4*2)=(J:Int):=by omega
 have eK:((a:Int)+((b:Int)-(a:Int)) / 4*3)=(K:Int):=by omega
 have h8:(8:Int)≤(b:Int)-(a:Int):=by omega
 have hIJ:a+2≤I∧I+2≤J∧J+2≤K∧K+2≤b:=by omega
 have n0:(0:Nat)≤90:=by omega
 clear hI hJ hK
 by_cases h50:50≤b-a
 · have h50':(50:Int)≤(b:Int)-(a:Int):=by omega
   go_enter Tryz.func133,Tryz.ntmps133
   go_wp2_with fail
   refine (MA.out I 0 w0 (Turn.refl _ _) (by omega) (by omega) Q0.out (by omega)).mono ?_
   rintro e w1 ⟨⟨i1,rfl,g1⟩,ht,s1,k1,hq2⟩
   have T1:=hid (show Turn (fun k=>k=w.heap.size) w0 w1 from ((Turn.refl _ _)).trans ht fun _ _ h=>h)
   have Q1:=hid hq2
   clear ht hq2
   go_wp2_with fail
   refine (MA.out J s1 w1 T1.out (by omega) (by omega) Q1.out (by omega)).mono ?_
   rintro e w2 ⟨⟨j1,rfl,g2⟩,ht,s2,k2,hq2⟩
   have T2:=hid (show Turn (fun k=>k=w.heap.size) w0 w2 from (T1.out).trans ht fun _ _ h=>h)
   have Q2:=hid hq2
   clear ht hq2
   go_wp2_with fail
   refine (MA.out K s2 w2 T2.out (by omega) (by omega) Q2.out (by omega)).mono ?_
   rintro e w3 ⟨⟨z1,rfl,g3⟩,ht,s3,k3,hq2⟩
   have T3:=hid (show Turn (fun k=>k=w.heap.size) w0 w3 from (T2.out).trans ht fun _ _ h=>h)
   have Q3:=hid hq2
   clear ht hq2
   go_wp2_with fail
   refine (MD.out i1 j1 z1 s3 w3 T3.out (by omega) (by omega) (by omega) Q3.out (by omega)).mono ?_
   rintro e w4 ⟨⟨p,rfl,g4⟩,ht,s4,k4,hq2⟩
   have T4:=hid (show Turn (fun k=>k=w.heap.size) w0 w4 from (T3.out).trans ht fun _ _ h=>h)
   have Q4:=hid hq2
   have C4:=hq2.cell
   clear ht hq2
   go_wp2_with fail
   all_goals
    have TE:=hid (show Turn (fun _=>False) w w4 from T0.out.trans T4.out fun k hk h=>absurd (h:k=w.heap.size) (by omega))
    (try go_wp2_with fail)
    go_ret2
    first
     | exact⟨⟨p,1,rfl,by omega,by omega,by omega⟩,TE.out⟩
     | exact⟨⟨p,2,rfl,by omega,by omega,by omega⟩,TE.out⟩
     | exact⟨⟨p,0,rfl,by omega,by omega,by omega⟩,TE.out⟩
 · have h50':¬ (50:Int)≤(b:Int)-(a:Int):=by omega
   go_enter Tryz.func133,Tryz.ntmps133
   go_wp2_with fail
   refine (MD.out I J K 0 w0 (Turn.refl _ _) (by omega) (by omega) (by omega) Q0.out (by omega)).mono ?_
   rintro e w4 ⟨⟨p,rfl,g4⟩,ht,s4,k4,hq2⟩
   have T4:=hid (show Turn (fun k=>k=w.heap.size) w0 w4 from ((Turn.refl _ _)).trans ht fun _ _ h=>h)
   have Q4:=hid hq2
   have C4:=hq2.cell
   clear ht hq2
   go_wp2_with fail
   all_goals
    have TE:=hid (show Turn (fun _=>False) w w4 from T0.out.trans T4.out fun k hk h=>absurd (h:k=w.heap.size) (by omega))
    (try go_wp2_with fail)
    go_ret2
    first
     | exact⟨⟨p,1,rfl,by omega,by omega,by omega⟩,TE.out⟩
     | exact⟨⟨p,2,rfl,by omega,by omega,by omega⟩,TE.out⟩
     | exact⟨⟨p,0,rfl,by omega,by omega,by omega⟩,TE.out⟩
theorem jsd_end {hi F root:Nat} (d:Array Int) (h:hi≤2*root+1):Sort.siftDown Sort.ltInt hi F root d=d:=by rw [Sort.siftDown,dif_pos h]
theorem jsd_right_stop {hi F root:Nat} (d:Array Int) (h1:2*root+2<hi) (h2:Sort.ltInt d[F+2*root+1]! d[F+2*root+2]! = true) (h3:Sort.ltInt d[F+root]! d[F+2*root+2]! = false):Sort.siftDown Sort.ltInt hi F root d=d:=by
 rw [Sort.siftDown,dif_neg (by omega),if_pos,if_pos]
 · rw [show F+(2*root+2)=F+2*root+2 by omega,h3];rfl
 · rw [show F+(2*root+1)+1=F+2*root+2 by omega,show F+(2*root+1)=F+2*root+1 by omega,h2]
   simp
   omega
theorem jsd_right_go {hi F root:Nat} (d:Array Int) (h1:2*root+2<hi) (h2:Sort.ltInt d[F+2*root+1]! d[F+2*root+2]! = true) (h3:Sort.ltInt d[F+root]! d[F+2*root+2]! = true):Sort.siftDown Sort.ltInt hi F root d=Sort.siftDown Sort.ltInt hi F (2*root+2) (Sort.swp d (F+root) (F+2*root+2)):=by
 conv=>lhs;rw [Sort.siftDown]
 rw [dif_neg (by omega),if_pos,if_neg,dif_pos h1,show F+(2*root+2)=F+2*root+2 by omega]
 · rw [show F+(2*root+2)=F+2*root+2 by omega,h3];simp
 · rw [show F+(2*root+1)+1=F+2*root+2 by omega,show F+(2*root+1)=F+2*root+1 by omega,h2]
   simp
   omega
theorem jsd_left_stop {hi F root:Nat} (d:Array Int) (h0:2*root+1<hi) (h1:2*root+2<hi→Sort.ltInt d[F+2*root+1]! d[F+2*root+2]! = false) (h3:Sort.ltInt d[F+root]! d[F+2*root+1]! = false):Sort.siftDown Sort.ltInt hi F root d=d:=by
 rw [Sort.siftDown,dif_neg (by omega),if_neg,if_pos]
 · rw [show F+(2*root+1)=F+2*root+1 by omega,h3];rfl
 · rw [show F+(2*root+1)+1=F+2*root+2 by omega,show F+(2*root+1)=F+2*root+1 by omega]
   by_cases hc:2*root+2<hi
   · rw [h1 hc];simp
   · have:¬ 2*root+1+1<hi:=by omega
     simp [this]
theorem jsd_left_go {hi F root:Nat} (d:Array Int) (h0:2*root+1<hi) (h1:2*root+2<hi→Sort.ltInt d[F+2*root+1]! d[F+2*root+2]! = false) (h3:Sort.ltInt d[F+root]! d[F+2*root+1]! = true):Sort.siftDown Sort.ltInt hi F root d=Sort.siftDown Sort.ltInt hi F (2*root+1) (Sort.swp d (F+root) (F+2*root+1)):=by
 conv=>lhs;rw [Sort.siftDown]
 rw [dif_neg (by omega),if_neg,if_neg,show F+(2*root+1)=F+2*root+1 by omega]
 · rw [show F+(2*root+1)=F+2*root+1 by omega,h3];simp
 · rw [show F+(2*root+1)+1=F+2*root+2 by omega,show F+(2*root+1)=F+2*root+1 by omega]
   by_cases hc:2*root+2<hi
   · rw [h1 hc];simp
   · have:¬ 2*root+1+1<hi:=by omega
     simp [this]
set_option maxRecDepth 100000 in
theorem sift_u (blk off cap lo hi first n:Nat) (d:Array Int) (w:World) (hH:HdU w blk off d) (hdn:d.size=n) (hlo:lo≤hi) (hb:first+hi≤n) (hsz:n≤1000000000) :
 Calls Tryz.prog 157 #[.slice (some ⟨blk,off,none⟩) n cap,.int .i64 lo,.int .i64 hi,.int .i64 first] w fun e w'=>e=.returned (.tuple #[])∧Sd w blk off (Sort.siftDown Sort.ltInt hi first lo d) w':=by
 have HS:=hid (Sd.refl hH)
 have HDN:=hid hdn
 clear hH hdn
 go_enter Tryz.func157,Tryz.ntmps157
 go_wp2_with fail
 go_loopw [8] (fun vr wr=>∃ (root:Nat) (dk:Array Int),vr=.int .i64 (root:Int)∧root≤hi∧Hid (dk.size=n)∧Hid (Sd w blk off dk wr)∧Hid (Sort.siftDown Sort.ltInt hi first root dk=Sort.siftDown Sort.ltInt hi first lo d)) (fun vr _=>hi-(Go.RowKit.intOf vr).toNat)
 case atStart=>exact⟨lo,d,rfl,hlo,HDN,HS,hid rfl⟩
 case round =>
  obtain⟨root,dk,rfl,hr,HK,HW,HE⟩:=hrel
  by_cases h0:hi≤2*root+1
  · have h0z:(hi:Int)≤2*(root:Int)+1:=by omega
    go_wp2_with fail
    go_end0
    exact⟨rfl,by rw [← HE.out,jsd_end dk h0];exact HW.out⟩
  · have h0z:¬ ((hi:Int)≤2*(root:Int)+1):=by omega
    obtain⟨G,hG⟩:∃ G:Nat→Int,∀ t,G t=dk[t]!:=⟨fun t=>dk[t]!,fun _=>rfl⟩
    have hcw:∀ t,t<n→wr.cell? ⟨blk,off+t,none⟩=some (.int .u32 (G t)):=fun t ht=>by
     rw [hG]
     exact HW.out.1.cell (by rw [HK.out];exact ht)
    have hfw:∀ t,t<n→wr.frozen? ⟨blk,off+t,none⟩=false:=fun t _=>HW.out.1.free t
    have HG:=hid hG
    clear hG
    by_cases h1:2*root+2<hi
    · have h1z:2*(root:Int)+1+1<(hi:Int):=by omega
      go_wp2_with fail
      go_quiet (first | (go_at_call 136;refine Calls.quiet_of_same (z1s _ _ _)))
      go_wp2_with fail
      · have hL:Sort.ltInt (G (first+2*root+1)) (G (first+2*root+2))=true:=by assumption
        have HL:=hid (show Sort.ltInt dk[first+2*root+1]! dk[first+2*root+2]! = true by rw [← HG.out,← HG.out];exact hL)
        clear hL
        revert nq
        intro nq1
        have HW2:=hid (HW.out.drewN nq1)
        have hcw2:∀ t,t<n→(wr.drewN nq1).cell? ⟨blk,off+t,none⟩=some (.int .u32 (G t)):=hcw
        have hfw2:∀ t,t<n→(wr.drewN nq1).frozen? ⟨blk,off+t,none⟩=false:=hfw
        clear hcw hfw HW
        generalize wr.drewN nq1=wr2 at hcw2 hfw2 HW2 ⊢
        go_quiet (first | (go_at_call 136;refine Calls.quiet_of_same (z1s _ _ _)))
        go_wp2_with fail
        · have hS:Sort.ltInt (G (first+root)) (G (first+2*root+2))=false:=by
           have:(!Sort.ltInt (G (first+root)) (G (first+2*root+2)))=true:=by assumption
           simpa using this
          (try simp only [Exit.inBlock,Exit.then])
          refine bodyPost_ret (results_none rfl _ _ _) rfl ?_
          refine⟨rfl,?_⟩
          rw [← HE.out,jsd_right_stop dk h1 HL.out (by rw [← HG.out,← HG.out];exact hS)]
          exact HW2.out.drewN nq
        · have hS:Sort.ltInt (G (first+root)) (G (first+2*root+2))=true:=by
           have:(!Sort.ltInt (G (first+root)) (G (first+2*root+2)))=false:=by assumption
           simpa using this
          have HSS:=hid hS
          clear hS
          revert nq
          intro nq2
          have HW3:=hid (HW2.out.drewN nq2)
          have hcw3:∀ t,t<n→(wr2.drewN nq2).cell? ⟨blk,off+t,none⟩=some (.int .u32 (G t)):=hcw2
          have hfw3:∀ t,t<n→(wr2.drewN nq2).frozen? ⟨blk,off+t,none⟩=false:=hfw2
          clear hcw2 hfw2 HW2
          generalize wr2.drewN nq2=wr3 at hcw3 hfw3 HW3 ⊢
          go_region
          all_goals go_wp2
          go_roundw
          case measure =>
           simp [Go.RowKit.intOf]
           omega
          case rel =>
           refine⟨2*root+2,Sort.swp dk (first+root) (first+2*root+2),by first | rfl | go_num,by omega,hid (by rw [Sort.swp_size];exact HK.out),hid ?_,hid ?_⟩
           · have h1:=(HW3.out.drewN 1).swap (i:=first+root) (j:=first+2*root+2) (by rw [HK.out];omega) (by rw [HK.out];omega)
             rw [← HG.out,← HG.out] at h1
             exact h1
           · rw [← HE.out,jsd_right_go dk h1 HL.out (by rw [← HG.out,← HG.out];exact HSS.out)]
      · have hL:Sort.ltInt (G (first+2*root+1)) (G (first+2*root+2))=false:=by assumption
        have HL:=hid (show Sort.ltInt dk[first+2*root+1]! dk[first+2*root+2]! = false by rw [← HG.out,← HG.out];exact hL)
        clear hL
        revert nq
        intro nq1
        have HW2:=hid (HW.out.drewN nq1)
        have hcw2:∀ t,t<n→(wr.drewN nq1).cell? ⟨blk,off+t,none⟩=some (.int .u32 (G t)):=hcw
        have hfw2:∀ t,t<n→(wr.drewN nq1).frozen? ⟨blk,off+t,none⟩=false:=hfw
        clear hcw hfw HW
        generalize wr.drewN nq1=wr2 at hcw2 hfw2 HW2 ⊢
        go_quiet (first | (go_at_call 136;refine Calls.quiet_of_same (z1s _ _ _)))
        go_wp2_with fail
        · have hS:Sort.ltInt (G (first+root)) (G (first+2*root+1))=false:=by
           have:(!Sort.ltInt (G (first+root)) (G (first+2*root+1)))=true:=by assumption
           simpa using this
          (try simp only [Exit.inBlock,Exit.then])
          refine bodyPost_ret (results_none rfl _ _ _) rfl ?_
          refine⟨rfl,?_⟩
          rw [← HE.out,jsd_left_stop dk (by omega) (fun _=>HL.out) (by rw [← HG.out,← HG.out];exact hS)]
          exact HW2.out.drewN nq
        · have hS:Sort.ltInt (G (first+root)) (G (first+2*root+1))=true:=by
           have:(!Sort.ltInt (G (first+root)) (G (first+2*root+1)))=false:=by assumption
           simpa using this
          have HSS:=hid hS
          clear hS
          revert nq
          intro nq2
          have HW3:=hid (HW2.out.drewN nq2)
          have hcw3:∀ t,t<n→(wr2.drewN nq2).cell? ⟨blk,off+t,none⟩=some (.int .u32 (G t)):=hcw2
          have hfw3:∀ t,t<n→(wr2.drewN nq2).frozen? ⟨blk,off+t,none⟩=false:=hfw2
          clear hcw2 hfw2 HW2
          generalize wr2.drewN nq2=wr3 at hcw3 hfw3 HW3 ⊢
          go_region
          all_goals go_wp2
          go_roundw
          case measure =>
           simp [Go.RowKit.intOf]
           omega
          case rel =>
           refine⟨2*root+1,Sort.swp dk (first+root) (first+2*root+1),by first | rfl | go_num,by omega,hid (by rw [Sort.swp_size];exact HK.out),hid ?_,hid ?_⟩
           · have h1:=(HW3.out.drewN 1).swap (i:=first+root) (j:=first+2*root+1) (by rw [HK.out];omega) (by rw [HK.out];omega)
             rw [← HG.out,← HG.out] at h1
             exact h1
           · rw [← HE.out,jsd_left_go dk (by omega) (fun _=>HL.out) (by rw [← HG.out,← HG.out];exact HSS.out)]
    · have h1z:decide (2*(root:Int)+1+1<(hi:Int))=false:=decide_eq_false (by omega)
      go_wp2_with fail
      go_quiet (first | (go_at_call 136;refine Calls.quiet_of_same (z1s _ _ _)))
      go_wp2_with fail
      revert nq
      intro nq1
      have HW2:=hid (HW.out.drewN nq1)
      have hcw2:∀ t,t<n→(wr.drewN nq1).cell? ⟨blk,off+t,none⟩=some (.int .u32 (G t)):=hcw
      have hfw2:∀ t,t<n→(wr.drewN nq1).frozen? ⟨blk,off+t,none⟩=false:=hfw
      clear hcw hfw HW
      generalize wr.drewN nq1=wr2 at hcw2 hfw2 HW2 ⊢
      go_quiet (first | (go_at_call 136;refine Calls.quiet_of_same (z1s _ _ _)))
      go_wp2_with fail
      · have hS:Sort.ltInt (G (first+root)) (G (first+2*root+1))=false:=by
         have:(!Sort.ltInt (G (first+root)) (G (first+2*root+1)))=true:=by assumption
         simpa using this
        (try simp only [Exit.inBlock,Exit.then])
        refine bodyPost_ret (results_none rfl _ _ _) rfl ?_
        refine⟨rfl,?_⟩
        rw [← HE.out,jsd_left_stop dk (by omega) (fun h=>absurd h h1) (by rw [← HG.out,← HG.out];exact hS)]
        exact HW2.out.drewN nq
      · have hS:Sort.ltInt (G (first+root)) (G (first+2*root+1))=true:=by
         have:(!Sort.ltInt (G (first+root)) (G (first+2*root+1)))=false:=by assumption
         simpa using this
        have HSS:=hid hS
        clear hS
        revert nq
        intro nq2
        have HW3:=hid (HW2.out.drewN nq2)
        have hcw3:∀ t,t<n→(wr2.drewN nq2).cell? ⟨blk,off+t,none⟩=some (.int .u32 (G t)):=hcw2
        have hfw3:∀ t,t<n→(wr2.drewN nq2).frozen? ⟨blk,off+t,none⟩=false:=hfw2
        clear hcw2 hfw2 HW2
        generalize wr2.drewN nq2=wr3 at hcw3 hfw3 HW3 ⊢
        go_region
        all_goals go_wp2
        go_roundw
        case measure =>
         simp [Go.RowKit.intOf]
         omega
        case rel =>
         refine⟨2*root+1,Sort.swp dk (first+root) (first+2*root+1),by first | rfl | go_num,by omega,hid (by rw [Sort.swp_size];exact HK.out),hid ?_,hid ?_⟩
         · have h1:=(HW3.out.drewN 1).swap (i:=first+root) (j:=first+2*root+1) (by rw [HK.out];omega) (by rw [HK.out];omega)
           rw [← HG.out,← HG.out] at h1
           exact h1
         · rw [← HE.out,jsd_left_go dk (by omega) (fun h=>absurd h h1) (by rw [← HG.out,← HG.out];exact HSS.out)]
theorem jhb_go (hi F k:Nat) (d:Array Int):Sort.heapBuild Sort.ltInt hi F (k+1) d=Sort.heapBuild Sort.ltInt hi F k (Sort.siftDown Sort.ltInt hi F k d):=rfl
theorem jhp_go (F k:Nat) (d:Array Int):Sort.heapPop Sort.ltInt F (k+1) d=Sort.heapPop Sort.ltInt F k (Sort.siftDown Sort.ltInt k F 0 (Sort.swp d F (F+k))):=rfl
theorem z7h (hi F root:Nat) (d:Array Int):(Sort.siftDown Sort.ltInt hi F root d).size=d.size:=by
 induction h:hi-root using Nat.strongRecOn generalizing root d with
 | _ m ih =>
  unfold Sort.siftDown
  split
  · rfl
  · split
    · split
      · rfl
      · split
        · rw [ih (hi-(2*root+2)) (by omega) _ _ rfl,Sort.swp_size]
        · rfl
    · split
      · rfl
      · rw [ih (hi-(2*root+1)) (by omega) _ _ rfl,Sort.swp_size]
set_option maxRecDepth 100000 in
theorem heap_u (blk off cap a b n:Nat) (d:Array Int) (w:World) (hH:HdU w blk off d) (hdn:d.size=n) (hab:a<b) (hb:b≤n) (hsz:n≤1000000000) :
 Calls Tryz.prog 131 #[.slice (some ⟨blk,off,none⟩) n cap,.int .i64 a,.int .i64 b] w fun e w'=>e=.returned (.tuple #[])∧Sd w blk off (Sort.heapSort Sort.ltInt d a b) w':=by
 have HS:=hid (Sd.refl hH)
 have HDN:=hid hdn
 obtain⟨L,hL⟩:∃ L,L=b-a:=⟨_,rfl⟩
 obtain⟨H,hH1⟩:∃ H:Nat,H=(L-1) / 2:=⟨_,rfl⟩
 have eL:(b:Int)-(a:Int)=(L:Int):=by omega
 have eH:=hid (show ((L:Int)-1) / 2=(H:Int) by omega)
 have EX:Hid (Sort.heapSort Sort.ltInt d a b=Sort.heapPop Sort.ltInt a L (Sort.heapBuild Sort.ltInt L a (H+1) d)):=hid (by unfold Sort.heapSort;rw [← hL,← hH1])
 have hbL:b≤a+L∧a+L≤b:=by omega
 have hHL:H+1≤L:=by omega
 clear hL hH1
 have SI:Hid (∀ (lo hi:Nat) (dk:Array Int) (W:World),HdU W blk off dk→dk.size=n→lo≤hi→a+hi≤n→Calls Tryz.prog 157 #[.slice (some ⟨blk,off,none⟩) n cap,.int .i64 lo,.int .i64 hi,.int .i64 a] W fun e w'=>e=.returned (.tuple #[])∧Sd W blk off (Sort.siftDown Sort.ltInt hi a lo dk) w'):=hid fun lo hi dk W h1 h2 h3 h4=>sift_u blk off cap lo hi a n dk W h1 h2 h3 h4 hsz
 clear hH hdn
 go_enter Tryz.func131,Tryz.ntmps131
 go_wp2_with fail
 go_loopw [9] (fun vi wr=>∃ (z:Int) (k:Nat) (dk:Array Int),vi=.int .i64 z∧z=(k:Int)-1∧k≤H+1∧Hid (dk.size=n)∧Hid (Sd w blk off dk wr)∧Hid (Sort.heapBuild Sort.ltInt L a k dk=Sort.heapBuild Sort.ltInt L a (H+1) d)) (fun vi _=>(Go.RowKit.intOf vi+1).toNat)
 case atStart=>exact⟨H,H+1,d,by rw [eH.out],by omega,Nat.le_refl _,HDN,HS,hid rfl⟩
 case round =>
  obtain⟨z,k,dk,rfl,hz,hk,HK,HW,HE⟩:=hrel
  by_cases h0:k=0
  · subst h0
    obtain rfl:z = -1:=by omega
    clear hz
    go_wp2_with fail
    go_loopw [10] (fun vi wr2=>∃ (z:Int) (k:Nat) (dj:Array Int),vi=.int .i64 z∧z=(k:Int)-1∧k≤L∧Hid (dj.size=n)∧Hid (Sd w blk off dj wr2)∧Hid (Sort.heapPop Sort.ltInt a k dj=Sort.heapPop Sort.ltInt a L dk)) (fun vi _=>(Go.RowKit.intOf vi+1).toNat)
    case atStart=>exact⟨(L:Int)-1,L,dk,by first | rfl | go_num,rfl,Nat.le_refl _,HK,HW,hid rfl⟩
    case round =>
     obtain⟨z,k,dj,rfl,hz,hk,HJ,HW2,HP⟩:=hrel
     by_cases h0:k=0
     · subst h0
       obtain rfl:z = -1:=by omega
       clear hz
       go_wp2_with fail
       go_end0
       refine⟨rfl,?_⟩
       have e1:Sort.heapBuild Sort.ltInt L a 0 dk=dk:=rfl
       have e2:Sort.heapPop Sort.ltInt a 0 dj=dj:=rfl
       rw [EX.out,← HE.out,e1,← HP.out,e2]
       exact HW2.out
     · obtain⟨j,rfl⟩:∃ j,k=j+1:=⟨k-1,by omega⟩
       obtain rfl:z=(j:Int):=by omega
       clear hz
       obtain⟨F,hF⟩:∃ F:Nat,F=a+j:=⟨_,rfl⟩
       have eF:(a:Int)+(j:Int)=(F:Int):=by omega
       have hFn:F<n∧a<n:=by omega
       obtain⟨G,hG⟩:∃ G:Nat→Int,∀ t,G t=dj[t]!:=⟨fun t=>dj[t]!,fun _=>rfl⟩
       have hcw:∀ t,t<n→wr.cell? ⟨blk,off+t,none⟩=some (.int .u32 (G t)):=fun t ht=>by
        rw [hG]
        exact HW2.out.1.cell (by rw [HJ.out];exact ht)
       have hfw:∀ t,t<n→wr.frozen? ⟨blk,off+t,none⟩=false:=fun t _=>HW2.out.1.free t
       have HG:=hid hG
       clear hG
       have HP2:Hid (Sort.heapPop Sort.ltInt a j (Sort.siftDown Sort.ltInt j a 0 (Sort.swp dj a F))=Sort.heapPop Sort.ltInt a L dk):=hid (by rw [← HP.out,jhp_go,hF])
       have SW:=hid fun q=>show Sd w blk off (Sort.swp dj a F) (((wr.drewN q).setCell ⟨blk,off+a,none⟩ (.int .u32 (G F))).setCell ⟨blk,off+F,none⟩ (.int .u32 (G a))) from by
        have h1:=(HW2.out.drewN q).swap (i:=a) (j:=F) (by rw [HJ.out];omega) (by rw [HJ.out];omega)
        rw [← HG.out,← HG.out] at h1
        exact h1
       have SIJ:=hid fun q=>SI.out 0 j (Sort.swp dj a F) _ (SW.out q).1 (by rw [Sort.swp_size];exact HJ.out) (Nat.zero_le _) (by omega)
       have hjL:j≤L:=by omega
       clear hF
       go_wp2_with fail
       by_cases hEq:F=a
       · go_region
         all_goals go_wp2_with fail
         · rw [hEq] at SIJ SW HP2
           refine (SIJ.out 1).mono ?_
           rintro e w' ⟨rfl,hs⟩
           have HS2:=hid hs
           clear hs
           go_wp2_with fail
           go_roundw
           case rel=>exact⟨(j:Int)-1,j,_,by first | rfl | go_num,rfl,by omega,hid (by rw [z7h,Sort.swp_size];exact HJ.out),hid ((SW.out 1).trans HS2.out),HP2⟩
           case measure =>
            simp [Go.RowKit.intOf]
            try omega
       · have hEq2:a≠F:=fun e=>hEq e.symm
         go_region
         all_goals go_wp2_with fail
         · refine (SIJ.out 1).mono ?_
           rintro e w' ⟨rfl,hs⟩
           have HS2:=hid hs
           clear hs
           go_wp2_with fail
           go_roundw
           case rel=>exact⟨(j:Int)-1,j,_,by first | rfl | go_num,rfl,by omega,hid (by rw [z7h,Sort.swp_size];exact HJ.out),hid ((SW.out 1).trans HS2.out),HP2⟩
           case measure =>
            simp [Go.RowKit.intOf]
            try omega
  · obtain⟨j,rfl⟩:∃ j,k=j+1:=⟨k-1,by omega⟩
    obtain rfl:z=(j:Int):=by omega
    clear hz
    go_wp2_with fail
    refine (SI.out j L dk _ HW.out.1 HK.out (by omega) (by omega)).mono ?_
    rintro e w' ⟨rfl,hs⟩
    have HS2:=hid hs
    clear hs
    go_wp2_with fail
    go_roundw
    case rel=>exact⟨(j:Int)-1,j,_,by first | rfl | go_num,rfl,by omega,hid (by rw [z7h];exact HK.out),hid (HW.out.trans HS2.out),hid (by rw [← HE.out,jhb_go])⟩
    case measure =>
     simp [Go.RowKit.intOf]
     try omega
theorem jsc_go {b i:Nat} (d:Array Int) (h:i<b) (hl:Sort.ltInt d[i]! d[i-1]! = false):Sort.scanSorted Sort.ltInt d b i=Sort.scanSorted Sort.ltInt d b (i+1):=by
 conv=>lhs;rw [Sort.scanSorted]
 simp [h,hl]
theorem z8v {b i:Nat} (d:Array Int) (h:¬ i<b∨Sort.ltInt d[i]! d[i-1]! = true):Sort.scanSorted Sort.ltInt d b i=i:=by
 rw [Sort.scanSorted,if_neg]
 rcases h with h | h <;> simp [h]
theorem jsdn_go {j:Nat} (d:Array Int) (h:1≤j) (hl:Sort.ltInt d[j]! d[j-1]! = true):Sort.shiftDown Sort.ltInt j d=Sort.shiftDown Sort.ltInt (j-1) (Sort.swp d j (j-1)):=by
 obtain⟨k,rfl⟩:∃ k,j=k+1:=⟨j-1,by omega⟩
 simp only [Nat.add_sub_cancel] at hl ⊢
 conv=>lhs;rw [Sort.shiftDown]
 simp [hl]
theorem z6r {j:Nat} (d:Array Int) (h:¬ 1≤j∨Sort.ltInt d[j]! d[j-1]! = false):Sort.shiftDown Sort.ltInt j d=d:=by
 cases j with
 | zero=>rw [Sort.shiftDown]
 | succ k =>
  rcases h with h | h
  · omega
  · simp only [Nat.add_sub_cancel] at h
    rw [Sort.shiftDown]
    simp [h]
theorem z9p {b j:Nat} (d:Array Int) (h:j<b) (hl:Sort.ltInt d[j]! d[j-1]! = true):Sort.shiftUp Sort.ltInt b j d=Sort.shiftUp Sort.ltInt b (j+1) (Sort.swp d j (j-1)):=by
 conv=>lhs;rw [Sort.shiftUp]
 simp [h,hl]
theorem z4t {b j:Nat} (d:Array Int) (h:¬ j<b∨Sort.ltInt d[j]! d[j-1]! = false):Sort.shiftUp Sort.ltInt b j d=d:=by
 rw [Sort.shiftUp]
 by_cases hb:j<b
 · rcases h with h | h
   · exact absurd hb h
   · simp [h]
 · simp [hb]
set_option maxRecDepth 100000 in
theorem pins_u (blk off cap a b n:Nat) (d:Array Int) (w:World) (hH:HdU w blk off d) (hdn:d.size=n) (hab:a<b) (hb:b≤n) (hsz:n≤1000000000) :
 Calls Tryz.prog 135 #[.slice (some ⟨blk,off,none⟩) n cap,.int .i64 a,.int .i64 b] w fun e w'=>e=.returned (.bool (Sort.partialInsertionSort Sort.ltInt d a b).2)∧Sd w blk off (Sort.partialInsertionSort Sort.ltInt d a b).1 w':=by
 have HS:=hid (Sd.refl hH)
 have HDN:=hid hdn
 clear hH hdn
 go_enter Tryz.func135,Tryz.ntmps135
 go_wp2_with fail
 go_loopw [7,8] (fun vi vs wr=>∃ (i s t:Nat) (dk:Array Int),vi=.int .i64 (i:Int)∧vs=.int .i64 (s:Int)∧a<i∧i≤b∧s+t=5∧Hid (dk.size=n)∧Hid (Sd w blk off dk wr)∧Hid (Sort.partialIns Sort.ltInt a b t i dk=Sort.partialIns Sort.ltInt a b 5 (a+1) d)) (fun _ vs _=>5-(Go.RowKit.intOf vs).toNat)
 case atStart=>exact⟨a+1,0,5,d,by go_num,rfl,by omega,by omega,rfl,HDN,HS,hid rfl⟩
 case round =>
  obtain⟨i,s,t,dk,rfl,rfl,hai,hib,hst,HK,HW,HE⟩:=hrel
  by_cases h5:s<5
  · have h5z:(s:Int)<5:=by omega
    obtain⟨t,rfl⟩:∃ t',t=t'+1:=⟨t-1,by omega⟩
    obtain⟨G,hG⟩:∃ G:Nat→Int,∀ t,G t=dk[t]!:=⟨fun t=>dk[t]!,fun _=>rfl⟩
    have HG:=hid hG
    clear hG
    go_wp2_with fail
    go_loopw [7] (fun vi w1=>∃ i':Nat,vi=.int .i64 (i':Int)∧i≤i'∧i'≤b∧Hid (Sd w blk off dk w1)∧Hid (Sort.scanSorted Sort.ltInt dk b i'=Sort.scanSorted Sort.ltInt dk b i)) (fun vi _=>b-(Go.RowKit.intOf vi).toNat)
    case atStart=>exact⟨i,rfl,Nat.le_refl _,hib,HW,hid rfl⟩
    case round =>
     obtain⟨i',rfl,hii,hib',HW1,HSC⟩:=hrel
     clear HW
     have hcw:∀ t,t<n→wr.cell? ⟨blk,off+t,none⟩=some (.int .u32 (G t)):=fun t ht=>by
      rw [HG.out]
      exact HW1.out.1.cell (by rw [HK.out];exact ht)
     have hfw:∀ t,t<n→wr.frozen? ⟨blk,off+t,none⟩=false:=fun t _=>HW1.out.1.free t
     by_cases hle:i'<b
     · have hbeq:((i':Int)==(b:Int))=false:=beq_false_of_ne (by omega)
       by_cases h50:b-a<50
       · have h50z:(b:Int)-(a:Int)<50:=by omega
         go_wp2_with fail
         go_quiet (first | (go_at_call 136;refine Calls.quiet_of_same (z1s _ _ _)))
         go_wp2
         · have ht:(!Sort.ltInt (G i') (G (i'-1)))=true:=by assumption
           have HN:=hid (show Sort.scanSorted Sort.ltInt dk b (i'+1)=Sort.scanSorted Sort.ltInt dk b i by rw [← HSC.out,jsc_go dk hle (by rw [← HG.out,← HG.out];simpa using ht)])
           clear ht
           go_roundw
           case rel=>exact⟨i'+1,by go_num,by omega,by omega,hid (HW1.out.drewN nq),HN⟩
           case measure =>
            simp [Go.RowKit.intOf]
            try omega
         · have ht:(!Sort.ltInt (G i') (G (i'-1)))=false:=by assumption
           have HX:=hid (show Sort.scanSorted Sort.ltInt dk b i=i' by rw [← HSC.out,z8v dk (.inr (by rw [← HG.out,← HG.out];simpa using ht))])
           clear ht
           go_ret
           have e:Sort.partialIns Sort.ltInt a b 5 (a+1) d=(dk,false):=by rw [← HE.out,Sort.partialIns_succ,HX.out,if_neg (by omega),if_pos h50]
           exact⟨by unfold Sort.partialInsertionSort;rw [e];rfl,by unfold Sort.partialInsertionSort;rw [e];exact HW1.out.drewN nq⟩
       · have h50z:¬ (b:Int)-(a:Int)<50:=by omega
         go_wp2_with fail
         go_quiet (first | (go_at_call 136;refine Calls.quiet_of_same (z1s _ _ _)))
         go_wp2
         · have ht:(!Sort.ltInt (G i') (G (i'-1)))=true:=by assumption
           have HN:=hid (show Sort.scanSorted Sort.ltInt dk b (i'+1)=Sort.scanSorted Sort.ltInt dk b i by rw [← HSC.out,jsc_go dk hle (by rw [← HG.out,← HG.out];simpa using ht)])
           clear ht
           go_roundw
           case rel=>exact⟨i'+1,by go_num,by omega,by omega,hid (HW1.out.drewN nq),HN⟩
           case measure =>
            simp [Go.RowKit.intOf]
            try omega
         · have ht:(!Sort.ltInt (G i') (G (i'-1)))=false:=by assumption
           have HX:=hid (show Sort.scanSorted Sort.ltInt dk b i=i' by rw [← HSC.out,z8v dk (.inr (by rw [← HG.out,← HG.out];simpa using ht))])
           clear ht
           obtain⟨d1,hd1⟩:∃ d1,d1=Sort.swp dk i' (i'-1):=⟨_,rfl⟩
           have HE2:Hid (Sort.partialIns Sort.ltInt a b t i' (Sort.fixUp Sort.ltInt b i' (Sort.fixDown Sort.ltInt a i' d1))=Sort.partialIns Sort.ltInt a b 5 (a+1) d):=hid (by rw [← HE.out,Sort.partialIns_succ,HX.out,if_neg (by omega),if_neg h50,hd1])
           have HK1:Hid (d1.size=n):=hid (by rw [hd1,Sort.swp_size];exact HK.out)
           have HSD:=hid fun q=>show Sd w blk off d1 (((wr.drewN (nq+q)).setCell ⟨blk,off+i',none⟩ (.int .u32 (G (i'-1)))).setCell ⟨blk,off+(i'-1),none⟩ (.int .u32 (G i'))) from by
            have h1:=(HW1.out.drewN (nq+q)).swap (i:=i') (j:=i'-1) (by rw [HK.out];omega) (by rw [HK.out];omega)
            rw [← HG.out,← HG.out,← hd1] at h1
            exact h1
           clear hd1
           by_cases h2:2≤i'-a
           · have h2z:(2:Int)≤(i':Int)-(a:Int):=by omega
             by_cases hu:2≤b-i'
             · have huz:(2:Int)≤(b:Int)-(i':Int):=by omega
               go_region
               all_goals go_wp2_with fail
               go_loopw [9] (fun vx wx=>∃ (j:Nat) (dj:Array Int),vx=.int .i64 (j:Int)∧j≤i'-1∧Hid (dj.size=n)∧Hid (Sd w blk off dj wx)∧Hid (Sort.shiftDown Sort.ltInt j dj=Sort.shiftDown Sort.ltInt (i'-1) d1)) (fun vx _=>(Go.RowKit.intOf vx).toNat)
               case atStart=>exact⟨i'-1,d1,by go_num,by omega,HK1,(hid (HSD.out 1)),hid rfl⟩
               case round =>
                clear hcw hfw
                obtain⟨j,dj,rfl,hj1,HKj,HWj,HEj⟩:=hrel
                obtain⟨Gj,hG⟩:∃ Gj:Nat→Int,∀ t,Gj t=dj[t]!:=⟨fun t=>dj[t]!,fun _=>rfl⟩
                have HGj:=hid hG
                clear hG
                have hcw:∀ t,t<n→wr.cell? ⟨blk,off+t,none⟩=some (.int .u32 (Gj t)):=fun t ht=>by
                 rw [HGj.out]
                 exact HWj.out.1.cell (by rw [HKj.out];exact ht)
                have hfw:∀ t,t<n→wr.frozen? ⟨blk,off+t,none⟩=false:=fun t _=>HWj.out.1.free t
                by_cases hcj:1≤j
                · have hcjz:(1:Int)≤(j:Int):=by omega
                  go_wp2_with fail
                  go_quiet (first | (go_at_call 136;refine Calls.quiet_of_same (z1s _ _ _)))
                  go_wp2
                  · have ht:(!Sort.ltInt (Gj j) (Gj (j-1)))=true:=by assumption
                    have HXj:=hid (show Sort.fixDown Sort.ltInt a i' d1=dj by
                     unfold Sort.fixDown
                     rw [if_pos (by omega),← HEj.out,z6r dj (.inr (by rw [← HGj.out,← HGj.out];simpa using ht))])
                    clear ht
                    go_loopw [10] (fun vx wx=>∃ (k:Nat) (dk:Array Int),vx=.int .i64 (k:Int)∧i'+1≤k∧k≤b∧Hid (dk.size=n)∧Hid (Sd w blk off dk wx)∧Hid (Sort.shiftUp Sort.ltInt b k dk=Sort.shiftUp Sort.ltInt b (i'+1) dj)) (fun vx _=>b-(Go.RowKit.intOf vx).toNat)
                    case atStart=>exact⟨i'+1,dj,by go_num,by omega,by omega,HKj,(hid (HWj.out.drewN nq)),hid rfl⟩
                    case round =>
                     clear hcw hfw
                     obtain⟨k,dk,rfl,hk1,hk2,HKk,HWk,HEk⟩:=hrel
                     obtain⟨Gk,hG⟩:∃ Gk:Nat→Int,∀ t,Gk t=dk[t]!:=⟨fun t=>dk[t]!,fun _=>rfl⟩
                     have HGk:=hid hG
                     clear hG
                     have hcw:∀ t,t<n→wr.cell? ⟨blk,off+t,none⟩=some (.int .u32 (Gk t)):=fun t ht=>by
                      rw [HGk.out]
                      exact HWk.out.1.cell (by rw [HKk.out];exact ht)
                     have hfw:∀ t,t<n→wr.frozen? ⟨blk,off+t,none⟩=false:=fun t _=>HWk.out.1.free t
                     by_cases hck:k<b
                     · have hckz:(k:Int)<(b:Int):=by omega
                       go_wp2_with fail
                       go_quiet (first | (go_at_call 136;refine Calls.quiet_of_same (z1s _ _ _)))
                       go_wp2
                       · have ht:(!Sort.ltInt (Gk k) (Gk (k-1)))=true:=by assumption
                         have HXk:=hid (show Sort.fixUp Sort.ltInt b i' dj=dk by
                          unfold Sort.fixUp
                          rw [if_pos (by omega),← HEk.out,z4t dk (.inr (by rw [← HGk.out,← HGk.out];simpa using ht))])
                         clear ht
                         have HFIN:=hid (show Sort.partialIns Sort.ltInt a b t i' dk=Sort.partialIns Sort.ltInt a b 5 (a+1) d by rw [← HE2.out,HXj.out,HXk.out])
                         go_roundw
                         case rel=>exact⟨i',s+1,t,dk,rfl,by go_num,by omega,by omega,by omega,HKk,(hid (HWk.out.drewN nq)),HFIN⟩
                         case measure =>
                          simp [Go.RowKit.intOf]
                          try omega
                       · have ht:(!Sort.ltInt (Gk k) (Gk (k-1)))=false:=by assumption
                         have HN:=hid (show Sort.shiftUp Sort.ltInt b (k+1) (Sort.swp dk k (k-1))=Sort.shiftUp Sort.ltInt b (i'+1) dj by
                          rw [← HEk.out,z9p dk hck (by rw [← HGk.out,← HGk.out];simpa using ht)])
                         clear ht
                         have HWQ:=hid (HWk.out.drewN nq)
                         clear hcw hfw
                         generalize wr.drewN nq=WQ at HWQ ⊢
                         have hcw:∀ t,t<n→WQ.cell? ⟨blk,off+t,none⟩=some (.int .u32 (Gk t)):=fun t ht=>by
                          rw [HGk.out]
                          exact HWQ.out.1.cell (by rw [HKk.out];exact ht)
                         have hfw:∀ t,t<n→WQ.frozen? ⟨blk,off+t,none⟩=false:=fun t _=>HWQ.out.1.free t
                         have HSQ:=hid fun q=>show Sd w blk off (Sort.swp dk k (k-1)) (((WQ.drewN q).setCell ⟨blk,off+k,none⟩ (.int .u32 (Gk (k-1)))).setCell ⟨blk,off+(k-1),none⟩ (.int .u32 (Gk k))) from by
                          have h1:=(HWQ.out.drewN q).swap (i:=k) (j:=(k-1)) (by rw [HKk.out];omega) (by rw [HKk.out];omega)
                          rw [← HGk.out,← HGk.out] at h1
                          exact h1
                         go_region
                         all_goals go_wp2
                         go_roundw
                         case rel=>exact⟨k+1,Sort.swp dk k (k-1),by go_num,by omega,by omega,hid (by rw [Sort.swp_size];exact HKk.out),hid (HSQ.out 1),HN⟩
                         case measure =>
                          simp [Go.RowKit.intOf]
                          try omega
                     · have hckz:¬ (k:Int)<(b:Int):=by omega
                       go_wp2_with fail
                       have HXk:=hid (show Sort.fixUp Sort.ltInt b i' dj=dk by
                        unfold Sort.fixUp
                        rw [if_pos (by omega),← HEk.out,z4t dk (.inl hck)])
                       have HFIN:=hid (show Sort.partialIns Sort.ltInt a b t i' dk=Sort.partialIns Sort.ltInt a b 5 (a+1) d by rw [← HE2.out,HXj.out,HXk.out])
                       go_roundw
                       case rel=>exact⟨i',s+1,t,dk,rfl,by go_num,by omega,by omega,by omega,HKk,HWk,HFIN⟩
                       case measure =>
                        simp [Go.RowKit.intOf]
                        try omega
                  · have ht:(!Sort.ltInt (Gj j) (Gj (j-1)))=false:=by assumption
                    have HN:=hid (show Sort.shiftDown Sort.ltInt (j-1) (Sort.swp dj j (j-1))=Sort.shiftDown Sort.ltInt (i'-1) d1 by
                     rw [← HEj.out,jsdn_go dj hcj (by rw [← HGj.out,← HGj.out];simpa using ht)])
                    clear ht
                    have HWQ:=hid (HWj.out.drewN nq)
                    clear hcw hfw
                    generalize wr.drewN nq=WQ at HWQ ⊢
                    have hcw:∀ t,t<n→WQ.cell? ⟨blk,off+t,none⟩=some (.int .u32 (Gj t)):=fun t ht=>by
                     rw [HGj.out]
                     exact HWQ.out.1.cell (by rw [HKj.out];exact ht)
                    have hfw:∀ t,t<n→WQ.frozen? ⟨blk,off+t,none⟩=false:=fun t _=>HWQ.out.1.free t
                    have HSQ:=hid fun q=>show Sd w blk off (Sort.swp dj j (j-1)) (((WQ.drewN q).setCell ⟨blk,off+j,none⟩ (.int .u32 (Gj (j-1)))).setCell ⟨blk,off+(j-1),none⟩ (.int .u32 (Gj j))) from by
                     have h1:=(HWQ.out.drewN q).swap (i:=j) (j:=(j-1)) (by rw [HKj.out];omega) (by rw [HKj.out];omega)
                     rw [← HGj.out,← HGj.out] at h1
                     exact h1
                    go_region
                    all_goals go_wp2
                    go_roundw
                    case rel=>exact⟨j-1,Sort.swp dj j (j-1),by go_num,by omega,hid (by rw [Sort.swp_size];exact HKj.out),hid (HSQ.out 1),HN⟩
                    case measure =>
                     simp [Go.RowKit.intOf]
                     try omega
                · have hcjz:¬ (1:Int)≤(j:Int):=by omega
                  go_wp2_with fail
                  have HXj:=hid (show Sort.fixDown Sort.ltInt a i' d1=dj by
                   unfold Sort.fixDown
                   rw [if_pos (by omega),← HEj.out,z6r dj (.inl hcj)])
                  go_loopw [10] (fun vx wx=>∃ (k:Nat) (dk:Array Int),vx=.int .i64 (k:Int)∧i'+1≤k∧k≤b∧Hid (dk.size=n)∧Hid (Sd w blk off dk wx)∧Hid (Sort.shiftUp Sort.ltInt b k dk=Sort.shiftUp Sort.ltInt b (i'+1) dj)) (fun vx _=>b-(Go.RowKit.intOf vx).toNat)
                  case atStart=>exact⟨i'+1,dj,by go_num,by omega,by omega,HKj,HWj,hid rfl⟩
                  case round =>
                   clear hcw hfw
                   obtain⟨k,dk,rfl,hk1,hk2,HKk,HWk,HEk⟩:=hrel
                   obtain⟨Gk,hG⟩:∃ Gk:Nat→Int,∀ t,Gk t=dk[t]!:=⟨fun t=>dk[t]!,fun _=>rfl⟩
                   have HGk:=hid hG
                   clear hG
                   have hcw:∀ t,t<n→wr.cell? ⟨blk,off+t,none⟩=some (.int .u32 (Gk t)):=fun t ht=>by
                    rw [HGk.out]
                    exact HWk.out.1.cell (by rw [HKk.out];exact ht)
                   have hfw:∀ t,t<n→wr.frozen? ⟨blk,off+t,none⟩=false:=fun t _=>HWk.out.1.free t
                   by_cases hck:k<b
                   · have hckz:(k:Int)<(b:Int):=by omega
                     go_wp2_with fail
                     go_quiet (first | (go_at_call 136;refine Calls.quiet_of_same (z1s _ _ _)))
                     go_wp2
                     · have ht:(!Sort.ltInt (Gk k) (Gk (k-1)))=true:=by assumption
                       have HXk:=hid (show Sort.fixUp Sort.ltInt b i' dj=dk by
                        unfold Sort.fixUp
                        rw [if_pos (by omega),← HEk.out,z4t dk (.inr (by rw [← HGk.out,← HGk.out];simpa using ht))])
                       clear ht
                       have HFIN:=hid (show Sort.partialIns Sort.ltInt a b t i' dk=Sort.partialIns Sort.ltInt a b 5 (a+1) d by rw [← HE2.out,HXj.out,HXk.out])
                       go_roundw
                       case rel=>exact⟨i',s+1,t,dk,rfl,by go_num,by omega,by omega,by omega,HKk,(hid (HWk.out.drewN nq)),HFIN⟩
                       case measure =>
                        simp [Go.RowKit.intOf]
                        try omega
                     · have ht:(!Sort.ltInt (Gk k) (Gk (k-1)))=false:=by assumption
                       have HN:=hid (show Sort.shiftUp Sort.ltInt b (k+1) (Sort.swp dk k (k-1))=Sort.shiftUp Sort.ltInt b (i'+1) dj by
                        rw [← HEk.out,z9p dk hck (by rw [← HGk.out,← HGk.out];simpa using ht)])
                       clear ht
                       have HWQ:=hid (HWk.out.drewN nq)
                       clear hcw hfw
                       generalize wr.drewN nq=WQ at HWQ ⊢
                       have hcw:∀ t,t<n→WQ.cell? ⟨blk,off+t,none⟩=some (.int .u32 (Gk t)):=fun t ht=>by
                        rw [HGk.out]
                        exact HWQ.out.1.cell (by rw [HKk.out];exact ht)
                       have hfw:∀ t,t<n→WQ.frozen? ⟨blk,off+t,none⟩=false:=fun t _=>HWQ.out.1.free t
                       have HSQ:=hid fun q=>show Sd w blk off (Sort.swp dk k (k-1)) (((WQ.drewN q).setCell ⟨blk,off+k,none⟩ (.int .u32 (Gk (k-1)))).setCell ⟨blk,off+(k-1),none⟩ (.int .u32 (Gk k))) from by
                        have h1:=(HWQ.out.drewN q).swap (i:=k) (j:=(k-1)) (by rw [HKk.out];omega) (by rw [HKk.out];omega)
                        rw [← HGk.out,← HGk.out] at h1
                        exact h1
                       go_region
                       all_goals go_wp2
                       go_roundw
                       case rel=>exact⟨k+1,Sort.swp dk k (k-1),by go_num,by omega,by omega,hid (by rw [Sort.swp_size];exact HKk.out),hid (HSQ.out 1),HN⟩
                       case measure =>
                        simp [Go.RowKit.intOf]
                        try omega
                   · have hckz:¬ (k:Int)<(b:Int):=by omega
                     go_wp2_with fail
                     have HXk:=hid (show Sort.fixUp Sort.ltInt b i' dj=dk by
                      unfold Sort.fixUp
                      rw [if_pos (by omega),← HEk.out,z4t dk (.inl hck)])
                     have HFIN:=hid (show Sort.partialIns Sort.ltInt a b t i' dk=Sort.partialIns Sort.ltInt a b 5 (a+1) d by rw [← HE2.out,HXj.out,HXk.out])
                     go_roundw
                     case rel=>exact⟨i',s+1,t,dk,rfl,by go_num,by omega,by omega,by omega,HKk,HWk,HFIN⟩
                     case measure =>
                      simp [Go.RowKit.intOf]
                      try omega
             · have huz:¬ (2:Int)≤(b:Int)-(i':Int):=by omega
               go_region
               all_goals go_wp2_with fail
               go_loopw [9] (fun vx wx=>∃ (j:Nat) (dj:Array Int),vx=.int .i64 (j:Int)∧j≤i'-1∧Hid (dj.size=n)∧Hid (Sd w blk off dj wx)∧Hid (Sort.shiftDown Sort.ltInt j dj=Sort.shiftDown Sort.ltInt (i'-1) d1)) (fun vx _=>(Go.RowKit.intOf vx).toNat)
               case atStart=>exact⟨i'-1,d1,by go_num,by omega,HK1,(hid (HSD.out 1)),hid rfl⟩
               case round =>
                clear hcw hfw
                obtain⟨j,dj,rfl,hj1,HKj,HWj,HEj⟩:=hrel
                obtain⟨Gj,hG⟩:∃ Gj:Nat→Int,∀ t,Gj t=dj[t]!:=⟨fun t=>dj[t]!,fun _=>rfl⟩
                have HGj:=hid hG
                clear hG
                have hcw:∀ t,t<n→wr.cell? ⟨blk,off+t,none⟩=some (.int .u32 (Gj t)):=fun t ht=>by
                 rw [HGj.out]
                 exact HWj.out.1.cell (by rw [HKj.out];exact ht)
                have hfw:∀ t,t<n→wr.frozen? ⟨blk,off+t,none⟩=false:=fun t _=>HWj.out.1.free t
                by_cases hcj:1≤j
                · have hcjz:(1:Int)≤(j:Int):=by omega
                  go_wp2_with fail
                  go_quiet (first | (go_at_call 136;refine Calls.quiet_of_same (z1s _ _ _)))
                  go_wp2
                  · have ht:(!Sort.ltInt (Gj j) (Gj (j-1)))=true:=by assumption
                    have HXj:=hid (show Sort.fixDown Sort.ltInt a i' d1=dj by
                     unfold Sort.fixDown
                     rw [if_pos (by omega),← HEj.out,z6r dj (.inr (by rw [← HGj.out,← HGj.out];simpa using ht))])
                    clear ht
                    have HFIN:=hid (show Sort.partialIns Sort.ltInt a b t i' dj=Sort.partialIns Sort.ltInt a b 5 (a+1) d by rw [← HE2.out,HXj.out,show Sort.fixUp Sort.ltInt b i' dj=dj from if_neg (by omega)])
                    go_roundw
                    case rel=>exact⟨i',s+1,t,dj,rfl,by go_num,by omega,by omega,by omega,HKj,(hid (HWj.out.drewN nq)),HFIN⟩
                    case measure =>
                     simp [Go.RowKit.intOf]
                     try omega
                  · have ht:(!Sort.ltInt (Gj j) (Gj (j-1)))=false:=by assumption
                    have HN:=hid (show Sort.shiftDown Sort.ltInt (j-1) (Sort.swp dj j (j-1))=Sort.shiftDown Sort.ltInt (i'-1) d1 by
                     rw [← HEj.out,jsdn_go dj hcj (by rw [← HGj.out,← HGj.out];simpa using ht)])
                    clear ht
                    have HWQ:=hid (HWj.out.drewN nq)
                    clear hcw hfw
                    generalize wr.drewN nq=WQ at HWQ ⊢
                    have hcw:∀ t,t<n→WQ.cell? ⟨blk,off+t,none⟩=some (.int .u32 (Gj t)):=fun t ht=>by
                     rw [HGj.out]
                     exact HWQ.out.1.cell (by rw [HKj.out];exact ht)
                    have hfw:∀ t,t<n→WQ.frozen? ⟨blk,off+t,none⟩=false:=fun t _=>HWQ.out.1.free t
                    have HSQ:=hid fun q=>show Sd w blk off (Sort.swp dj j (j-1)) (((WQ.drewN q).setCell ⟨blk,off+j,none⟩ (.int .u32 (Gj (j-1)))).setCell ⟨blk,off+(j-1),none⟩ (.int .u32 (Gj j))) from by
                     have h1:=(HWQ.out.drewN q).swap (i:=j) (j:=(j-1)) (by rw [HKj.out];omega) (by rw [HKj.out];omega)
                     rw [← HGj.out,← HGj.out] at h1
                     exact h1
                    go_region
                    all_goals go_wp2
                    go_roundw
                    case rel=>exact⟨j-1,Sort.swp dj j (j-1),by go_num,by omega,hid (by rw [Sort.swp_size];exact HKj.out),hid (HSQ.out 1),HN⟩
                    case measure =>
                     simp [Go.RowKit.intOf]
                     try omega
                · have hcjz:¬ (1:Int)≤(j:Int):=by omega
                  go_wp2_with fail
                  have HXj:=hid (show Sort.fixDown Sort.ltInt a i' d1=dj by
                   unfold Sort.fixDown
                   rw [if_pos (by omega),← HEj.out,z6r dj (.inl hcj)])
                  have HFIN:=hid (show Sort.partialIns Sort.ltInt a b t i' dj=Sort.partialIns Sort.ltInt a b 5 (a+1) d by rw [← HE2.out,HXj.out,show Sort.fixUp Sort.ltInt b i' dj=dj from if_neg (by omega)])
                  go_roundw
                  case rel=>exact⟨i',s+1,t,dj,rfl,by go_num,by omega,by omega,by omega,HKj,HWj,HFIN⟩
                  case measure =>
                   simp [Go.RowKit.intOf]
                   try omega
           · have h2z:¬ (2:Int)≤(i':Int)-(a:Int):=by omega
             by_cases hu:2≤b-i'
             · have huz:(2:Int)≤(b:Int)-(i':Int):=by omega
               go_region
               all_goals go_wp2_with fail
               go_loopw [10] (fun vx wx=>∃ (k:Nat) (dk:Array Int),vx=.int .i64 (k:Int)∧i'+1≤k∧k≤b∧Hid (dk.size=n)∧Hid (Sd w blk off dk wx)∧Hid (Sort.shiftUp Sort.ltInt b k dk=Sort.shiftUp Sort.ltInt b (i'+1) d1)) (fun vx _=>b-(Go.RowKit.intOf vx).toNat)
               case atStart=>exact⟨i'+1,d1,by go_num,by omega,by omega,HK1,(hid (HSD.out 1)),hid rfl⟩
               case round =>
                clear hcw hfw
                obtain⟨k,dk,rfl,hk1,hk2,HKk,HWk,HEk⟩:=hrel
                obtain⟨Gk,hG⟩:∃ Gk:Nat→Int,∀ t,Gk t=dk[t]!:=⟨fun t=>dk[t]!,fun _=>rfl⟩
                have HGk:=hid hG
                clear hG
                have hcw:∀ t,t<n→wr.cell? ⟨blk,off+t,none⟩=some (.int .u32 (Gk t)):=fun t ht=>by
                 rw [HGk.out]
                 exact HWk.out.1.cell (by rw [HKk.out];exact ht)
                have hfw:∀ t,t<n→wr.frozen? ⟨blk,off+t,none⟩=false:=fun t _=>HWk.out.1.free t
                by_cases hck:k<b
                · have hckz:(k:Int)<(b:Int):=by omega
                  go_wp2_with fail
                  go_quiet (first | (go_at_call 136;refine Calls.quiet_of_same (z1s _ _ _)))
                  go_wp2
                  · have ht:(!Sort.ltInt (Gk k) (Gk (k-1)))=true:=by assumption
                    have HXk:=hid (show Sort.fixUp Sort.ltInt b i' d1=dk by
                     unfold Sort.fixUp
                     rw [if_pos (by omega),← HEk.out,z4t dk (.inr (by rw [← HGk.out,← HGk.out];simpa using ht))])
                    clear ht
                    have HFIN:=hid (show Sort.partialIns Sort.ltInt a b t i' dk=Sort.partialIns Sort.ltInt a b 5 (a+1) d by rw [← HE2.out,show Sort.fixDown Sort.ltInt a i' d1=d1 from if_neg (by omega),HXk.out])
                    go_roundw
                    case rel=>exact⟨i',s+1,t,dk,rfl,by go_num,by omega,by omega,by omega,HKk,(hid (HWk.out.drewN nq)),HFIN⟩
                    case measure =>
                     simp [Go.RowKit.intOf]
                     try omega
                  · have ht:(!Sort.ltInt (Gk k) (Gk (k-1)))=false:=by assumption
                    have HN:=hid (show Sort.shiftUp Sort.ltInt b (k+1) (Sort.swp dk k (k-1))=Sort.shiftUp Sort.ltInt b (i'+1) d1 by
                     rw [← HEk.out,z9p dk hck (by rw [← HGk.out,← HGk.out];simpa using ht)])
                    clear ht
                    have HWQ:=hid (HWk.out.drewN nq)
                    clear hcw hfw
                    generalize wr.drewN nq=WQ at HWQ ⊢
                    have hcw:∀ t,t<n→WQ.cell? ⟨blk,off+t,none⟩=some (.int .u32 (Gk t)):=fun t ht=>by
                     rw [HGk.out]
                     exact HWQ.out.1.cell (by rw [HKk.out];exact ht)
                    have hfw:∀ t,t<n→WQ.frozen? ⟨blk,off+t,none⟩=false:=fun t _=>HWQ.out.1.free t
                    have HSQ:=hid fun q=>show Sd w blk off (Sort.swp dk k (k-1)) (((WQ.drewN q).setCell ⟨blk,off+k,none⟩ (.int .u32 (Gk (k-1)))).setCell ⟨blk,off+(k-1),none⟩ (.int .u32 (Gk k))) from by
                     have h1:=(HWQ.out.drewN q).swap (i:=k) (j:=(k-1)) (by rw [HKk.out];omega) (by rw [HKk.out];omega)
                     rw [← HGk.out,← HGk.out] at h1
                     exact h1
                    go_region
                    all_goals go_wp2
                    go_roundw
                    case rel=>exact⟨k+1,Sort.swp dk k (k-1),by go_num,by omega,by omega,hid (by rw [Sort.swp_size];exact HKk.out),hid (HSQ.out 1),HN⟩
                    case measure =>
                     simp [Go.RowKit.intOf]
                     try omega
                · have hckz:¬ (k:Int)<(b:Int):=by omega
                  go_wp2_with fail
                  have HXk:=hid (show Sort.fixUp Sort.ltInt b i' d1=dk by
                   unfold Sort.fixUp
                   rw [if_pos (by omega),← HEk.out,z4t dk (.inl hck)])
                  have HFIN:=hid (show Sort.partialIns Sort.ltInt a b t i' dk=Sort.partialIns Sort.ltInt a b 5 (a+1) d by rw [← HE2.out,show Sort.fixDown Sort.ltInt a i' d1=d1 from if_neg (by omega),HXk.out])
                  go_roundw
                  case rel=>exact⟨i',s+1,t,dk,rfl,by go_num,by omega,by omega,by omega,HKk,HWk,HFIN⟩
                  case measure =>
                   simp [Go.RowKit.intOf]
                   try omega
             · exact absurd hu (by omega)
     · obtain rfl:i'=b:=by omega
       go_wp2_with fail
       go_quiet (first | (go_at_call 136;refine Calls.quiet_of_same (z1s _ _ _)))
       go_wp2_with fail
       go_ret
       have e:Sort.partialIns Sort.ltInt a i' 5 (a+1) d=(dk,true):=by rw [← HE.out,Sort.partialIns_succ,← HSC.out,z8v dk (.inl hle),if_pos rfl]
       exact⟨by unfold Sort.partialInsertionSort;rw [e];rfl,by unfold Sort.partialInsertionSort;rw [e];exact HW1.out.drewN nq⟩
  · have h5z:¬ (s:Int)<5:=by omega
    obtain rfl:t=0:=by omega
    go_wp2_with fail
    go_ret
    have e:Sort.partialIns Sort.ltInt a b 5 (a+1) d=(dk,false):=HE.out.symm
    exact⟨by unfold Sort.partialInsertionSort;rw [e];rfl,by unfold Sort.partialInsertionSort;rw [e];exact HW.out⟩
end Go.Proofs.YtnpjpelbcmgodaaGreatDoor
