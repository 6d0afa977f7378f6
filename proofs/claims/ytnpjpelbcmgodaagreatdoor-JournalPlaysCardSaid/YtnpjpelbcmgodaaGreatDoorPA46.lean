import Derived.Test.YtnpjpelbcmgodaaGreatDoorPA45
import Derived.Test.YtnpjpelbcmgodaaGreatDoorPA43
namespace Go.Proofs.YtnpjpelbcmgodaaGreatDoor
open Go.Lib (hid)
set_option maxHeartbeats 16000000
open Go.RowKit Go.ChangeShapes Go.WideShapes
set_option linter.unusedVariables false
set_option linter.unusedSimpArgs false
set_option maxRecDepth 10000
set_option maxRecDepth 1000000 in
theorem pdq_u (blk off cap n:Nat) (hsz:n≤255):∀ (m a b lim:Nat) (d:Array Int) (w:World),b-a<m→HdU w blk off d→d.size=n→a≤b→b≤n→lim≤255→Sort.Below Sort.ltInt a b d →
 Calls Tryz.prog 107 #[.slice (some ⟨blk,off,none⟩) n cap,.int .i64 a,.int .i64 b,.int .i64 lim] w fun e w'=>e=.returned (.tuple #[])∧Ps w blk off a b d w':=by
 intro m
 induction m with
 | zero=>intro a b lim d w h;omega
 | succ m ih =>
 intro a b lim d w hm hH hdn hab hb hlim hB
 have HQ0:=hid (Sq.start hH hdn hB)
 have IH:Hid (∀ (x y l:Nat) (dk:Array Int) (W:World),y-x<m→HdU W blk off dk→dk.size=n→x≤y→y≤n→l≤255→Sort.Below Sort.ltInt x y dk→Calls Tryz.prog 107 #[.slice (some ⟨blk,off,none⟩) n cap,.int .i64 x,.int .i64 y,.int .i64 l] W fun e w'=>e=.returned (.tuple #[])∧Ps W blk off x y dk w'):=hid ih
 clear ih hH hdn hB
 go_enter Tryz.func107,Tryz.ntmps107
 go_wp2_with fail
 go_loopg [1,2,3,8,9] (b-a) (fun k vx vy vl vb vp wr=>∃ (x y l:Nat) (wb wp:Bool) (dk:Array Int),vx=.int .i64 (x:Int)∧vy=.int .i64 (y:Int)∧vl=.int .i64 (l:Int)∧vb=.bool wb∧vp=.bool wp∧a≤x∧x≤y∧y≤b∧y-x≤k∧k≤b-a∧l≤255∧Hid (Sq w blk off n a b d x y dk wr))
 case atStart=>exact⟨a,b,lim,true,true,d,rfl,rfl,rfl,rfl,rfl,Nat.le_refl _,hab,Nat.le_refl _,Nat.le_refl _,Nat.le_refl _,hlim,HQ0⟩
 case round =>
  obtain⟨x,y,l,wb,wp,dk,rfl,rfl,rfl,rfl,rfl,hax,hxy,hyb,hk,hkN,hl,HQ⟩:=hrel
  clear HQ0
  by_cases h12:(y:Int)-(x:Int)≤12
  · go_wp2_with fail
    refine (insertion_u blk off cap x y n dk _ HQ.out.sd.1 HQ.out.size hxy (by omega) (by omega)).mono ?_
    rintro e w5 ⟨rfl,hs⟩
    have HS:=hid hs
    clear hs
    go_wp2_with fail
    (try simp only [Exit.inBlock,Exit.then])
    refine bodyPost_ret (results_none rfl _ _ _) rfl ?_
    have hi:=Sort.insertionSort_holds (lt:=Sort.ltInt) Sort.swo_ltInt dk x y hxy (by rw [HQ.out.size];omega)
    exact⟨rfl,HQ.out.done hi.1 hi.2 HS.out⟩
  · have h12n:x+12<y:=by omega
    by_cases h0:((l:Int)==0)=true
    · go_wp2_with fail
      refine (heap_u blk off cap x y n dk _ HQ.out.sd.1 HQ.out.size (by omega) (by omega) (by omega)).mono ?_
      rintro e w5 ⟨rfl,hs⟩
      have HS:=hid hs
      clear hs
      go_wp2_with fail
      (try simp only [Exit.inBlock,Exit.then])
      refine bodyPost_ret (results_none rfl _ _ _) rfl ?_
      have hi:=Sort.heapSort_holds (lt:=Sort.ltInt) Sort.swo_ltInt dk x y hxy (by rw [HQ.out.size];omega)
      exact⟨rfl,HQ.out.done hi.1 hi.2 HS.out⟩
    · have h0n:((l:Int)==0)=false:=by simpa using h0
      have hl0:0<l:=by
       rcases Nat.eq_zero_or_pos l with h | h
       · subst h
         simp at h0
       · exact h
      clear h0
      go_upto_if 35 with fail
      go_cut [3] from 19 (fun s3 wx=>∃ (l1:Nat) (d1:Array Int),s3=.int .i64 (l1:Int)∧l1≤255∧Hid (Sq w blk off n a b d x y d1 wx))
      case first =>
       cases wb
       · obtain⟨l1,hl1⟩:∃ l1:Nat,l1=l-1:=⟨_,rfl⟩
         have el:(l:Int)-1=(l1:Int):=by omega
         have hl1b:l1≤255:=by omega
         clear hl1
         go_wp2_with fail
         refine (break_u blk off cap x y n dk _ HQ.out.sd.1 HQ.out.size (by omega) (by omega) (by omega)).mono ?_
         rintro e w5 ⟨rfl,d1,hp1,hs1⟩
         have HQ1:=hid (HQ.out.step (by omega) hp1 hs1)
         clear hp1 hs1
         go_wp2_with fail
         go_meet
         case rel=>exact⟨l1,d1,by first | rfl | go_num,hl1b,HQ1⟩
       · go_wp2_with fail
         go_meet
         case rel=>exact⟨l,dk,rfl,hl,HQ⟩
      case rest =>
       clear HQ h0n hl hl0
       obtain⟨l,d1,rfl,hl1,HQ1⟩:=hcut
       go_wp2_with fail
       refine (pivot_u blk off cap x y n d1 _ HQ1.out.sd.1 HQ1.out.size (by omega) (by omega) (by omega)).mono ?_
       rintro e wt ⟨⟨p,h,rfl,hp1,hp2,hh⟩,ht⟩
       have HQp:=hid (HQ1.out.quiet ht)
       clear ht HQ1
       go_upto_if 50 with fail
       go_cut [11,12] from 19 (fun s11 s12 wx=>∃ (P q:Nat) (d2:Array Int),s11=.int .i64 (P:Int)∧s12=.int .i64 (q:Int)∧x≤P∧P<y∧q≤1∧Hid (Sq w blk off n a b d x y d2 wx))
       case first =>
        obtain rfl | rfl | rfl:h=0∨h=1∨h=2:=by omega
        · go_wp2_with fail
          go_meet
          case rel=>exact⟨p,0,d1,rfl,rfl,hp1,hp2,by omega,HQp⟩
        · go_wp2_with fail
          go_meet
          case rel=>exact⟨p,1,d1,rfl,rfl,hp1,hp2,by omega,HQp⟩
        · obtain⟨P,hP⟩:∃ P:Nat,P=y-1-(p-x):=⟨_,rfl⟩
          have eP:((y:Int)-1-((p:Int)-(x:Int)))=(P:Int):=by omega
          have hPb:x≤P∧P<y:=by omega
          clear hP
          go_wp2_with fail
          refine (reverse_u blk off cap x y n d1 _ HQp.out.sd.1 HQp.out.size (by omega) (by omega) (by omega)).mono ?_
          rintro e w6 ⟨rfl,d2,hr2,hs2⟩
          have HQ2:=hid (HQp.out.step (by omega) hr2 hs2)
          clear hr2 hs2
          go_wp2_with fail
          go_meet
          case rel=>exact⟨P,1,d2,by first | rfl | go_num,rfl,hPb.1,hPb.2,by omega,HQ2⟩
       case rest =>
        clear HQp hp1 hp2 hh
        obtain⟨P,q,d2,rfl,rfl,hP1,hP2,hq,HQ2⟩:=hcut
        go_upto_region 15 with fail
        go_cut [12,68] from 19 (fun s12 sc wx=>s12=.int .i64 (q:Int)∧(∃ c:Bool,sc=.bool c)∧Hid (Sq w blk off n a b d x y d2 wx))
        case first =>
         obtain rfl | rfl:q=0∨q=1:=by omega
         all_goals cases wb <;> cases wp <;>
          (go_wp2_with fail
           go_meet
           exact⟨rfl,⟨_,rfl⟩,HQ2⟩)
        case rest =>
         clear HQ2
         obtain⟨rfl,⟨c,rfl⟩,HQ3⟩:=hcut
         go_upto_if 68 with fail
         go_cut [] from 19 (fun wx=>∃ d3:Array Int,Hid (Sq w blk off n a b d x y d3 wx))
         case first =>
          cases c
          · go_wp2_with fail
            go_meet
            case rel=>exact⟨d2,HQ3⟩
          · go_wp2_with fail
            refine (pins_u blk off cap x y n d2 _ HQ3.out.sd.1 HQ3.out.size (by omega) (by omega) (by omega)).mono ?_
            rintro e w7 ⟨rfl,hs⟩
            have hpi:=Sort.partialInsertionSort_holds (lt:=Sort.ltInt) Sort.swo_ltInt d2 x y (by omega) (by rw [HQ3.out.size];omega) HQ3.out.below
            generalize hr:Sort.partialInsertionSort Sort.ltInt d2 x y=r at hpi hs ⊢
            obtain⟨d3,fl⟩:=r
            have HQ4:=hid (HQ3.out.step (by omega) hpi.1 hs)
            have HPI:=hid hpi.2
            have HS3:=hid hs
            clear hs hpi hr
            cases fl
            · clear HPI HS3
              go_wp2_with fail
              go_meet
              case rel=>exact⟨d3,HQ4⟩
            · go_wp2_with fail
              (try simp only [Exit.inBlock,Exit.then])
              refine bodyPost_ret (results_none rfl _ _ _) rfl ?_
              exact⟨rfl,HQ4.out.done (Sort.permIn_refl _ _ _) (HPI.out (by trivial)) (Sd.refl HQ4.out.sd.1)⟩
         case rest =>
          clear HQ3
          obtain⟨d3,HQ4⟩:=hcut
          obtain⟨G,hG⟩:∃ G:Nat→Int,∀ t,G t=d3[t]!:=⟨fun t=>d3[t]!,fun _=>rfl⟩
          have hcw:∀ t,t<n→wc.cell? ⟨blk,off+t,none⟩=some (.int .u32 (G t)):=fun t ht=>by
           rw [hG]
           exact HQ4.out.sd.1.cell (by rw [HQ4.out.size];exact ht)
          have hfw:∀ t,t<n→wc.frozen? ⟨blk,off+t,none⟩=false:=fun t _=>HQ4.out.sd.1.free t
          have HG:=hid hG
          clear hG
          go_upto_region 17 with fail
          go_cut [87] from 19 (fun sc wx=>(∃ c:Bool,sc=.bool c∧(c=true→0<x∧Sort.ltInt d3[x-1]! d3[P]! = false))∧Hid (Sq w blk off n a b d x y d3 wx))
          case first =>
           by_cases hx0:0<x
           · have hx0z:(0:Int)<(x:Int):=by omega
             go_quiet (first | (go_at_call 136;refine Calls.quiet_of_same (z1s _ _ _)))
             go_wp2_with fail
             go_meet
             case rel =>
              refine⟨⟨_,rfl,fun ht=>⟨hx0,?_⟩⟩,hid (HQ4.out.drewN nq)⟩
              rw [← HG.out,← HG.out]
              simpa using ht
           · have hx0z:¬ (0:Int)<(x:Int):=by omega
             go_quiet (first | (go_at_call 136;refine Calls.quiet_of_same (z1s _ _ _)))
             go_wp2_with fail
             go_meet
             case rel=>exact⟨⟨false,rfl,fun ht=>by simp at ht⟩,hid (HQ4.out.drewN nq)⟩
          case rest =>
           clear HQ4 hcw hfw HG
           obtain⟨⟨c,rfl,hN⟩,HQ6⟩:=hcut
           cases c
           · clear hN
             go_wp2_with fail
             refine (part_u blk off cap x y P n d3 _ HQ6.out.sd.1 HQ6.out.size (by omega) (by omega) (by omega) (by omega)).mono ?_
             rintro e w7 ⟨mid,d4,ap,rfl,hpd,hs4⟩
             have HPD:=hid hpd
             have HS4:=hid hs4
             clear hpd hs4
             have hm1:=HPD.out.1
             have hm2:=HPD.out.2.1
             by_cases hlr:((mid:Int)-(x:Int))<(y:Int)-(mid:Int)
             · have hlr2:mid-x<y-mid:=by omega
               go_wp2_with fail
               refine (IH.out x mid l d4 _ (by omega) HS4.out.1 (by rw [HPD.out.2.2.1.1];exact HQ6.out.size) (by omega) (by omega) hl1 (below_first (by rw [HQ6.out.size];omega) HPD.out HQ6.out.below)).mono ?_
               rintro e w9 ⟨rfl,hps⟩
               obtain⟨L,hq9⟩:=HQ6.out.left (by omega) HPD.out HS4.out hps
               have HQ9:=hid hq9
               clear hps hq9
               go_wp2_with fail
               go_roundg (y-(mid+1))
               case measure=>omega
               case rel=>exact⟨mid+1,y,l,_,_,L,by first | rfl | go_num,by first | rfl | go_num,rfl,rfl,rfl,by omega,by omega,by omega,by omega,by omega,hl1,HQ9⟩
             · have hlr2:¬ mid-x<y-mid:=by omega
               go_wp2_with fail
               refine (IH.out (mid+1) y l d4 _ (by omega) HS4.out.1 (by rw [HPD.out.2.2.1.1];exact HQ6.out.size) (by omega) (by omega) hl1 (below_second HPD.out)).mono ?_
               rintro e w9 ⟨rfl,hps⟩
               obtain⟨L,hq9⟩:=HQ6.out.right (by omega) HPD.out HS4.out hps
               have HQ9:=hid hq9
               clear hps hq9
               go_wp2_with fail
               go_roundg (mid-x)
               case measure=>omega
               case rel=>exact⟨x,mid,l,_,_,L,by first | rfl | go_num,by first | rfl | go_num,rfl,rfl,rfl,by omega,by omega,by omega,by omega,by omega,hl1,HQ9⟩
           · obtain⟨hx0,hN1⟩:=hN rfl
             have HN:=hid hN1
             clear hN hN1
             go_wp2_with fail
             refine (partE_u blk off cap x y P n d3 _ HQ6.out.sd.1 HQ6.out.size (by omega) (by omega) (by omega) (by omega)).mono ?_
             rintro e w7 ⟨mid,d4,rfl,hpe,hs4⟩
             have HQ7:=hid (HQ6.out.eq (by omega) hpe hx0 HN.out hs4)
             have hm1:=hpe.2.1
             have hm2:=hpe.2.2.1
             have hm3:=hpe.1
             clear hpe hs4
             go_wp2_with fail
             go_roundg (y-mid)
             case measure=>omega
             case rel=>exact⟨mid,y,l,_,_,d4,rfl,rfl,rfl,rfl,rfl,by omega,by omega,by omega,by omega,by omega,hl1,HQ7⟩
theorem sort_any_u (blk off cap n:Nat) (d:Array Int) (w:World) (hH:HdU w blk off d) (hdn:d.size=n) (hn:n≤255) (hc:n≤cap) :
 Calls Tryz.prog 86 #[.slice (some ⟨blk,off,none⟩) n cap] w fun e w'=>e=.returned (.tuple #[])∧Ps w blk off 0 n d w':=by
 have hb:=hid (jlen_u n hn w)
 have HP:Hid (∀ v:Nat,v≤255→Calls Tryz.prog 107 #[.slice (some ⟨blk,off,none⟩) n cap,.int .i64 0,.int .i64 n,.int .i64 v] w fun e w'=>e=.returned (.tuple #[])∧Ps w blk off 0 n d w'):=hid fun v hv=>by
  have h:=pdq_u blk off cap n hn (n+1) 0 n v d w (by omega) hH hdn (Nat.zero_le _) (Nat.le_refl _) hv (.inl rfl)
  exact h
 clear hH hdn
 go_enter Tryz.func86,Tryz.ntmps86
 go_wp2_with fail
 refine hb.out.mono ?_
 rintro e w' ⟨⟨v,rfl,hv,_⟩,hw⟩
 subst hw
 go_wp2_with fail
 refine (HP.out v (by omega)).mono ?_
 rintro e w'' ⟨rfl,hs⟩
 have HS:=hid hs
 clear hs hb
 go_wp2_with fail
 go_end0
 exact⟨rfl,HS.out⟩
theorem perm_sorted (L:List Int) (d:Array Int) (hP:Sort.PermIn 0 L.length L.toArray d) (hS:Sort.SortedIn Sort.ltInt 0 L.length d):d.toList=z7x L:=by
 have h:=Sort.sorted_unique_holds Sort.swo_ltInt (fun x y h1 h2=>by simp only [Sort.ltInt,decide_eq_false_iff_not] at *;omega) L.toArray d (by simpa using hP) (by simpa using hS)
 rw [h]
 unfold z7x
 congr 1
 funext x y
 simp [Sort.ltInt]
 by_cases h:y<x
 · simp [h]
 · simp [h]
   omega
theorem sorts_many:z9i 100:=fun g n c L w hH hl hn hc=>by
 refine (sort_any_u g 0 c n L.toArray w hH (by simpa using hl) (by omega) hc).mono ?_
 rintro e w' ⟨rfl,d',h1,h2,h3⟩
 refine⟨rfl,?_⟩
 rw [← hl] at h1 h2
 rw [← perm_sorted L d' h1 h2]
 exact h3
end Go.Proofs.YtnpjpelbcmgodaaGreatDoor
