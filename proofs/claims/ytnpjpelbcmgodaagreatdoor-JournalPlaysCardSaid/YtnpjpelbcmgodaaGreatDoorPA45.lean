import Derived.Test.YtnpjpelbcmgodaaGreatDoorPA44
import Derived.Test.YtnpjpelbcmgodaaGreatDoorPA42
namespace Go.Proofs.YtnpjpelbcmgodaaGreatDoor
open Go.Lib (hid)
set_option maxHeartbeats 8000000
open Go.RowKit Go.ChangeShapes Go.WideShapes
set_option linter.unusedVariables false
set_option linter.unusedSimpArgs false
set_option maxRecDepth 10000
def Ps (w:World) (blk off a b:Nat) (d:Array Int) (w':World):Prop:=∃ d',Sort.PermIn a b d d'∧Sort.SortedIn Sort.ltInt a b d'∧Sd w blk off d' w'
structure Sq (w:World) (blk off n a b:Nat) (d:Array Int) (x y:Nat) (dk:Array Int) (wr:World):Prop where
 size:dk.size=n
 sd:Sd w blk off dk wr
 below:Sort.Below Sort.ltInt x y dk
 rest:∀ R,Sort.PermIn x y dk R→Sort.SortedIn Sort.ltInt x y R→Sort.PermIn a b d R∧Sort.SortedIn Sort.ltInt a b R
theorem Sq.start {w:World} {blk off n a b:Nat} {d:Array Int} (hH:HdU w blk off d) (hn:d.size=n) (hB:Sort.Below Sort.ltInt a b d):Sq w blk off n a b d a b d w:=⟨hn,Sd.refl hH,hB,fun R h1 h2=>⟨h1,h2⟩⟩
theorem Sq.step {w wr w':World} {blk off n a b x y:Nat} {d dk d':Array Int} (h:Sq w blk off n a b d x y dk wr) (hy:y≤n) (hp:Sort.PermIn x y dk d') (hs:Sd wr blk off d' w'):Sq w blk off n a b d x y d' w' :=
 ⟨hp.1.trans h.size,h.sd.trans hs,Sort.Below.perm h.below (by rw [h.size];exact hy) hp,fun R h1 h2=>h.rest R (Sort.permIn_trans _ _ _ _ _ hp h1) h2⟩
theorem Sq.quiet {w wr w':World} {blk off n a b x y:Nat} {d dk:Array Int} (h:Sq w blk off n a b d x y dk wr) (ht:Turn (fun _=>False) wr w'):Sq w blk off n a b d x y dk w' :=
 ⟨h.size,⟨h.sd.1.turn ht fun h=>h,h.sd.2.trans ht fun _ _ h=>absurd h id⟩,h.below,h.rest⟩
theorem Sq.drewN {w wr:World} {blk off n a b x y:Nat} {d dk:Array Int} (h:Sq w blk off n a b d x y dk wr) (q:Nat):Sq w blk off n a b d x y dk (wr.drewN q):=⟨h.size,h.sd.drewN q,h.below,h.rest⟩
theorem Sq.done {w wr w':World} {blk off n a b x y:Nat} {d dk R:Array Int} (h:Sq w blk off n a b d x y dk wr) (h1:Sort.PermIn x y dk R) (h2:Sort.SortedIn Sort.ltInt x y R) (hs:Sd wr blk off R w'):Ps w blk off a b d w' :=
 ⟨R,(h.rest R h1 h2).1,(h.rest R h1 h2).2,h.sd.trans hs⟩
theorem Sq.eq {w wr w':World} {blk off n a b x y mid p:Nat} {d dk d4:Array Int} (h:Sq w blk off n a b d x y dk wr) (hy:y≤n) (hp:z8i x y mid dk[p]! dk d4) (h0:0<x) (hn:Sort.ltInt dk[x-1]! dk[p]! = false) (hs:Sd wr blk off d4 w'):Sq w blk off n a b d mid y d4 w' :=
 ⟨hp.2.2.2.1.1.trans h.size,h.sd.trans hs,below_eq hp,fun R h1 h2=>by
  obtain⟨g1,g2⟩:=glue_eq (by rw [h.size];exact hy) hp h.below h0 hn h1 h2
  exact h.rest R g1 g2⟩
theorem Sq.left {w wr w4 w':World} {blk off n a b x y mid:Nat} {d dk d4:Array Int} (h:Sq w blk off n a b d x y dk wr) (hy:y≤n) (hp:z5m x y mid dk d4) (hs:Sd wr blk off d4 w4) (hl:Ps w4 blk off x mid d4 w'):∃ L,Sq w blk off n a b d (mid+1) y L w':=by
 obtain⟨L,l1,l2,l3⟩:=hl
 exact⟨L,(l1.1.trans hp.2.2.1.1).trans h.size,(h.sd.trans hs).trans l3,below_after_first hp l1,fun R h1 h2=>by
  obtain⟨g1,g2⟩:=glue_left (by rw [h.size];exact hy) hp l1 l2 h1 h2
  exact h.rest R g1 g2⟩
theorem Sq.right {w wr w4 w':World} {blk off n a b x y mid:Nat} {d dk d4:Array Int} (h:Sq w blk off n a b d x y dk wr) (hy:y≤n) (hp:z5m x y mid dk d4) (hs:Sd wr blk off d4 w4) (hl:Ps w4 blk off (mid+1) y d4 w'):∃ L,Sq w blk off n a b d x mid L w':=by
 obtain⟨L,l1,l2,l3⟩:=hl
 exact⟨L,(l1.1.trans hp.2.2.1.1).trans h.size,(h.sd.trans hs).trans l3,below_after_second (by rw [h.size];exact hy) hp h.below l1,fun R h1 h2=>by
  obtain⟨g1,g2⟩:=glue_right (by rw [h.size];exact hy) hp l1 l2 h1 h2
  exact h.rest R g1 g2⟩
set_option maxRecDepth 100000 in
theorem part_u (blk off cap a b pivot n:Nat) (d:Array Int) (w:World) (hH:HdU w blk off d) (hdn:d.size=n) (h1:a≤pivot) (h2:pivot<b) (hb:b≤n) (hsz:n≤1000000000) :
 Calls Tryz.prog 138 #[.slice (some ⟨blk,off,none⟩) n cap,.int .i64 a,.int .i64 b,.int .i64 pivot] w fun e w'=>∃ (mid:Nat) (d':Array Int) (ap:Bool),e=.returned (.tuple #[.int .i64 (mid:Int),.bool ap])∧z5m a b mid d d'∧Sd w blk off d' w':=by
 have HS:=hid (Sd.refl hH)
 have HDN:=hid hdn
 obtain⟨dk,hdk⟩:∃ dk,dk=Sort.swp d a pivot:=⟨_,rfl⟩
 have HK:Hid (dk.size=n):=hid (by rw [hdk,Sort.swp_size];exact hdn)
 obtain⟨v,hv⟩:∃ v,v=d[pivot]!:=⟨_,rfl⟩
 (try rw [← hv])
 have HI0:Hid (PI Sort.ltInt a b d v (a+1) (b-1) dk):=hid (PI.start (by
  rw [hdk,hv,z9w (by omega) (by omega)]
  by_cases h:a=pivot
  · rw [if_pos h,h]
  · rw [if_neg h,if_pos rfl]) (by rw [hdk];exact z4p (Sort.permIn_refl _ _ _) (by omega) (Nat.le_refl _) (by omega) h1 h2) (by omega) (by rw [HK.out];exact hb))
 have HE:Hid (PI Sort.ltInt a b d v (a+1) (b-1) dk→Sort.PermIn a b d dk):=hid fun h=>h.perm
 obtain⟨G0,hG0⟩:∃ G0:Nat→Int,∀ t,G0 t=d[t]!:=⟨fun t=>d[t]!,fun _=>rfl⟩
 have hcw:∀ t,t<n→w.cell? ⟨blk,off+t,none⟩=some (.int .u32 (G0 t)):=fun t ht=>by
  rw [hG0]
  exact hH.cell (by rw [hdn];exact ht)
 have hfw:∀ t,t<n→w.frozen? ⟨blk,off+t,none⟩=false:=fun t _=>hH.free t
 have HSW0:=hid fun q=>show Sd w blk off dk (((w.drewN q).setCell ⟨blk,off+a,none⟩ (.int .u32 (G0 pivot))).setCell ⟨blk,off+pivot,none⟩ (.int .u32 (G0 a))) from by
  have h3:=(HS.out.drewN q).swap (i:=a) (j:=pivot) (by rw [hdn];omega) (by rw [hdn];omega)
  rw [← hG0,← hG0,← hdk] at h3
  exact h3
 clear hH hdn hG0 hdk hv
 go_enter Tryz.func138,Tryz.ntmps138
 go_wp2_with fail
 by_cases hpa:pivot=a
 all_goals
  go_region
  all_goals go_wp2_with fail
  (try rw [hpa] at HSW0)
  have HW:=hid (HSW0.out 1)
  clear HSW0 hcw hfw HS HDN HE
  obtain⟨i,hi⟩:∃ i,i=a+1:=⟨_,rfl⟩
  obtain⟨j,hj⟩:∃ j,j=b-1:=⟨_,rfl⟩
  rw [← hi,← hj] at HI0
  have hai:a<i:=by omega
  have hij:i≤j+1:=by omega
  have hjb:j<b:=by omega
  have ei:(a:Int)+1=(i:Int):=by omega
  have ej:(b:Int)-1=(j:Int):=by omega
  have HI:=HI0
  clear HI0 hi hj
  rw [ei,ej]
  clear ei ej
  obtain⟨G,hG⟩:∃ G:Nat→Int,∀ t,G t=dk[t]!:=⟨fun t=>dk[t]!,fun _=>rfl⟩
  have HG:=hid hG
  clear hG
  go_loopw [10] (fun vi w1=>∃ i':Nat,vi=.int .i64 (i':Int)∧i≤i'∧i'≤j+1∧Hid (PI Sort.ltInt a b d v i' j dk)∧Hid (Sd w blk off dk w1)) (fun vi _=>j+1-(Go.RowKit.intOf vi).toNat)
  case atStart=>exact⟨i,rfl,Nat.le_refl _,hij,HI,HW⟩
  case round =>
   obtain⟨i',rfl,hii,hij',HI1,HW1⟩:=hrel
   clear HW HI
   have hcw:∀ t,t<n→wr.cell? ⟨blk,off+t,none⟩=some (.int .u32 (G t)):=fun t ht=>by
    rw [HG.out]
    exact HW1.out.1.cell (by rw [HK.out];exact ht)
   have hfw:∀ t,t<n→wr.frozen? ⟨blk,off+t,none⟩=false:=fun t _=>HW1.out.1.free t
   by_cases hle:i'≤j
   · go_wp2_with fail
     go_quiet (first | (go_at_call 136;refine Calls.quiet_of_same (z1s _ _ _)))
     go_wp2
     · have ht:Sort.ltInt (G i') (G a)=true:=by assumption
       have HN:=hid (HI1.out.up hle (show Sort.ltInt dk[i']! dk[a]! = true by rw [← HG.out,← HG.out];exact ht))
       clear ht
       go_roundw
       case rel=>exact⟨i'+1,by go_num,by omega,by omega,HN,hid (HW1.out.drewN nq)⟩
       case measure =>
        simp [Go.RowKit.intOf]
        try omega
     · have ht:Sort.ltInt (G i') (G a)=false:=by assumption
       have ST:Hid (j<i'∨Sort.ltInt dk[i']! dk[a]! = false):=hid (.inr (show Sort.ltInt dk[i']! dk[a]! = false by rw [← HG.out,← HG.out];exact ht))
       clear ht
       have HWD:=hid (HW1.out.drewN nq)
       clear hcw hfw HW1
       go_loopw [11] (fun vj w2=>∃ j':Nat,vj=.int .i64 (j':Int)∧j'≤j∧i'≤j'+1∧Hid (PI Sort.ltInt a b d v i' j' dk)∧Hid (Sd w blk off dk w2)) (fun vj _=>(Go.RowKit.intOf vj).toNat)
       case atStart=>exact⟨j,rfl,Nat.le_refl _,hij',HI1,HWD⟩
       case round =>
        obtain⟨j',rfl,hjj,hij2,HI2,HW2⟩:=hrel
        clear HWD
        have hcw:∀ t,t<n→wr.cell? ⟨blk,off+t,none⟩=some (.int .u32 (G t)):=fun t ht=>by
         rw [HG.out]
         exact HW2.out.1.cell (by rw [HK.out];exact ht)
        have hfw:∀ t,t<n→wr.frozen? ⟨blk,off+t,none⟩=false:=fun t _=>HW2.out.1.free t
        by_cases hle2:i'≤j'
        · go_wp2_with fail
          go_quiet (first | (go_at_call 136;refine Calls.quiet_of_same (z1s _ _ _)))
          go_wp2
          · have ht:(!Sort.ltInt (G j') (G a))=true:=by assumption
            have HN:=hid (HI2.out.down hle2 (show Sort.ltInt dk[j']! dk[a]! = false by rw [← HG.out,← HG.out];simpa using ht))
            clear ht
            go_roundw
            case rel=>exact⟨j'-1,by go_num,by omega,by omega,HN,hid (HW2.out.drewN nq)⟩
            case measure =>
             simp [Go.RowKit.intOf]
             try omega
          · have ht:(!Sort.ltInt (G j') (G a))=false:=by assumption
            have HT2:=hid (show Sort.ltInt dk[j']! dk[a]! = true by rw [← HG.out,← HG.out];simpa using ht)
            clear ht
            have HT1:=hid (show Sort.ltInt dk[i']! dk[a]! = false from by
             rcases ST.out with h | h
             · omega
             · exact h)
            have hlt3:i'<j':=HI2.out.lt hle2 HT1.out HT2.out
            have HSW:=hid (HI2.out.swap hlt3 HT1.out HT2.out)
            have HW3:=hid (HW2.out.drewN nq)
            clear hcw hfw HW2
            generalize wr.drewN nq=W3 at HW3 ⊢
            have hcw:∀ t,t<n→W3.cell? ⟨blk,off+t,none⟩=some (.int .u32 (G t)):=fun t ht=>by
             rw [HG.out]
             exact HW3.out.1.cell (by rw [HK.out];exact ht)
            have hfw:∀ t,t<n→W3.frozen? ⟨blk,off+t,none⟩=false:=fun t _=>HW3.out.1.free t
            have HSD:=hid fun q=>show Sd w blk off (Sort.swp dk i' j') (((W3.drewN q).setCell ⟨blk,off+i',none⟩ (.int .u32 (G j'))).setCell ⟨blk,off+j',none⟩ (.int .u32 (G i'))) from by
             have h1:=(HW3.out.drewN q).swap (i:=i') (j:=j') (by rw [HK.out];omega) (by rw [HK.out];omega)
             rw [← HG.out,← HG.out] at h1
             exact h1
            have hne3:i'≠j':=by omega
            go_wp2
            go_region
            all_goals go_wp2
            go_loopw [10,11] (fun vi vj wr=>∃ (i j:Nat) (dk:Array Int),vi=.int .i64 (i:Int)∧vj=.int .i64 (j:Int)∧a<i∧i≤j+1∧j<b∧Hid (dk.size=n)∧Hid (PI Sort.ltInt a b d v i j dk)∧Hid (Sd w blk off dk wr)) (fun vi vj _=>(Go.RowKit.intOf vj).toNat+1-(Go.RowKit.intOf vi).toNat)
            case atStart=>exact⟨i'+1,j'-1,Sort.swp dk i' j',by go_num,by go_num,by omega,by omega,by omega,hid (by rw [Sort.swp_size];exact HK.out),HSW,hid (HSD.out 1)⟩
            case round =>
             clear HSD HSW HK hcw hfw HG HW3 HI1 HI2 HT1 HT2 ST
             clear hle hle2 hlt3 hne3 hii hij' hjj hij2
             obtain⟨i,j,dk,rfl,rfl,hai,hij,hjb,HK,HI,HW⟩:=hrel
             rename World=>W1
             obtain⟨G,hG⟩:∃ G:Nat→Int,∀ t,G t=dk[t]!:=⟨fun t=>dk[t]!,fun _=>rfl⟩
             have HG:=hid hG
             clear hG
             go_wp2_with fail
             go_loopw [10] (fun vi w1=>∃ i':Nat,vi=.int .i64 (i':Int)∧i≤i'∧i'≤j+1∧Hid (PI Sort.ltInt a b d v i' j dk)∧Hid (Sd w blk off dk w1)) (fun vi _=>j+1-(Go.RowKit.intOf vi).toNat)
             case atStart=>exact⟨i,rfl,Nat.le_refl _,hij,HI,HW⟩
             case round =>
              obtain⟨i',rfl,hii,hij',HI1,HW1⟩:=hrel
              clear HW HI
              have hcw:∀ t,t<n→wr.cell? ⟨blk,off+t,none⟩=some (.int .u32 (G t)):=fun t ht=>by
               rw [HG.out]
               exact HW1.out.1.cell (by rw [HK.out];exact ht)
              have hfw:∀ t,t<n→wr.frozen? ⟨blk,off+t,none⟩=false:=fun t _=>HW1.out.1.free t
              by_cases hle:i'≤j
              · go_wp2_with fail
                go_quiet (first | (go_at_call 136;refine Calls.quiet_of_same (z1s _ _ _)))
                go_wp2
                · have ht:Sort.ltInt (G i') (G a)=true:=by assumption
                  have HN:=hid (HI1.out.up hle (show Sort.ltInt dk[i']! dk[a]! = true by rw [← HG.out,← HG.out];exact ht))
                  clear ht
                  go_roundw
                  case rel=>exact⟨i'+1,by go_num,by omega,by omega,HN,hid (HW1.out.drewN nq)⟩
                  case measure =>
                   simp [Go.RowKit.intOf]
                   try omega
                · have ht:Sort.ltInt (G i') (G a)=false:=by assumption
                  have ST:Hid (j<i'∨Sort.ltInt dk[i']! dk[a]! = false):=hid (.inr (show Sort.ltInt dk[i']! dk[a]! = false by rw [← HG.out,← HG.out];exact ht))
                  clear ht
                  have HWD:=hid (HW1.out.drewN nq)
                  clear hcw hfw HW1
                  go_loopw [11] (fun vj w2=>∃ j':Nat,vj=.int .i64 (j':Int)∧j'≤j∧i'≤j'+1∧Hid (PI Sort.ltInt a b d v i' j' dk)∧Hid (Sd w blk off dk w2)) (fun vj _=>(Go.RowKit.intOf vj).toNat)
                  case atStart=>exact⟨j,rfl,Nat.le_refl _,hij',HI1,HWD⟩
                  case round =>
                   obtain⟨j',rfl,hjj,hij2,HI2,HW2⟩:=hrel
                   clear HWD
                   have hcw:∀ t,t<n→wr.cell? ⟨blk,off+t,none⟩=some (.int .u32 (G t)):=fun t ht=>by
                    rw [HG.out]
                    exact HW2.out.1.cell (by rw [HK.out];exact ht)
                   have hfw:∀ t,t<n→wr.frozen? ⟨blk,off+t,none⟩=false:=fun t _=>HW2.out.1.free t
                   by_cases hle2:i'≤j'
                   · go_wp2_with fail
                     go_quiet (first | (go_at_call 136;refine Calls.quiet_of_same (z1s _ _ _)))
                     go_wp2
                     · have ht:(!Sort.ltInt (G j') (G a))=true:=by assumption
                       have HN:=hid (HI2.out.down hle2 (show Sort.ltInt dk[j']! dk[a]! = false by rw [← HG.out,← HG.out];simpa using ht))
                       clear ht
                       go_roundw
                       case rel=>exact⟨j'-1,by go_num,by omega,by omega,HN,hid (HW2.out.drewN nq)⟩
                       case measure =>
                        simp [Go.RowKit.intOf]
                        try omega
                     · have ht:(!Sort.ltInt (G j') (G a))=false:=by assumption
                       have HT2:=hid (show Sort.ltInt dk[j']! dk[a]! = true by rw [← HG.out,← HG.out];simpa using ht)
                       clear ht
                       have HT1:=hid (show Sort.ltInt dk[i']! dk[a]! = false from by
                        rcases ST.out with h | h
                        · omega
                        · exact h)
                       have hlt3:i'<j':=HI2.out.lt hle2 HT1.out HT2.out
                       have HSW:=hid (HI2.out.swap hlt3 HT1.out HT2.out)
                       have HW3:=hid (HW2.out.drewN nq)
                       clear hcw hfw HW2
                       generalize wr.drewN nq=W3 at HW3 ⊢
                       have hcw:∀ t,t<n→W3.cell? ⟨blk,off+t,none⟩=some (.int .u32 (G t)):=fun t ht=>by
                        rw [HG.out]
                        exact HW3.out.1.cell (by rw [HK.out];exact ht)
                       have hfw:∀ t,t<n→W3.frozen? ⟨blk,off+t,none⟩=false:=fun t _=>HW3.out.1.free t
                       have HSD:=hid fun q=>show Sd w blk off (Sort.swp dk i' j') (((W3.drewN q).setCell ⟨blk,off+i',none⟩ (.int .u32 (G j'))).setCell ⟨blk,off+j',none⟩ (.int .u32 (G i'))) from by
                        have h1:=(HW3.out.drewN q).swap (i:=i') (j:=j') (by rw [HK.out];omega) (by rw [HK.out];omega)
                        rw [← HG.out,← HG.out] at h1
                        exact h1
                       have hne3:i'≠j':=by omega
                       go_wp2
                       go_region
                       all_goals go_wp2
                       all_goals go_roundw
                       case rel=>exact⟨i'+1,j'-1,Sort.swp dk i' j',by go_num,by go_num,by omega,by omega,by omega,hid (by rw [Sort.swp_size];exact HK.out),HSW,hid (HSD.out 1)⟩
                       case measure =>
                        simp [Go.RowKit.intOf]
                        try omega
                   · go_wp2_with fail
                     go_quiet (first | (go_at_call 136;refine Calls.quiet_of_same (z1s _ _ _)))
                     have HW3:=hid (HW2.out.drewN nq)
                     have HPE:=hid (HI2.out.parted hle2)
                     clear hcw hfw HW2
                     generalize wr.drewN nq=W3 at HW3 ⊢
                     have hcw:∀ t,t<n→W3.cell? ⟨blk,off+t,none⟩=some (.int .u32 (G t)):=fun t ht=>by
                      rw [HG.out]
                      exact HW3.out.1.cell (by rw [HK.out];exact ht)
                     have hfw:∀ t,t<n→W3.frozen? ⟨blk,off+t,none⟩=false:=fun t _=>HW3.out.1.free t
                     have HSD:=hid fun q=>show Sd w blk off (Sort.swp dk j' a) (((W3.drewN q).setCell ⟨blk,off+j',none⟩ (.int .u32 (G a))).setCell ⟨blk,off+a,none⟩ (.int .u32 (G j'))) from by
                      have h1:=(HW3.out.drewN q).swap (i:=j') (j:=a) (by rw [HK.out];omega) (by rw [HK.out];omega)
                      rw [← HG.out,← HG.out] at h1
                      exact h1
                     go_wp2_with fail
                     by_cases hja:j'=a
                     · subst hja
                       go_region
                       all_goals go_wp2_with fail
                       go_ret2
                       exact⟨_,_,false,rfl,HPE.out,HSD.out 1⟩
                     · have hja2:a≠j':=fun e=>hja e.symm
                       go_region
                       all_goals go_wp2_with fail
                       go_ret2
                       exact⟨_,_,false,rfl,HPE.out,HSD.out 1⟩
              · go_wp2_with fail
                go_quiet (first | (go_at_call 136;refine Calls.quiet_of_same (z1s _ _ _)))
                go_wp2
                have ST:Hid (j<i'∨Sort.ltInt dk[i']! dk[a]! = false):=hid (.inl (by omega))
                have HWD:=hid (HW1.out.drewN nq)
                clear hcw hfw HW1
                go_loopw [11] (fun vj w2=>∃ j':Nat,vj=.int .i64 (j':Int)∧j'≤j∧i'≤j'+1∧Hid (PI Sort.ltInt a b d v i' j' dk)∧Hid (Sd w blk off dk w2)) (fun vj _=>(Go.RowKit.intOf vj).toNat)
                case atStart=>exact⟨j,rfl,Nat.le_refl _,hij',HI1,HWD⟩
                case round =>
                 obtain⟨j',rfl,hjj,hij2,HI2,HW2⟩:=hrel
                 clear HWD
                 have hcw:∀ t,t<n→wr.cell? ⟨blk,off+t,none⟩=some (.int .u32 (G t)):=fun t ht=>by
                  rw [HG.out]
                  exact HW2.out.1.cell (by rw [HK.out];exact ht)
                 have hfw:∀ t,t<n→wr.frozen? ⟨blk,off+t,none⟩=false:=fun t _=>HW2.out.1.free t
                 by_cases hle2:i'≤j'
                 · exact absurd hle2 (by omega)
                 · go_wp2_with fail
                   go_quiet (first | (go_at_call 136;refine Calls.quiet_of_same (z1s _ _ _)))
                   have HW3:=hid (HW2.out.drewN nq)
                   have HPE:=hid (HI2.out.parted hle2)
                   clear hcw hfw HW2
                   generalize wr.drewN nq=W3 at HW3 ⊢
                   have hcw:∀ t,t<n→W3.cell? ⟨blk,off+t,none⟩=some (.int .u32 (G t)):=fun t ht=>by
                    rw [HG.out]
                    exact HW3.out.1.cell (by rw [HK.out];exact ht)
                   have hfw:∀ t,t<n→W3.frozen? ⟨blk,off+t,none⟩=false:=fun t _=>HW3.out.1.free t
                   have HSD:=hid fun q=>show Sd w blk off (Sort.swp dk j' a) (((W3.drewN q).setCell ⟨blk,off+j',none⟩ (.int .u32 (G a))).setCell ⟨blk,off+a,none⟩ (.int .u32 (G j'))) from by
                    have h1:=(HW3.out.drewN q).swap (i:=j') (j:=a) (by rw [HK.out];omega) (by rw [HK.out];omega)
                    rw [← HG.out,← HG.out] at h1
                    exact h1
                   go_wp2_with fail
                   by_cases hja:j'=a
                   · subst hja
                     go_region
                     all_goals go_wp2_with fail
                     go_ret2
                     exact⟨_,_,false,rfl,HPE.out,HSD.out 1⟩
                   · have hja2:a≠j':=fun e=>hja e.symm
                     go_region
                     all_goals go_wp2_with fail
                     go_ret2
                     exact⟨_,_,false,rfl,HPE.out,HSD.out 1⟩
        · go_wp2_with fail
          go_quiet (first | (go_at_call 136;refine Calls.quiet_of_same (z1s _ _ _)))
          have HW3:=hid (HW2.out.drewN nq)
          have HPE:=hid (HI2.out.parted hle2)
          clear hcw hfw HW2
          generalize wr.drewN nq=W3 at HW3 ⊢
          have hcw:∀ t,t<n→W3.cell? ⟨blk,off+t,none⟩=some (.int .u32 (G t)):=fun t ht=>by
           rw [HG.out]
           exact HW3.out.1.cell (by rw [HK.out];exact ht)
          have hfw:∀ t,t<n→W3.frozen? ⟨blk,off+t,none⟩=false:=fun t _=>HW3.out.1.free t
          have HSD:=hid fun q=>show Sd w blk off (Sort.swp dk j' a) (((W3.drewN q).setCell ⟨blk,off+j',none⟩ (.int .u32 (G a))).setCell ⟨blk,off+a,none⟩ (.int .u32 (G j'))) from by
           have h1:=(HW3.out.drewN q).swap (i:=j') (j:=a) (by rw [HK.out];omega) (by rw [HK.out];omega)
           rw [← HG.out,← HG.out] at h1
           exact h1
          go_wp2_with fail
          by_cases hja:j'=a
          · subst hja
            go_region
            all_goals go_wp2_with fail
            go_ret2
            exact⟨_,_,true,rfl,HPE.out,HSD.out 1⟩
          · have hja2:a≠j':=fun e=>hja e.symm
            go_region
            all_goals go_wp2_with fail
            go_ret2
            exact⟨_,_,true,rfl,HPE.out,HSD.out 1⟩
   · go_wp2_with fail
     go_quiet (first | (go_at_call 136;refine Calls.quiet_of_same (z1s _ _ _)))
     go_wp2
     have ST:Hid (j<i'∨Sort.ltInt dk[i']! dk[a]! = false):=hid (.inl (by omega))
     have HWD:=hid (HW1.out.drewN nq)
     clear hcw hfw HW1
     go_loopw [11] (fun vj w2=>∃ j':Nat,vj=.int .i64 (j':Int)∧j'≤j∧i'≤j'+1∧Hid (PI Sort.ltInt a b d v i' j' dk)∧Hid (Sd w blk off dk w2)) (fun vj _=>(Go.RowKit.intOf vj).toNat)
     case atStart=>exact⟨j,rfl,Nat.le_refl _,hij',HI1,HWD⟩
     case round =>
      obtain⟨j',rfl,hjj,hij2,HI2,HW2⟩:=hrel
      clear HWD
      have hcw:∀ t,t<n→wr.cell? ⟨blk,off+t,none⟩=some (.int .u32 (G t)):=fun t ht=>by
       rw [HG.out]
       exact HW2.out.1.cell (by rw [HK.out];exact ht)
      have hfw:∀ t,t<n→wr.frozen? ⟨blk,off+t,none⟩=false:=fun t _=>HW2.out.1.free t
      by_cases hle2:i'≤j'
      · exact absurd hle2 (by omega)
      · go_wp2_with fail
        go_quiet (first | (go_at_call 136;refine Calls.quiet_of_same (z1s _ _ _)))
        have HW3:=hid (HW2.out.drewN nq)
        have HPE:=hid (HI2.out.parted hle2)
        clear hcw hfw HW2
        generalize wr.drewN nq=W3 at HW3 ⊢
        have hcw:∀ t,t<n→W3.cell? ⟨blk,off+t,none⟩=some (.int .u32 (G t)):=fun t ht=>by
         rw [HG.out]
         exact HW3.out.1.cell (by rw [HK.out];exact ht)
        have hfw:∀ t,t<n→W3.frozen? ⟨blk,off+t,none⟩=false:=fun t _=>HW3.out.1.free t
        have HSD:=hid fun q=>show Sd w blk off (Sort.swp dk j' a) (((W3.drewN q).setCell ⟨blk,off+j',none⟩ (.int .u32 (G a))).setCell ⟨blk,off+a,none⟩ (.int .u32 (G j'))) from by
         have h1:=(HW3.out.drewN q).swap (i:=j') (j:=a) (by rw [HK.out];omega) (by rw [HK.out];omega)
         rw [← HG.out,← HG.out] at h1
         exact h1
        go_wp2_with fail
        by_cases hja:j'=a
        · subst hja
          go_region
          all_goals go_wp2_with fail
          go_ret2
          exact⟨_,_,true,rfl,HPE.out,HSD.out 1⟩
        · have hja2:a≠j':=fun e=>hja e.symm
          go_region
          all_goals go_wp2_with fail
          go_ret2
          exact⟨_,_,true,rfl,HPE.out,HSD.out 1⟩
set_option maxRecDepth 100000 in
theorem partE_u (blk off cap a b pivot n:Nat) (d:Array Int) (w:World) (hH:HdU w blk off d) (hdn:d.size=n) (h1:a≤pivot) (h2:pivot<b) (hb:b≤n) (hsz:n≤1000000000) :
 Calls Tryz.prog 137 #[.slice (some ⟨blk,off,none⟩) n cap,.int .i64 a,.int .i64 b,.int .i64 pivot] w fun e w'=>∃ (mid:Nat) (d':Array Int),e=.returned (.int .i64 (mid:Int))∧z8i a b mid d[pivot]! d d'∧Sd w blk off d' w':=by
 have HS:=hid (Sd.refl hH)
 have HDN:=hid hdn
 obtain⟨dk,hdk⟩:∃ dk,dk=Sort.swp d a pivot:=⟨_,rfl⟩
 have HK:Hid (dk.size=n):=hid (by rw [hdk,Sort.swp_size];exact hdn)
 obtain⟨v,hv⟩:∃ v,v=d[pivot]!:=⟨_,rfl⟩
 (try rw [← hv])
 have HI0:Hid (PI geI a b d v (a+1) (b-1) dk):=hid (PI.start (by
  rw [hdk,hv,z9w (by omega) (by omega)]
  by_cases h:a=pivot
  · rw [if_pos h,h]
  · rw [if_neg h,if_pos rfl]) (by rw [hdk];exact z4p (Sort.permIn_refl _ _ _) (by omega) (Nat.le_refl _) (by omega) h1 h2) (by omega) (by rw [HK.out];exact hb))
 have HE:Hid (PI geI a b d v (a+1) (b-1) dk→Sort.PermIn a b d dk):=hid fun h=>h.perm
 obtain⟨G0,hG0⟩:∃ G0:Nat→Int,∀ t,G0 t=d[t]!:=⟨fun t=>d[t]!,fun _=>rfl⟩
 have hcw:∀ t,t<n→w.cell? ⟨blk,off+t,none⟩=some (.int .u32 (G0 t)):=fun t ht=>by
  rw [hG0]
  exact hH.cell (by rw [hdn];exact ht)
 have hfw:∀ t,t<n→w.frozen? ⟨blk,off+t,none⟩=false:=fun t _=>hH.free t
 have HSW0:=hid fun q=>show Sd w blk off dk (((w.drewN q).setCell ⟨blk,off+a,none⟩ (.int .u32 (G0 pivot))).setCell ⟨blk,off+pivot,none⟩ (.int .u32 (G0 a))) from by
  have h3:=(HS.out.drewN q).swap (i:=a) (j:=pivot) (by rw [hdn];omega) (by rw [hdn];omega)
  rw [← hG0,← hG0,← hdk] at h3
  exact h3
 clear hH hdn hG0 hdk hv
 go_enter Tryz.func137,Tryz.ntmps137
 go_wp2_with fail
 by_cases hpa:pivot=a
 all_goals
  go_region
  all_goals go_wp2_with fail
  go_loopw [9,10] (fun vi vj wr=>∃ (i j:Nat) (dk:Array Int),vi=.int .i64 (i:Int)∧vj=.int .i64 (j:Int)∧a<i∧i≤j+1∧j<b∧Hid (dk.size=n)∧Hid (PI geI a b d v i j dk)∧Hid (Sd w blk off dk wr)) (fun vi vj _=>(Go.RowKit.intOf vj).toNat+1-(Go.RowKit.intOf vi).toNat)
  case atStart =>
   refine⟨a+1,b-1,dk,by go_num,by go_num,by omega,by omega,by omega,HK,HI0,?_⟩
   (try rw [hpa] at HSW0)
   exact hid (HSW0.out 1)
  case round =>
   clear HSW0 HI0 HK hcw hfw
   obtain⟨i,j,dk,rfl,rfl,hai,hij,hjb,HK,HI,HW⟩:=hrel
   rename World=>W1
   obtain⟨G,hG⟩:∃ G:Nat→Int,∀ t,G t=dk[t]!:=⟨fun t=>dk[t]!,fun _=>rfl⟩
   have HG:=hid hG
   clear hG
   go_wp2_with fail
   go_loopw [9] (fun vi w1=>∃ i':Nat,vi=.int .i64 (i':Int)∧i≤i'∧i'≤j+1∧Hid (PI geI a b d v i' j dk)∧Hid (Sd w blk off dk w1)) (fun vi _=>j+1-(Go.RowKit.intOf vi).toNat)
   case atStart=>exact⟨i,rfl,Nat.le_refl _,hij,HI,HW⟩
   case round =>
    obtain⟨i',rfl,hii,hij',HI1,HW1⟩:=hrel
    clear HW HI
    have hcw:∀ t,t<n→wr.cell? ⟨blk,off+t,none⟩=some (.int .u32 (G t)):=fun t ht=>by
     rw [HG.out]
     exact HW1.out.1.cell (by rw [HK.out];exact ht)
    have hfw:∀ t,t<n→wr.frozen? ⟨blk,off+t,none⟩=false:=fun t _=>HW1.out.1.free t
    by_cases hle:i'≤j
    · go_wp2_with fail
      go_quiet (first | (go_at_call 136;refine Calls.quiet_of_same (z1s _ _ _)))
      go_wp2
      · have ht:(!Sort.ltInt (G a) (G i'))=true:=by assumption
        have HN:=hid (HI1.out.up hle (show (!Sort.ltInt dk[a]! dk[i']!)=true by rw [← HG.out,← HG.out];exact ht))
        clear ht
        go_roundw
        case rel=>exact⟨i'+1,by go_num,by omega,by omega,HN,hid (HW1.out.drewN nq)⟩
        case measure =>
         simp [Go.RowKit.intOf]
         try omega
      · have ht:(!Sort.ltInt (G a) (G i'))=false:=by assumption
        have ST:Hid (j<i'∨geI dk[i']! dk[a]! = false):=hid (.inr (show (!Sort.ltInt dk[a]! dk[i']!)=false by rw [← HG.out,← HG.out];exact ht))
        clear ht
        have HWD:=hid (HW1.out.drewN nq)
        clear hcw hfw HW1
        go_loopw [10] (fun vj w2=>∃ j':Nat,vj=.int .i64 (j':Int)∧j'≤j∧i'≤j'+1∧Hid (PI geI a b d v i' j' dk)∧Hid (Sd w blk off dk w2)) (fun vj _=>(Go.RowKit.intOf vj).toNat)
        case atStart=>exact⟨j,rfl,Nat.le_refl _,hij',HI1,HWD⟩
        case round =>
         obtain⟨j',rfl,hjj,hij2,HI2,HW2⟩:=hrel
         clear HWD
         have hcw:∀ t,t<n→wr.cell? ⟨blk,off+t,none⟩=some (.int .u32 (G t)):=fun t ht=>by
          rw [HG.out]
          exact HW2.out.1.cell (by rw [HK.out];exact ht)
         have hfw:∀ t,t<n→wr.frozen? ⟨blk,off+t,none⟩=false:=fun t _=>HW2.out.1.free t
         by_cases hle2:i'≤j'
         · go_wp2_with fail
           go_quiet (first | (go_at_call 136;refine Calls.quiet_of_same (z1s _ _ _)))
           go_wp2
           · have ht:Sort.ltInt (G a) (G j')=true:=by assumption
             have HN:=hid (HI2.out.down hle2 (show (!Sort.ltInt dk[a]! dk[j']!)=false by rw [← HG.out,← HG.out,ht];rfl))
             clear ht
             go_roundw
             case rel=>exact⟨j'-1,by go_num,by omega,by omega,HN,hid (HW2.out.drewN nq)⟩
             case measure =>
              simp [Go.RowKit.intOf]
              try omega
           · have ht:Sort.ltInt (G a) (G j')=false:=by assumption
             have HT2:=hid (show (!Sort.ltInt dk[a]! dk[j']!)=true by rw [← HG.out,← HG.out,ht];rfl)
             clear ht
             have HT1:=hid (show geI dk[i']! dk[a]! = false from by
              rcases ST.out with h | h
              · omega
              · exact h)
             have hlt3:i'<j':=HI2.out.lt hle2 HT1.out HT2.out
             have HSW:=hid (HI2.out.swap hlt3 HT1.out HT2.out)
             have HW3:=hid (HW2.out.drewN nq)
             clear hcw hfw HW2
             generalize wr.drewN nq=W3 at HW3 ⊢
             have hcw:∀ t,t<n→W3.cell? ⟨blk,off+t,none⟩=some (.int .u32 (G t)):=fun t ht=>by
              rw [HG.out]
              exact HW3.out.1.cell (by rw [HK.out];exact ht)
             have hfw:∀ t,t<n→W3.frozen? ⟨blk,off+t,none⟩=false:=fun t _=>HW3.out.1.free t
             have HSD:=hid fun q=>show Sd w blk off (Sort.swp dk i' j') (((W3.drewN q).setCell ⟨blk,off+i',none⟩ (.int .u32 (G j'))).setCell ⟨blk,off+j',none⟩ (.int .u32 (G i'))) from by
              have h1:=(HW3.out.drewN q).swap (i:=i') (j:=j') (by rw [HK.out];omega) (by rw [HK.out];omega)
              rw [← HG.out,← HG.out] at h1
              exact h1
             have hne3:i'≠j':=by omega
             go_wp2
             go_region
             all_goals go_wp2
             all_goals go_roundw
             case rel=>exact⟨i'+1,j'-1,Sort.swp dk i' j',by go_num,by go_num,by omega,by omega,by omega,hid (by rw [Sort.swp_size];exact HK.out),HSW,hid (HSD.out 1)⟩
             case measure =>
              simp [Go.RowKit.intOf]
              try omega
         · go_wp2_with fail
           go_quiet (first | (go_at_call 136;refine Calls.quiet_of_same (z1s _ _ _)))
           have HW3:=hid (HW2.out.drewN nq)
           have HPE:=hid (HI2.out.partedE hle2)
           clear hcw hfw HW2
           generalize wr.drewN nq=W3 at HW3 ⊢
           go_wp2
           go_ret
           exact⟨i',dk,rfl,HPE.out,HW3.out⟩
    · go_wp2_with fail
      go_quiet (first | (go_at_call 136;refine Calls.quiet_of_same (z1s _ _ _)))
      go_wp2
      have ST:Hid (j<i'∨geI dk[i']! dk[a]! = false):=hid (.inl (by omega))
      have HWD:=hid (HW1.out.drewN nq)
      clear hcw hfw HW1
      go_loopw [10] (fun vj w2=>∃ j':Nat,vj=.int .i64 (j':Int)∧j'≤j∧i'≤j'+1∧Hid (PI geI a b d v i' j' dk)∧Hid (Sd w blk off dk w2)) (fun vj _=>(Go.RowKit.intOf vj).toNat)
      case atStart=>exact⟨j,rfl,Nat.le_refl _,hij',HI1,HWD⟩
      case round =>
       obtain⟨j',rfl,hjj,hij2,HI2,HW2⟩:=hrel
       clear HWD
       have hcw:∀ t,t<n→wr.cell? ⟨blk,off+t,none⟩=some (.int .u32 (G t)):=fun t ht=>by
        rw [HG.out]
        exact HW2.out.1.cell (by rw [HK.out];exact ht)
       have hfw:∀ t,t<n→wr.frozen? ⟨blk,off+t,none⟩=false:=fun t _=>HW2.out.1.free t
       by_cases hle2:i'≤j'
       · exact absurd hle2 (by omega)
       · go_wp2_with fail
         go_quiet (first | (go_at_call 136;refine Calls.quiet_of_same (z1s _ _ _)))
         have HW3:=hid (HW2.out.drewN nq)
         have HPE:=hid (HI2.out.partedE hle2)
         clear hcw hfw HW2
         generalize wr.drewN nq=W3 at HW3 ⊢
         go_wp2
         go_ret
         exact⟨i',dk,rfl,HPE.out,HW3.out⟩
end Go.Proofs.YtnpjpelbcmgodaaGreatDoor
