import Derived.Test.YtfdgnniicjdjdaaGreatDoorPS46
import Derived.Test.YtfdgnniicjdjdaaGreatDoorPS42
import Derived.Test.YtfdgnniicjdjdaaGreatDoorPS45
namespace Go.Proofs.YtfdgnniicjdjdaaGreatDoor
open Go.Lib (hid)
set_option maxHeartbeats 4000000
open Go.RowKit Go.ChangeShapes Go.WideShapes
set_option linter.unusedVariables false
set_option linter.unusedSimpArgs false
set_option maxRecDepth 10000
section
variable {ops:Array Oper} {rest:List Oper} {a:Act} {w:World} {Q:Exit→Act→World→Prop} {dst:Option Tmp} {ty:TypeId} {pos:String} {after:Array Edge}
theorem wpList_build_e {parts:Array (Nat × Operand)} {x y:Operand} {v:Int} {r:Rv} (hp:parts=#[(0,x),(1,y)]) (hx:a.eval x=.int .i64 v) (hy:a.eval y=.agg (rcs r))
 (h:wpList Tryz.prog ops Q rest (a.put dst (.agg (ecs (v,r)))) w):wpList Tryz.prog ops Q (Oper.mk dst (.build 85 parts) ty pos after none::rest) a w:=by
 refine wpList_plain rfl fun K hK=>?_
 subst hp
 have hb:(Instr.build 85 #[(0,.int .i64 v),(1,.agg (rcs r))]).run Tryz.prog w=.ok (.agg (ecs (v,r))) w:=by kernel_rfl
 unfold Oper.wp execOp
 simp [hx,hy,hb,Result.andThen,Sem.run_bind]
 exact hK _ _ h
theorem wpList_slice_e {parts:Array (Nat × Operand)} {x:Operand} {h':Eh} (hp:parts=#[(0,x)]) (hx:a.eval x=.agg (ecs h'))
 (h:wpList Tryz.prog ops Q rest (a.put dst (.slice (some ⟨w.heap.size,0,none⟩) 1 1)) (w.alloc (.cells (ecs h') 85))):wpList Tryz.prog ops Q (Oper.mk dst (.buildSlice 74 1 parts) ty pos after none::rest) a w:=by
 refine wpList_plain rfl fun K hK=>?_
 subst hp
 have hb:=run_slice_e h' w
 unfold Oper.wp execOp
 simp [hx,hb,Result.andThen,Sem.run_bind]
 exact hK _ _ h
end
theorem FE.givesSc {lo a i:Nat} {W w:World} {B:List Nat} {v:Value} {H:List Eh} {out:List (Nat × Rx)} {er z:Int} (h:FE lo w v H (offE a out)) (hs:z4x B=(out,i,er)) (hb:Below W.heap.size W w) (hz:((a+i:Nat):Int)=z):q0y W a B (.returned (.tuple #[v,.int .i64 z,.int .i64 er])) w:=by
 obtain⟨p,c,rfl,hel⟩:=h.el
 rw [z6o] at hel
 refine⟨p,c,H,?_,?_,hb⟩
 · rw [hs,z6o,← hz]
 · rw [hs]
   exact hel
theorem rwal_scan (p:Option Addr) (n c:Nat) (B:List Nat) (a:Nat) (w:World) (hw:Words w) (hS:Sl w p n c B) (hc:c≤maxLen) (hn:n≤100000) (ha:a≤4000000000000000) :
 Calls Tryz.prog 31 #[.slice p n c,.int .i64 (a:Nat)] w (q0y w a B):=by
 have HS:=hid hS
 have hl:=hS.len
 have hcap:=hS.cap
 have hc0:=hc
 have HWD:=hid hw
 have HNIL:Hid (FE w.heap.size w (.slice none 0 0) [] (offE a [])):=hid (FE.nil _ w)
 have HSC:=hid (Sx.start B)
 unfold maxLen at hc
 clear hS hw
 go_enter Tryz.func31,Tryz.ntmps31
 go_wp2_with fail
 go_loopw [7,8] (fun v i wr=>∃ (j m cv:Nat) (pv:Option Addr) (H:List Eh) (out:List (Nat × Rx)),v=.slice pv m cv∧i=.int .i64 (j:Nat)∧j≤n∧Hid (H.length=m)∧Hid (Sx B out j)∧Hid (FE w.heap.size wr (.slice pv m cv) H (offE a out))∧Hid (Below w.heap.size w wr)) (fun _ i _=>n-(intOf i).toNat)
 case atStart=>exact⟨0,0,0,none,[],[],rfl,rfl,Nat.zero_le _,hid rfl,HSC,HNIL,hid (Below.refl _ _)⟩
 case round =>
  obtain⟨j,m,cv,pv,H,out,rfl,rfl,hj,HM,HJ,HF,HB⟩:=hrel
  by_cases hlt:j<n
  · obtain⟨b,off,hp,hbl,_⟩:=HS.out.blk (by omega)
    subst hp
    have HD:Hid (Sl wr (some ⟨b,off+j,none⟩) (n-j) (c-j) (B.drop j)):=hid (by
     have:=q1c (HS.out.later HB.out) j (n-j) (by omega)
     rwa [List.take_of_length_le (by rw [List.length_drop];omega)] at this)
    have HN:Hid (Calls Tryz.prog 75 #[.slice (some ⟨b,off+j,none⟩) (n-j) (c-j)] wr (q0b wr (some ⟨b,off+j,none⟩) (q1e (B.drop j)) (z9l (B.drop j)) (nE (B.drop j)))):=hid (rnext_any _ _ _ (B.drop j) wr HD.out (by omega) (by omega))
    clear HD
    by_cases he:nE (B.drop j)=0
    · have hz:=z7c he
      rw [List.length_drop] at hz
      have hd:=q1p he
      rw [hd.1,hd.2,he] at HN
      have HPL:=hid (q1x he)
      have HST:=hid (HJ.out.step he)
      have HFM:=hid (fun h=>HJ.out.form (by omega) he h:(decX (nP (B.drop j))).1≠0→z4x B=(out,j,8))
      clear hd he
      generalize nN (B.drop j)=k at *
      generalize nP (B.drop j)=P at *
      go_wp2_with fail
      refine HN.out.mono ?_
      rintro e w1 ⟨p1,c1,rfl,hs1,hb1,hm1,hq1⟩
      have HB1:=hid (HB.out.trans (hb1.mono HB.out.size))
      have HF1:=hid (HF.out.later hb1)
      have hdc:=rrec_decode p1 P.length c1 P w1 (HWD.out.later HB1.out) hs1 hm1
      have HL1:Hid (wr.heap.size≤w1.heap.size):=hid hb1.size
      generalize P.length=pl at *
      clear hs1 hb1 hq1 HN
      go_wp2_with fail
      refine hdc.mono ?_
      rintro e w2 ⟨r,L,T,M,rfl,hx,hm,hb2,hnw⟩
      have HX:=hid hx
      obtain⟨N2,hN2⟩:∃ k,w2.heap.size=k:=⟨_,rfl⟩
      obtain⟨w3,hwn,hxn,hbn⟩:∃ w3,(w2.alloc (.cells zr 51)).setRow N2 (rcs r)=w3∧RB w3 N2 r∧Below w2.heap.size w2 w3:=⟨_,rfl,by rw [← hN2];exact setRow_heap _ _ _ _ _ _ (z0b w2 _),below_setRow ((Below.refl _ _).alloc (Nat.le_refl _) _) (by omega) _⟩
      have hxz:RB (w2.alloc (.cells zr 51)) N2 rz:=by rw [← hN2];exact z0b w2 _
      have hb23:Below w1.heap.size w1 w3:=hb2.trans (hbn.mono hb2.size)
      have HX3:=hid hxn
      have HXZ:=hid hxz
      have HWN:=hid hwn
      have HNN:=hid hN2
      have HB3:=hid (HB1.out.trans (hb23.mono HB1.out.size))
      have HF3:=hid (HF1.out.later hb23)
      have HM3:=hid (hm.later hbn)
      have HNW:=hid hnw
      have HW1:Hid (w.heap.size≤w1.heap.size):=hid HB1.out.size
      have HOW:Hid (∀ b,(Value.slice pv m cv).ownBlock=some b→b<wr.heap.size):=hid fun b hb=>(HF.out.own.lt b hb).2
      clear hx hm hb2 hnw hwn hxn hbn hxz hN2 hb23 hdc HB1 HF1 HF
      by_cases hd0:(decX P).1=0
      · rw [hd0]
        have hst:=HST.out hd0
        rw [← HX.out] at hst
        have HSS:=hid hst
        have hb5:Below w3.heap.size w3 (w3.alloc (.cells (ecs (((a+j:Nat):Int),r)) 85)):=(Below.refl _ _).alloc (Nat.le_refl _) _
        have HNB:=hid (z0b w3 (.cells (ecs (((a+j:Nat):Int),r)) 85))
        have HF5:=hid (HF3.out.later hb5)
        have HT5:Hid (TellsE (w3.alloc (.cells (ecs (((a+j:Nat):Int),r)) 85)) (((a+j:Nat):Int),r) (((a+j:Nat):Int),r.x L T M)):=hid ⟨rfl,L,T,M,rfl,HM3.out.later hb5⟩
        have HAP:Hid (∀ b,Lb r b→(Value.slice pv m cv).ownBlock≠some b):=hid fun b hb e=>by
         have h1:=HNW.out.lb hb
         have h2:=HOW.out b e
         have h3:=HL1.out
         omega
        have HLW:Hid (∀ b,Lb r b→w.heap.size≤b):=hid fun b hb=>Nat.le_trans HW1.out (HNW.out.lb hb)
        have HBG:Hid (H.length+1≤1000000):=hid (by
         have h1:=HJ.out.few
         have h2:=HF3.out.tells.len
         rw [z6o] at h2
         omega)
        have HB5:=hid (HB3.out.trans (hb5.mono HB3.out.size))
        have HN5:=hid HB5.out.size
        have HAJ:Hid (((a+j:Nat):Int)=(a:Int)+(j:Int)):=hid (by omega)
        clear hd0 hst hb5 HST HFM
        go_wp2_with (first | ((try rw [HNN.out]);(with_reducible refine z0e r HXZ.out ?_ ?_ ?_);rfl;rfl;rw [HWN.out]) | ((with_reducible refine z0q HX3.out ?_ ?_);rfl) | ((with_reducible refine wpList_build_e (v:=((a+j:Nat):Int)) (r:=r) rfl ?_ ?_ ?_);rfl;rfl) | ((with_reducible refine wpList_slice_e (h':=(((a+j:Nat):Int),r)) rfl ?_ ?_);rfl) | ((with_reducible refine wpList_append_e rfl _ _ rfl _ H _ ?_ HF5.out w3.heap.size (((a+j:Nat):Int),r) (((a+j:Nat):Int),r.x L T M) ?_ HNB.out HT5.out HAP.out HLW.out HN5.out HBG.out ?_);rfl;rfl;intro p' c' w6 hfe hchg hlo hnw;rw [HM.out] at hfe ⊢;have HF6:=hid hfe;have HB6:=hid (hchg.below HB5.out HB5.out.size hlo);clear hfe hchg hlo hnw))
        go_roundw
        case rel =>
         refine⟨j+(6+k),m+1,c',p',H ++ [(((a+j:Nat):Int),r)],out ++ [(j,r.x L T M)],rfl,by go_num,by omega,hid (by rw [List.length_append,HM.out,List.length_singleton]),HSS,hid ?_,HB6⟩
         rw [offE_snoc]
         exact HF6.out
        case measure=>simp [intOf];omega
      · have HS8:=hid (HFM.out hd0)
        generalize (decX P).1=de at *
        have d1:(de != 0)=true:=by simpa using hd0
        clear hd0 HST HFM
        go_wp2_with ((try rw [HNN.out]);(with_reducible refine z0e r HXZ.out ?_ ?_ ?_);rfl;rfl;rw [HWN.out])
        go_ret3
        exact HF3.out.givesSc HS8.out HB3.out (by omega)
    · have hw:=HJ.out.wrong (by omega) he
      have hd:=z4o he
      rw [hd.1,hd.2] at HN
      have HW:=hid hw
      have he1:(nE (B.drop j) != 0)=true:=by simpa using he
      clear hw hd HJ he
      generalize nE (B.drop j)=x at *
      go_wp2_with fail
      refine HN.out.mono ?_
      rintro e w1 ⟨p1,c1,rfl,_,hb1,_,_⟩
      have HB1:=hid (HB.out.trans (hb1.mono HB.out.size))
      have HF1:=hid (HF.out.later hb1)
      clear hb1
      go_wp2_with fail
      go_ret3
      exact HF1.out.givesSc HW.out HB1.out (by omega)
  · obtain rfl:j=n:=by omega
    have hsc:z4x B=(out,j,0):=HJ.out.done (by omega)
    have HS0:=hid hsc
    clear hsc
    go_wp2_with fail
    go_ret3
    exact HF.out.givesSc HS0.out HB.out (by omega)
def Byt (L:List Nat):Prop:=∀ x∈L,x<256
theorem good_lists3 {X:Rx} (h:z1f X=true):X.pg.lines.length≤3∧X.pg.takes.length≤12∧X.pg.owes.length≤3:=by
 have hp:=z8j h
 unfold z7y at hp
 split at hp
 · exact z8i hp
 · have:X.pg=noP:=by simpa using hp
   rw [this]
   exact⟨Nat.zero_le _,Nat.zero_le _,Nat.zero_le _⟩
end Go.Proofs.YtfdgnniicjdjdaaGreatDoor
