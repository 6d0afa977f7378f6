import Derived.Test.YtnpjpelbcmgodaaGreatDoorPA06
import Derived.Sort.LotA
import Derived.Sort.Row
import Derived.CellFam
namespace Go.Proofs.YtnpjpelbcmgodaaGreatDoor
open Go.Lib (hid)
set_option maxHeartbeats 8000000
open Go.RowKit Go.ChangeShapes Go.WideShapes
set_option linter.unusedVariables false
set_option linter.unusedSimpArgs false
set_option maxRecDepth 10000
def HdU (w:World) (blk off:Nat) (d:Array Int):Prop:=∃ cur,w.heap[blk]?=some (.cells cur 32 (0,0))∧∀ t,t<d.size→cur[off+t]?=some (.int .u32 d[t]!)
theorem HdU.cell {w:World} {blk off:Nat} {d:Array Int} (h:HdU w blk off d) {t:Nat} (ht:t<d.size):w.cell? ⟨blk,off+t,none⟩=some (.int .u32 d[t]!):=by
 obtain⟨cur,h1,h2⟩:=h
 exact z0a h1 (h2 t ht)
theorem HdU.free {w:World} {blk off:Nat} {d:Array Int} (h:HdU w blk off d) (t:Nat):w.frozen? ⟨blk,off+t,none⟩=false:=by
 obtain⟨cur,h1,h2⟩:=h
 exact z0m _ h1
theorem HdU.lt {w:World} {blk off:Nat} {d:Array Int} (h:HdU w blk off d):blk<w.heap.size:=by
 obtain⟨cur,h1,h2⟩:=h
 exact z0k h1
theorem HdU.turn {w w':World} {blk off:Nat} {d:Array Int} {S:Nat→Prop} (h:HdU w blk off d) (hc:Turn S w w') (hn:¬ S blk):HdU w' blk off d:=by
 obtain⟨cur,h1,h2⟩:=h
 exact⟨cur,(hc.block blk (z0k h1) hn).trans h1,h2⟩
theorem HdU.swap {w:World} {blk off:Nat} {d:Array Int} (h:HdU w blk off d) {i j:Nat} (hi:i<d.size) (hj:j<d.size) :
 HdU ((w.setCell ⟨blk,off+i,none⟩ (.int .u32 d[j]!)).setCell ⟨blk,off+j,none⟩ (.int .u32 d[i]!)) blk off (Sort.swp d i j):=by
 obtain⟨cur,h1,h2⟩:=h
 refine⟨_,z0p (off+j) _ (z0p (off+i) _ h1),fun t ht=>?_⟩
 rw [Sort.swp_size] at ht
 have hlen:∀ t,t<d.size→off+t<cur.size:=fun t ht=>(Array.getElem?_eq_some_iff.1 (h2 t ht)).1
 have e:(Sort.swp d i j)[t]! = if t=j then d[i]! else if t=i then d[j]! else d[t]!:=by
  unfold Sort.swp
  by_cases hj':t=j
  · subst hj'
    rw [if_pos rfl,Sort.getElem!_set_same _ _ _ (by simpa using hj)]
  · rw [if_neg hj',Sort.getElem!_set_other _ _ _ _ hj']
    by_cases hi':t=i
    · subst hi'
      rw [if_pos rfl,Sort.getElem!_set_same _ _ _ hi]
    · rw [if_neg hi',Sort.getElem!_set_other _ _ _ _ hi']
 rw [e,Array.getElem?_setIfInBounds,Array.getElem?_setIfInBounds]
 by_cases hj':t=j
 · subst hj'
   rw [if_pos rfl,if_pos rfl,if_pos (by simpa using hlen t ht)]
 · rw [if_neg hj',if_neg (by omega)]
   by_cases hi':t=i
   · subst hi'
     rw [if_pos rfl,if_pos rfl,if_pos (hlen t ht)]
   · rw [if_neg hi',if_neg (by omega)]
     exact h2 t ht
theorem turn_two (w:World) (blk a b:Nat) (u v:Value):Turn (fun k=>k=blk) w ((w.setCell ⟨blk,a,none⟩ u).setCell ⟨blk,b,none⟩ v):=by
 have h:=((Chg.refl (fun k=>k=blk) w).setCell ⟨blk,a,none⟩ u fun _=>rfl).setCell ⟨blk,b,none⟩ v fun _=>rfl
 exact⟨h.os,h.tape,h.output,h.size,h.block⟩
def Sd (w:World) (blk off:Nat) (d:Array Int) (w':World):Prop:=HdU w' blk off d∧Turn (fun k=>k=blk) w w'
theorem Sd.refl {w:World} {blk off:Nat} {d:Array Int} (h:HdU w blk off d):Sd w blk off d w:=⟨h,Turn.refl _ _⟩
theorem Sd.drewN {w w':World} {blk off:Nat} {d:Array Int} (h:Sd w blk off d w') (q:Nat):Sd w blk off d (w'.drewN q):=⟨h.1,h.2.os,h.2.tape,h.2.output,h.2.size,h.2.block⟩
theorem Sd.trans {w w' w'':World} {blk off:Nat} {d d':Array Int} (h:Sd w blk off d w') (g:Sd w' blk off d' w''):Sd w blk off d' w'':=⟨g.1,h.2.trans g.2 fun _ _ h=>h⟩
theorem Sd.swap {w w':World} {blk off:Nat} {d:Array Int} (h:Sd w blk off d w') {i j:Nat} (hi:i<d.size) (hj:j<d.size):Sd w blk off (Sort.swp d i j) ((w'.setCell ⟨blk,off+i,none⟩ (.int .u32 d[j]!)).setCell ⟨blk,off+j,none⟩ (.int .u32 d[i]!)) :=
 ⟨h.1.swap hi hj,h.2.trans (turn_two w' blk _ _ _ _) fun _ _ h=>h⟩
theorem nan_u (x:Int) (W:World):Calls Tryz.prog 162 #[.int .u32 x] W fun e w'=>e=.returned (.bool false)∧w'=W:=by
 go_enter Tryz.func162,Tryz.ntmps162
 go_wp2_with fail
 go_ret
 exact⟨by simp,rfl⟩
theorem z1s (x y:Int) (W:World):Calls Tryz.prog 136 #[.int .u32 x,.int .u32 y] W fun e w'=>e=.returned (.bool (Sort.ltInt x y))∧w'=W:=by
 go_enter Tryz.func136,Tryz.ntmps136
 go_wp2_with fail
 refine (nan_u x W).mono ?_
 rintro e w' ⟨rfl,hw⟩
 subst hw
 go_wp2_with fail
 go_ret
 exact⟨rfl,rfl⟩
theorem ins_go (a j:Nat) (d:Array Int) (hj:a<j) (hl:Sort.ltInt d[j]! d[j-1]! = true):Sort.insInner Sort.ltInt a j d=Sort.insInner Sort.ltInt a (j-1) (Sort.swp d j (j-1)):=by
 obtain⟨k,rfl⟩:∃ k,j=k+1:=⟨j-1,by omega⟩
 simp only [Nat.add_sub_cancel] at hl ⊢
 conv=>lhs;rw [Sort.insInner]
 simp [hj,hl]
theorem ins_stop (a j:Nat) (d:Array Int) (h:j≤a∨Sort.ltInt d[j]! d[j-1]! = false):Sort.insInner Sort.ltInt a j d=d:=by
 cases j with
 | zero=>rw [Sort.insInner]
 | succ k =>
  rw [Sort.insInner]
  simp only [Nat.add_sub_cancel] at h
  rcases h with h | h
  · have:¬ a<k+1:=by omega
    simp [this]
  · simp [h]
theorem out_go (a b i:Nat) (d:Array Int) (h:i<b):Sort.insOuter Sort.ltInt a b i d=Sort.insOuter Sort.ltInt a b (i+1) (Sort.insInner Sort.ltInt a i d):=by
 conv=>lhs;rw [Sort.insOuter]
 rw [if_pos h]
theorem out_stop (a b i:Nat) (d:Array Int) (h:¬ i<b):Sort.insOuter Sort.ltInt a b i d=d:=by rw [Sort.insOuter,if_neg h]
set_option maxRecDepth 100000 in
theorem insertion_u (blk off cap a b n:Nat) (d:Array Int) (w:World) (hH:HdU w blk off d) (hdn:d.size=n) (hab:a≤b) (hb:b≤n) (hsz:n≤1000000000) :
 Calls Tryz.prog 130 #[.slice (some ⟨blk,off,none⟩) n cap,.int .i64 a,.int .i64 b] w fun e w'=>e=.returned (.tuple #[])∧Sd w blk off (Sort.insertionSort Sort.ltInt d a b) w':=by
 have HS:=hid (Sd.refl hH)
 have HDN:=hid hdn
 clear hH hdn
 go_enter Tryz.func130,Tryz.ntmps130
 go_wp2_with fail
 go_loopw [6] (fun vi wr=>∃ (i:Nat) (dk:Array Int),vi=.int .i64 (i:Int)∧a<i∧i≤b+1∧Hid (dk.size=n)∧Hid (Sd w blk off dk wr) ∧
  Hid (Sort.insOuter Sort.ltInt a b i dk=Sort.insOuter Sort.ltInt a b (a+1) d)) (fun vi _=>b+1-(Go.RowKit.intOf vi).toNat)
 case atStart=>exact⟨a+1,d,by go_num,by omega,by omega,HDN,HS,hid rfl⟩
 case round =>
  obtain⟨i,dk,rfl,hai,hib,HK,HW,HO⟩:=hrel
  by_cases hlt:i<b
  · have hlt':(i:Int)<b:=by omega
    go_wp2_with fail
    go_loopw [7] (fun vj wr2=>∃ (j:Nat) (dj:Array Int),vj=.int .i64 (j:Int)∧a≤j∧j≤i∧Hid (dj.size=n)∧Hid (Sd w blk off dj wr2) ∧
     Hid (Sort.insInner Sort.ltInt a j dj=Sort.insInner Sort.ltInt a i dk)) (fun vj _=>(Go.RowKit.intOf vj).toNat)
    case atStart=>exact⟨i,dk,rfl,by omega,Nat.le_refl _,HK,HW,hid rfl⟩
    case round =>
     obtain⟨j,dj,rfl,haj,hji,HJ,HW2,HI⟩:=hrel
     obtain⟨G,hG⟩:∃ G:Nat→Int,∀ t,G t=dj[t]!:=⟨fun t=>dj[t]!,fun _=>rfl⟩
     have hcw:∀ t,t<n→wr.cell? ⟨blk,off+t,none⟩=some (.int .u32 (G t)):=fun t ht=>by
      rw [hG]
      exact HW2.out.1.cell (by rw [HJ.out];exact ht)
     have hfw:∀ t,t<n→wr.frozen? ⟨blk,off+t,none⟩=false:=fun t _=>HW2.out.1.free t
     have HG:=hid hG
     clear hG
     go_wp2
     by_cases hja:a<j
     · have hja':(a:Int)<j:=by omega
       have HJA:=hid hja
       have OUT:Hid (Sort.ltInt (G j) (G (j-1))=false→∀ q,∃ (i':Nat) (dk':Array Int),Value.int .i64 ((i:Int)+1)=.int .i64 (i':Int)∧a<i'∧i'≤b+1∧Hid (dk'.size=n)∧Hid (Sd w blk off dk' (wr.drewN q))∧Hid (Sort.insOuter Sort.ltInt a b i' dk'=Sort.insOuter Sort.ltInt a b (a+1) d)):=hid fun hl q =>
        ⟨i+1,dj,by go_num,by omega,by omega,HJ,hid (HW2.out.drewN q),hid (by rw [← HO.out,out_go _ _ _ _ hlt,← HI.out,ins_stop _ _ _ (.inr (by rw [← HG.out,← HG.out];exact hl))])⟩
       go_quiet (first | (go_at_call 136;refine Calls.quiet_of_same (z1s _ _ _)))
       go_wp2
       · have hl:Sort.ltInt (G j) (G (j-1))=true:=by assumption
         have HL:=hid hl
         clear hl
         go_region
         all_goals go_wp2
         go_roundw
         case rel =>
          refine⟨j-1,Sort.swp dj j (j-1),by congr 1;omega,by omega,by omega,hid (by rw [Sort.swp_size];exact HJ.out),hid ?_,hid ?_⟩
          · have h1:=(HW2.out.drewN (nq+1)).swap (i:=j) (j:=j-1) (by rw [HJ.out];omega) (by rw [HJ.out];omega)
            rw [← HG.out,← HG.out] at h1
            exact h1
          · rw [← HI.out,ins_go a j dj HJA.out (by rw [← HG.out,← HG.out];exact HL.out)]
         case measure =>
          simp [Go.RowKit.intOf]
          omega
       · have hl:Sort.ltInt (G j) (G (j-1))=false:=by assumption
         go_roundw
         case rel=>exact OUT.out hl nq
         case measure =>
          simp [Go.RowKit.intOf]
          omega
     · have hja':¬ (a:Int)<j:=by omega
       go_quiet (first | (go_at_call 136;refine Calls.quiet_of_same (z1s _ _ _)))
       go_wp2
       go_roundw
       case rel=>exact⟨i+1,dj,by go_num,by omega,by omega,HJ,hid (HW2.out.drewN nq),hid (by rw [← HO.out,out_go _ _ _ _ hlt,← HI.out,ins_stop _ _ _ (.inl (by omega))])⟩
       case measure =>
        simp [Go.RowKit.intOf]
        omega
  · have hge:¬ (i:Int)<b:=by omega
    go_wp2_with fail
    go_end0
    exact⟨rfl,by unfold Sort.insertionSort;rw [← HO.out,out_stop _ _ _ _ hlt];exact HW.out⟩
end Go.Proofs.YtnpjpelbcmgodaaGreatDoor
