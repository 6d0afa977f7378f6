import Derived.Test.YtfdgnniicjdjdaaGreatDoorPS12
import Derived.Test.YtfdgnniicjdjdaaGreatDoorPS14
namespace Go.Proofs.YtfdgnniicjdjdaaGreatDoor
open Go.RowKit Go.ChangeShapes Go.WideShapes
set_option linter.unusedVariables false
set_option maxRecDepth 10000
set_option linter.unusedSimpArgs false
theorem Chg.undrew {S:Nat→Prop} {a w:World} {q:Nat} (h:Chg S (a.drewN q) w):Chg S a w:=⟨h.os,h.tape,h.output,h.size,h.block⟩
def So (z:Nat→Nat × Nat) (f s:Nat) (B:List Int) (x:Int):Option Sv :=
 if (f:Int)≤x∧(x.toNat-f)*s<B.length then some (some ⟨(z x.toNat).1,0,none⟩,(sgD s B (x.toNat-f)).length,(z x.toNat).2) else none
theorem z4f (z:Nat→Nat × Nat) (f s:Nat) (B:List Int) (i:Nat):So z f s B ((f+i:Nat):Int)=if i*s<B.length then some (some ⟨(z (f+i)).1,0,none⟩,(sgD s B i).length,(z (f+i)).2) else none:=by
 unfold So
 have e1:((f+i:Nat):Int).toNat=f+i:=by omega
 have e2:f+i-f=i:=by omega
 rw [e1,e2]
 by_cases h:i*s<B.length
 · rw [if_pos ⟨by omega,h⟩,if_pos h]
 · rw [if_neg (fun e=>h e.2),if_neg h]
theorem z5u (z:Nat→Nat × Nat) (f s:Nat) (B:List Int) {x:Int} (h:x<f):So z f s B x=none:=if_neg fun e=>by omega
theorem z5b (f:Nat) (x:Int):x<f∨∃ i:Nat,x=((f+i:Nat):Int):=by
 rcases Int.lt_or_le x f with h | h
 · exact .inl h
 · exact .inr ⟨(x-f).toNat,by omega⟩
structure Seg (w:World) (Q:Nat→Prop) (z:Nat→Nat × Nat) (f s:Nat) (B:List Int):Prop where
 row:∀ i,i*s<B.length→Q (z (f+i)).1∧RowB w (.slice (some ⟨(z (f+i)).1,0,none⟩) (sgD s B i).length (z (f+i)).2) (sgD s B i).length (sgD s B i)
 apart:∀ i j,i*s<B.length→j*s<B.length→i≠j→(z (f+i)).1≠(z (f+j)).1
theorem Seg.lt {w:World} {Q:Nat→Prop} {z:Nat→Nat × Nat} {f s:Nat} {B:List Int} (h:Seg w Q z f s B) {i:Nat} (hi:i*s<B.length):(z (f+i)).1<w.heap.size:=(h.row i hi).2.bound _ rfl
theorem Seg.keep {w w':World} {Q S:Nat→Prop} {z:Nat→Nat × Nat} {f s:Nat} {B:List Int} (h:Seg w Q z f s B) (hc:Chg S w w') (hs:∀ i,i*s<B.length→¬ S (z (f+i)).1):Seg w' Q z f s B :=
 ⟨fun i hi=>⟨(h.row i hi).1,(h.row i hi).2.keep hc fun k hk=>by cases hk;exact hs i hi⟩,h.apart⟩
theorem Seg.mono {w:World} {Q T:Nat→Prop} {z:Nat→Nat × Nat} {f s:Nat} {B:List Int} (h:Seg w Q z f s B) (hs:∀ k,Q k→k<w.heap.size→T k):Seg w T z f s B :=
 ⟨fun i hi=>⟨hs _ (h.row i hi).1 (h.lt hi),(h.row i hi).2⟩,h.apart⟩
theorem Seg.zero (w:World) (Q:Nat→Prop) (z:Nat→Nat × Nat) (f s:Nat):Seg w Q z f s []:=⟨fun i hi=>by simp at hi,fun i j hi=>by simp at hi⟩
def Sm (w:World) (Q:Nat→Prop) (b f s:Nat) (B:List Int):Prop:=Q b∧∃ z D,MapB w b (nSD s B.length) D∧Tm D (So z f s B) (nSD s B.length)∧Seg w Q z f s B
theorem Sm.keep {w w':World} {Q S:Nat→Prop} {b f s:Nat} {B:List Int} (h:Sm w Q b f s B) (hc:Chg S w w') (hs:∀ k,Q k→¬ S k):Sm w' Q b f s B:=by
 obtain⟨h1,z,D,h2,h3,h4⟩:=h
 exact⟨h1,z,D,h2.turn hc (hs b h1),h3,h4.keep hc fun i hi=>hs _ (h4.row i hi).1⟩
theorem Sm.mono {w:World} {Q T:Nat→Prop} {b f s:Nat} {B:List Int} (h:Sm w Q b f s B) (hs:∀ k,Q k→k<w.heap.size→T k):Sm w T b f s B:=by
 obtain⟨h1,z,D,h2,h3,h4⟩:=h
 exact⟨hs b h1 h2.lt,z,D,h2,h3,h4.mono hs⟩
theorem Sm.put {w:World} {Q:Nat→Prop} {b f s T:Nat} {B:List Int} {c:Array Value} {zz:Nat × Nat} (h:Sm w Q b f s B) (hT:w.heap[T]?=some (.cells c 171 zz)) (j:Nat) (v:Value):Sm (w.setCell ⟨T,j,none⟩ v) Q b f s B:=by
 obtain⟨h1,z,D,h2,h3,h4⟩:=h
 have hc:Chg (fun k=>k=T) w (w.setCell ⟨T,j,none⟩ v):=(Chg.refl _ _).setCell _ _ fun _=>rfl
 refine⟨h1,z,D,h2.turn hc (fun e=>h2.ne hT e.symm),h3,h4.keep hc fun i hi e=>?_⟩
 rcases (h4.row i hi).2.own.2 with ⟨h5,_⟩ | ⟨g5,c5,cur5,h5,_,h6,_⟩
 · cases h5
 · cases h5
   rw [e,hT] at h6
   cases h6
structure Tp (w:World) (T:Nat) (mb:Option Nat) (Q:Nat→Prop) (a:Int) (s:Nat) (t:TS):Prop where
 seg:s=cl a 64 4096
 blk:w.heap[T]?=some (.cells #[.int .i64 a,.int .i64 (t.f*s:Nat),.int .i64 (t.f*s+t.B.length:Nat),.map mb] 171 (0,0))
 no:mb=none→t.f=0∧t.B=[]
 yes:∀ b,mb=some b→Sm w Q b t.f s t.B
 q:Q T
theorem Tp.s_in {w:World} {T:Nat} {mb:Option Nat} {Q:Nat→Prop} {a:Int} {s:Nat} {t:TS} (h:Tp w T mb Q a s t):64≤s∧s≤4096:=by
 have:=h.seg
 have:=q3d a (lo:=64) (hi:=4096) (by omega)
 have:=q2z a 64 4096
 omega
theorem Tp.cells {w:World} {T:Nat} {mb:Option Nat} {Q:Nat→Prop} {a:Int} {s:Nat} {t:TS} (h:Tp w T mb Q a s t):w.cell? ⟨T,0,none⟩=some (.int .i64 a)∧w.cell? ⟨T,1,none⟩=some (.int .i64 (t.f*s:Nat))∧w.cell? ⟨T,2,none⟩=some (.int .i64 (t.f*s+t.B.length:Nat))∧w.cell? ⟨T,3,none⟩=some (.map mb) :=
 ⟨z0a h.blk rfl,z0a h.blk rfl,z0a h.blk rfl,z0a h.blk rfl⟩
theorem Tp.keep {w w':World} {T:Nat} {mb:Option Nat} {Q S:Nat→Prop} {a:Int} {s:Nat} {t:TS} (h:Tp w T mb Q a s t) (hc:Chg S w w') (hs:∀ k,Q k→¬ S k):Tp w' T mb Q a s t :=
 ⟨h.seg,(hc.block T (z0g h.blk) (hs T h.q)).trans h.blk,h.no,fun b hb=>(h.yes b hb).keep hc hs,h.q⟩
theorem Tp.later {w w':World} {T:Nat} {mb:Option Nat} {Q:Nat→Prop} {a:Int} {s:Nat} {t:TS} (h:Tp w T mb Q a s t) (hb:Below w.heap.size w w'):Tp w' T mb Q a s t:=h.keep (Chg.of_below (S:=fun _=>False) hb) fun _ _ h=>h
theorem Tp.mono {w:World} {T:Nat} {mb:Option Nat} {Q R:Nat→Prop} {a:Int} {s:Nat} {t:TS} (h:Tp w T mb Q a s t) (hs:∀ k,Q k→k<w.heap.size→R k):Tp w T mb R a s t :=
 ⟨h.seg,h.blk,h.no,fun b hb=>(h.yes b hb).mono hs,hs T h.q (z0g h.blk)⟩
theorem Tp.drewN {w:World} {T:Nat} {mb:Option Nat} {Q:Nat→Prop} {a:Int} {s:Nat} {t:TS} (h:Tp w T mb Q a s t) (q:Nat):Tp (w.drewN q) T mb Q a s t:=h.later (z0f (Below.refl _ _) q)
theorem new_tape (w:World) (a:Int):Tp (w.alloc (.cells #[.int .i64 a,.int .i64 0,.int .i64 0,.map none] 171)) w.heap.size none (fun k=>w.heap.size≤k) a (cl a 64 4096) ⟨0,[]⟩ :=
 ⟨rfl,by simpa using z0b w (.cells #[.int .i64 a,.int .i64 0,.int .i64 0,.map none] 171),fun _=>⟨rfl,rfl⟩,(fun b hb=>by cases hb),Nat.le_refl _⟩
theorem Sm.grown {w w1 w2:World} {Q:Nat→Prop} {b f s:Nat} {B x:List Int} {z:Nat→Nat × Nat} {D:DataW Sv} (hs:0<s) (hQb:Q b) (hm:MapB w b (nSD s B.length) D) (hT:Tm D (So z f s B) (nSD s B.length)) (hS:Seg w Q z f s B)
 (hx0:0<x.length) (hx:x.length≤s-B.length % s) {v:Value} (hv:v=svV (So z f s B ((f+B.length / s:Nat):Int))) {g n c:Nat} (hn:n=(sgD s (B++x) (B.length / s)).length)
 (hrow:RowB w1 (.slice (some ⟨g,0,none⟩) n c) n (sgD s (B++x) (B.length / s))) (hc1:Chg (fun k=>v.ownBlock=some k) w w1) (hloc:v.ownBlock=some g∨w.heap.size≤g) (k:Nat)
 (hm2:MapB w2 b k (D.put (kLD ((f+B.length / s:Nat):Int)) (.held (some ⟨g,0,none⟩,n,c)))) (hc2:Chg (fun k=>k=b) w1 w2) :
 Sm w2 (fun k=>Q k∨w.heap.size≤k) b f s (B++x):=by
 have hdp:B.length / s*s+B.length % s=B.length:=z5e
 have hmod:=Nat.mod_lt B.length hs
 generalize hi:B.length / s=i at *
 have hlen:(B++x).length=B.length+x.length:=List.length_append
 -- the other segments
 have hoth:∀ j,j*s<(B++x).length→j≠i→j*s+s≤B.length:=by
  intro j hj hne
  rcases Nat.lt_or_ge j i with h | h
  · have:=z2s (s:=s) h
    omega
  · have:=z2s (s:=s) (show i<j by omega)
    omega
 have hown:∀ k,v.ownBlock=some k→i*s<B.length∧k=(z (f+i)).1:=by
  intro k hk
  rw [hv,z4f] at hk
  by_cases h:i*s<B.length
  · rw [if_pos h] at hk
    cases hk
    exact⟨h,rfl⟩
  · rw [if_neg h] at hk
    cases hk
 have hgb:g≠b:=by
  have hb1:=hm.turn hc1 (fun e=>by
   obtain⟨h1,h2⟩:=hown b e
   obtain⟨_,_,hbx,_⟩:=hm
   rcases (hS.row i h1).2.own.2 with ⟨h3,_⟩ | ⟨g3,c3,cur3,h3,_,h4,_⟩
   · cases h3
   · cases h3
     rw [← h2,hbx] at h4
     cases h4)
  rcases hrow.own.2 with ⟨h3,_⟩ | ⟨g3,c3,cur3,h3,_,h4,_⟩
  · cases h3
  · cases h3
    exact hb1.ne h4
 have hmlt:∀ j,j*s<B.length→(z (f+j)).1≠b:=by
  intro j hj
  rcases (hS.row j hj).2.own.2 with ⟨h3,_⟩ | ⟨g3,c3,cur3,h3,_,h4,_⟩
  · cases h3
  · cases h3
    exact hm.ne h4
 have hblt:=hm.lt
 have hcnt:(if (So z f s B ((f+i:Nat):Int)).isSome=true then nSD s B.length else nSD s B.length+1)=nSD s (B++x).length:=by
  rw [z4f]
  symm
  refine z9x hs ?_ ?_
  · by_cases h:i*s<B.length
    · rw [if_pos h]
      have e1:nSD s B.length=i+1:=z9x hs (by rw [Nat.add_mul];omega) fun j hj=>by
       have:=Nat.mul_le_mul_right s (show j≤i by omega)
       omega
      simp only [Option.isSome_some,if_true]
      rw [e1,Nat.add_mul,hlen]
      omega
    · rw [if_neg h]
      have e1:nSD s B.length=i:=z9x hs h fun j hj=>by
       have:=z2s (s:=s) hj
       omega
      simp only [Option.isSome_none,Bool.false_eq_true,if_false]
      rw [e1,Nat.add_mul,hlen]
      omega
  · intro j hj
    have hj2:j≤i:=by
     by_cases h:i*s<B.length
     · rw [if_pos h] at hj
       have e1:nSD s B.length=i+1:=z9x hs (by rw [Nat.add_mul];omega) fun j hj=>by
        have:=Nat.mul_le_mul_right s (show j≤i by omega)
        omega
       simp only [Option.isSome_some,if_true] at hj
       omega
     · rw [if_neg h] at hj
       have e1:nSD s B.length=i:=z9x hs h fun j hj=>by
        have:=z2s (s:=s) hj
        omega
       simp only [Option.isSome_none,Bool.false_eq_true,if_false] at hj
       omega
    have:=Nat.mul_le_mul_right s hj2
    omega
 refine⟨.inl hQb,fun y=>if y=f+i then (g,c) else z y,D.put (kLD ((f+i:Nat):Int)) (.held (some ⟨g,0,none⟩,n,c)),?_,?_,?_⟩
 · have ht:=hm2.tight
   have hsz:=(hT.put ((f+i:Nat):Int) (some ⟨g,0,none⟩,n,c)).size
   rw [hsz] at ht
   rwa [hcnt] at ht
 · refine (hT.put ((f+i:Nat):Int) (some ⟨g,0,none⟩,n,c)).congr (fun y=>?_) ?_
   · rcases z5b f y with h | ⟨j,rfl⟩
     · rw [if_neg (by omega),z5u _ _ _ _ h,z5u _ _ _ _ h]
     · rw [z4f,z4f]
       by_cases e:j=i
       · subst e
         rw [if_pos rfl,if_pos (by rw [hlen];omega),if_pos rfl,hn]
       · rw [if_neg (by omega),if_neg (show ¬ f+j=f+i by omega)]
         by_cases hj:j*s<(B++x).length
         · have h1:=hoth j hj e
           rw [if_pos (by omega),if_pos hj,sg_app_other B x h1]
         · rw [if_neg (by omega),if_neg hj]
   · exact hcnt
 · refine⟨fun j hj=>?_,fun j l hj hl hne=>?_⟩
   · by_cases e:j=i
     · subst e
       rw [if_pos rfl]
       refine⟨?_,hn ▸ hrow.keep hc2 fun k hk=>by cases hk;exact hgb⟩
       rcases hloc with h | h
       · obtain⟨h1,h2⟩:=hown g h
         exact .inl (h2 ▸ (hS.row j h1).1)
       · exact .inr h
     · have h1:=hoth j hj e
       have h2:j*s<B.length:=by omega
       rw [if_neg (show ¬ f+j=f+i by omega),sg_app_other B x h1]
       refine⟨.inl (hS.row j h2).1,((hS.row j h2).2.keep hc1 fun k hk hk2=>?_).keep hc2 fun k hk=>by cases hk;exact hmlt j h2⟩
       obtain⟨h3,h4⟩:=hown k hk2
       cases hk
       exact hS.apart j i h2 h3 e h4
   · have key:∀ j,j*s<(B++x).length→j≠i→(z (f+j)).1≠g:=by
      intro j hj e hg
      have h1:=hoth j hj e
      have h2:j*s<B.length:=by omega
      rcases hloc with h | h
      · obtain⟨h3,h4⟩:=hown g h
        exact hS.apart j i h2 h3 e (hg.trans h4)
      · have:=hS.lt h2
        omega
     by_cases e:j=i
     · rw [if_pos (by omega),if_neg (show ¬ f+l=f+i by omega)]
       exact fun h=>key l hl (by omega) h.symm
     · rw [if_neg (show ¬ f+j=f+i by omega)]
       by_cases e2:l=i
       · rw [if_pos (by omega)]
         exact key j hj e
       · rw [if_neg (show ¬ f+l=f+i by omega)]
         have h1:=hoth j hj e
         have h2:=hoth l hl e2
         exact hS.apart j l (by omega) (by omega) hne
end Go.Proofs.YtfdgnniicjdjdaaGreatDoor
