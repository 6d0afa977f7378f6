import Derived.Test.YtfdgnniicjdjdaaGreatDoorPY11
import Derived.Deep.RegionHeld3
namespace Go.Proofs.YtfdgnniicjdjdaaGreatDoor
open Go.Lib (hid)
set_option maxHeartbeats 2000000
open Go.RowKit Go.ChangeShapes Go.WideShapes
set_option linter.unusedVariables false
set_option maxRecDepth 10000
set_option linter.unusedSimpArgs false
def q2e (w:World) (Q:Nat→Prop) (n s:Nat) (V':List (List Int)) (err:Int) (e:Ending) (w':World):Prop :=
 ∃ p' c',e=.returned (.tuple #[.agg #[.slice p' n c',.int .i64 (s:Nat)],.int .i64 err])∧RV w' Q p' c' s V'∧Below w.heap.size w w'
theorem reftear_any (p:Option Addr) (c n s:Nat) (V:List (List Int)) (i x:Int) (q:Option Addr) (m cq:Nat) (b:List Int) (w:World) (Q:Nat→Prop) (hn0:∀ k,w.heap.size≤k→Q k) (hV:RV w Q p c s V) (hn:V.length=n) (hn4:n≤1024) (hs4:s≤4096) (hb:BL w q m cq b) :
 Calls Tryz.prog 115 #[.agg #[.slice p n c,.int .i64 (s:Nat)],.int .i64 i,.slice q m cq,.int .i64 x] w (q2e w Q n s (z6c s V i b (kp x s)) (z8w s V i b)):=by
 have hl:=hb.len
 subst hn
 by_cases hi:0≤i∧i<V.length
 · by_cases hm:s<m
   · refine (reftear_long p c V.length s i x q m cq w hi hm).mono ?_
     rintro e w' ⟨rfl,hbw⟩
     refine⟨p,c,?_,?_,hbw⟩
     · unfold z8w
       rw [if_neg (fun h=>h hi),if_pos (by omega)]
     · unfold z6c
       rw [if_neg (fun h=>by omega)]
       exact hV.later hbw
   · obtain⟨j,rfl⟩:∃ j:Nat,i=j:=⟨i.toNat,by omega⟩
     refine (reftear_good p c V.length s V j x q m cq b w Q hn0 hV rfl hn4 hs4 (by omega) hb (by omega)).mono ?_
     rintro e w' ⟨p',c',rfl,hv,hc⟩
     refine⟨p',c',?_,?_,hc⟩
     · unfold z8w
       rw [if_neg (fun h=>h hi),if_neg (by omega)]
     · unfold z6c
       rw [if_pos ⟨hi,by omega⟩,Int.toNat_natCast]
       exact hv
 · refine (reftear_none p c V.length s i x q m cq w hi).mono ?_
   rintro e w' ⟨rfl,hbw⟩
   refine⟨p,c,?_,?_,hbw⟩
   · unfold z8w
     rw [if_pos hi]
   · unfold z6c
     rw [if_neg (fun h=>hi h.1)]
     exact hV.later hbw
theorem not_ref {w:World} {k:Nat} {cs:Array Value} (h:w.heap[k]?=some (.cells cs 32 (0,0))):∀ j,U8 w j→¬ j=k:=fun j ⟨c2,hj⟩ e=>by
 rw [e,h] at hj
 cases hj
theorem not_refs {w:World} {k:Nat} {cs:Array Value} (h:w.heap[k]?=some (.cells cs 32 (0,0))):∀ j,US w j→¬ j=k:=fun j ⟨c2,hj⟩ e=>by
 rw [e,h] at hj
 cases hj
set_option maxRecDepth 100000 in
theorem refput_any (p:Option Addr) (c n s:Nat) (V:List (List Int)) (i:Int) (q:Option Addr) (m cq:Nat) (b:List Int) (w:World) (Q:Nat→Prop) (hn0:∀ k,w.heap.size≤k→Q k) (hV:RV w Q p c s V) (hn:V.length=n) (hn4:n≤1024) (hs4:s≤4096) (hb:BL w q m cq b) :
 Calls Tryz.prog 72 #[.agg #[.slice p n c,.int .i64 (s:Nat)],.int .i64 i,.slice q m cq] w (q2e w Q n s (z6c s V i b s) (z8w s V i b)):=by
 have hb0:=z6l w (.slice p n c) (.int .i64 (s:Nat)) (.slice none 0 0) (.int .i64 0)
 have HT:=reftear_any p c n s V i (s:Nat) q m cq b _ Q (fun k hk=>hn0 k (Nat.le_trans hb0.size hk)) (hV.later hb0) hn hn4 hs4 (SlG.later hb hb0)
 rw [kp_self] at HT
 have HX:=hid (z8i w (.slice p n c) (.int .i64 (s:Nat)) (.slice none 0 0) (.int .i64 0))
 have HB0:=hid hb0
 clear hb0 hV hb
 generalize z6c s V i b s=V' at *
 generalize z8w s V i b=e0 at *
 go_enter Tryz.func72,Tryz.ntmps72
 go_wp2_with fail
 refine HT.mono ?_
 rintro e w2 ⟨p',c',rfl,hv,hb2⟩
 generalize (w.alloc (.cells #[.slice p n c,.int .i64 (s:Nat)] 32)).alloc (.cells #[.slice none 0 0,.int .i64 0] 32)=W1 at *
 have hA:=z0b HX.out hb2
 have x0:=z0a (j:=0) hA (v:=.slice none 0 0) rfl
 have x1:=z0a (j:=1) hA (v:=.int .i64 0) rfl
 have g0:=z0c 0 hA
 have g1:=z0c 1 hA
 have HXX:Hid (((w2.setCell ⟨w.heap.size+1,0,none⟩ (.slice p' n c')).setCell ⟨w.heap.size+1,1,none⟩ (.int .i64 (s:Nat))).heap[w.heap.size+1]?=some (.cells #[.slice p' n c',.int .i64 (s:Nat)] 32 (0,0))):=hid (z0m 1 _ (z0m 0 _ hA))
 have HC:Hid (Chg (fun k=>k=w.heap.size+1) w2 ((w2.setCell ⟨w.heap.size+1,0,none⟩ (.slice p' n c')).setCell ⟨w.heap.size+1,1,none⟩ (.int .i64 (s:Nat)))):=hid (((Chg.refl (fun k=>k=w.heap.size+1) w2).setCell ⟨w.heap.size+1,0,none⟩ _ fun _=>rfl).setCell ⟨w.heap.size+1,1,none⟩ _ fun _=>rfl)
 have HTY:=hid (not_ref hA)
 have HTS:=hid (not_refs hA)
 have HV2:=hid hv
 have HB2:=hid hb2
 clear hA hv hb2 HT
 go_wp2_with fail
 refine bodyPost_ret (v:=.tuple #[.agg #[.slice p' n c',.int .i64 (s:Nat)],.int .i64 e0]) ?_ rfl ?_
 · exact z4i rfl _ _ (w.heap.size+1) _ _ _ rfl rfl HXX.out rfl rfl
 · refine⟨p',c',rfl,HV2.out.keep_typed HC.out (fun k _ h=>HTS.out k h) (fun k _ h=>HTY.out k h),?_⟩
   · have hb:=HB0.out.trans (HB2.out.mono HB0.out.size)
     exact HC.out.below hb hb.size fun k hk=>by omega
end Go.Proofs.YtfdgnniicjdjdaaGreatDoor
