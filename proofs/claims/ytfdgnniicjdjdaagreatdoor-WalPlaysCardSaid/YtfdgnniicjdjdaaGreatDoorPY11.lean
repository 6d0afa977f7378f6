import Derived.Test.YtfdgnniicjdjdaaGreatDoorPY10
import Derived.StillTailTactics
namespace Go.Proofs.YtfdgnniicjdjdaaGreatDoor
open Go.Lib (hid)
set_option maxHeartbeats 8000000
open Go.RowKit Go.ChangeShapes Go.WideShapes
set_option linter.unusedVariables false
set_option maxRecDepth 10000
set_option linter.unusedSimpArgs false
def z4w (n s:Nat):List (List Int):=List.replicate n (List.replicate s 0)
theorem zeroV_flat (n s:Nat):(z4w n s).flatten=List.replicate (n*s) 0:=by simp [z4w]
theorem z3q (n s:Nat):(z4w n s).length=n:=by simp [z4w]
theorem zeroV_all (n s:Nat):∀ x∈z4w n s,x.length=s:=fun x hx=>by rw [List.eq_of_mem_replicate hx];simp
theorem new_anyD (x y:Int) (w:World):Calls Tryz.prog 52 #[.int .i64 x,.int .i64 y] w fun e w'=>e=.returned (.pointer (some ⟨w.heap.size,0,none⟩))∧Vo w' w.heap.size (w.heap.size+1) (kp y 4096) (z4w (kp x 1024) (kp y 4096))∧Below w.heap.size w w':=by
 have k1:=fun w=>kept_any x 1024 w (by omega)
 have k2:=fun w=>kept_any y 4096 w (by omega)
 have l1:=q0f x 1024 (by omega)
 have l2:=q0f y 4096 (by omega)
 generalize kp x 1024=n at *
 generalize kp y 4096=s at *
 have l1':n≤1024:=by omega
 have l2':s≤4096:=by omega
 have hbig:n*s≤4194304:=Nat.le_trans (Nat.mul_le_mul l1' l2') (by omega)
 have e1:IntKind.i64.wrap ((n:Int)*(s:Int))=((n*s:Nat):Int):=by
  rw [← Int.natCast_mul]
  exact IntWalk.i64_in _ (by omega)
 have e2:(n:Int)*(s:Int)=((n*s:Nat):Int):=by rw [Int.natCast_mul]
 have hmk:=fun w=>made_bytes (n*s) (by omega) w
 have HZ:=hid (zeroV_flat n s)
 generalize hm:n*s=m at *
 have HM:=hid hm
 clear hm
 go_enter Tryz.func52,Tryz.ntmps52
 go_wp2_with fail
 refine (k1 _).mono ?_
 rintro e w' ⟨rfl,rfl⟩
 go_wp2_with fail
 refine (k2 _).mono ?_
 rintro e w' ⟨rfl,rfl⟩
 clear k1 k2
 go_wp2_with fail
 go_region
 go_wp2_with fail
 go_ret
 refine⟨rfl,⟨?_,?_,zeroV_all n s,by omega,by rw [z3q];exact l1',l2'⟩,?_⟩
 · have h1:=z0e w' (.cells #[.int .i64 (n:Nat),.int .i64 (s:Nat),.slice (some ⟨w'.heap.size+1,0,none⟩) m m] 168)
   have h2:=z0b h1 ((Below.refl _ _).alloc (Nat.le_refl _) (.cells (vB (List.replicate m 0)).toArray 5))
   rw [z3q,HM.out]
   exact h2
 · have h1:=z0e (w'.alloc (.cells #[.int .i64 (n:Nat),.int .i64 (s:Nat),.slice (some ⟨w'.heap.size+1,0,none⟩) m m] 168)) (.cells (vB (List.replicate m 0)).toArray 5)
   rw [HZ.out]
   have h2:(w'.alloc (.cells #[.int .i64 (n:Nat),.int .i64 (s:Nat),.slice (some ⟨w'.heap.size+1,0,none⟩) m m] 168)).heap.size=w'.heap.size+1:=by simp
   rw [h2] at h1
   exact h1
 · exact (((Below.refl _ _).alloc (Nat.le_refl _) _).alloc (by simp) _).drew
/-- Another volume that has the same. -/
theorem copy_any (B G s:Nat) (V:List (List Int)) (w:World) (h:Vo w B G s V):Calls Tryz.prog 100 #[.pointer (some ⟨B,0,none⟩)] w fun e w'=>e=.returned (.pointer (some ⟨w.heap.size,0,none⟩))∧Vo w' w.heap.size (w.heap.size+1) s V∧Below w.heap.size w w':=by
 have H:=hid h
 have hb:=blocks_any B G s V w h
 have hsz:=size_anyD B G s V w h
 have hn:=new_anyD (V.length:Nat) (s:Nat) w
 rw [show kp (V.length:Nat) 1024=V.length by have:=h.n;unfold kp;omega,show kp (s:Nat) 4096=s by have:=h.s;unfold kp;omega] at hn
 have hbig:=h.big
 have HL:=hid h.flat
 clear h
 generalize hnn:V.length=n at *
 have HNN:=hid hnn
 clear hnn
 go_enter Tryz.func100,Tryz.ntmps100
 go_wp2_with fail
 refine hb.mono ?_
 rintro e w' ⟨rfl,rfl⟩
 go_wp2_with fail
 refine hsz.mono ?_
 rintro e w'' ⟨rfl,rfl⟩
 go_wp2_with fail
 refine hn.mono ?_
 rintro e W1 ⟨rfl,hv1,hb1⟩
 have HV1:=hid hv1
 have HB1:=hid hb1
 have H1:=hid (H.out.later hb1)
 have c2:=fun q=>show (W1.drewN q).cell? ⟨B,2,none⟩=_ from H1.out.cells.2.2
 have v2:=fun q=>show (W1.drewN q).cell? ⟨w''.heap.size,2,none⟩=_ from HV1.out.cells.2.2
 rw [z3q] at v2
 rw [HNN.out] at c2
 have c2':=c2 0
 have v2':=v2 0
 rw [World.drewN_zero] at c2' v2'
 clear hv1 hb1 hb hsz hn H
 go_wp2_with fail
 go_still_tail 8,(by kernel_rfl)
 change wpList _ _ _ _ _ W1.drew
 have hle:(z4w n s).flatten.length=n*s:=by rw [zeroV_flat];simp
 have hbl:=H1.out.row
 have hsrc:BL W1.drew (some ⟨G,0,none⟩) (n*s) (n*s) V.flatten:=by
  have:=BL.of_row (n:=n*s) (off:=0) (c:=n*s) (w:=W1.drew) hbl (by rw [HL.out];omega) (Nat.le_refl _) (by unfold maxLen;omega)
  rwa [List.drop_zero,List.take_of_length_le (by rw [HL.out];exact Nat.le_refl _)] at this
 refine wpList_copy_at rfl _ _ rfl _ _ _ _ _ _ (n*s) rfl rfl (Nat.min_self _) (w''.heap.size+1) 0 (z4w n s).flatten 5 HV1.out.row _ hsrc (fun _=>rfl) (by rw [hle];omega) ?_
 intro w3 h3 hc3
 have h3':=h3.out
 have hx:splice (z4w n s).flatten 0 (V.flatten.take (n*s))=V.flatten:=by
  have e:=HL.out
  rw [List.take_of_length_le (by omega)]
  exact splice_all _ _ (by rw [hle,e])
 rw [hx] at h3'
 have H3:=hid h3'
 clear h3 h3' hx hsrc hbl
 go_wp2_with fail
 go_ret
 refine⟨rfl,⟨?_,H3.out,H1.out.len,by omega,H1.out.n,H1.out.s⟩,?_⟩
 · have h4:=HV1.out.blk
   rw [z3q] at h4
   have h5:w3.heap[w''.heap.size]?=W1.drew.heap[w''.heap.size]?:=hc3.block _ (z0k h4) (by omega)
   rw [h5,HNN.out]
   exact h4
 · exact hc3.below HB1.out.drew HB1.out.size fun k hk=>by omega
theorem kp_self (s:Nat):kp (s:Nat) (s:Nat)=s:=by unfold kp;omega
theorem between_anyD (x hi:Int) (w:World) (h0:0≤hi):Calls Tryz.prog 105 #[.int .i64 x,.int .i64 0,.int .i64 hi] w fun e w'=>e=.returned (.int .i64 (kp x hi:Nat))∧w'=w:=by
 have h1:x<0→((kp x hi:Nat):Int)=0:=by unfold kp;omega
 have h2:hi<x→((kp x hi:Nat):Int)=hi:=by unfold kp;omega
 have h3:¬ x<0→¬ hi<x→((kp x hi:Nat):Int)=x:=by unfold kp;omega
 generalize kp x hi=y at *
 have HH:=hid (And.intro h1 (And.intro h2 h3))
 clear h1 h2 h3
 by_cases a1:x<0
 · go_enter Tryz.func105,Tryz.ntmps105
   go_wp2_with fail
   go_ret
   exact⟨by rw [HH.out.1 a1];rfl,rfl⟩
 · by_cases a2:hi<x
   · go_enter Tryz.func105,Tryz.ntmps105
     go_wp2_with fail
     go_ret
     exact⟨by rw [HH.out.2.1 a2];rfl,rfl⟩
   · go_enter Tryz.func105,Tryz.ntmps105
     go_wp2_with fail
     go_ret
     exact⟨by rw [HH.out.2.2 (by omega) (by omega)];rfl,rfl⟩
theorem infoBytes:(Tryz.prog.info? 33).map (fun i=>(i.zero,i.size,i.bytes))=some (some (.slice none 0 0),1,24):=by kernel_rfl
theorem wpList_append_sl {w:World} {ops:Array Oper} {rest:List Oper} {o:Oper} {a:Act} {Q:Exit→Act→World→Prop} (hgd:o.guard=none) (z:Nat) (s x:Operand)
 (ho:o.op=.call { callee:=.builtin .append,args:=#[s,x],argTypes:=#[30,30] })
 (base:Nat) (v:Value) (n:Nat) (M:List (Option Addr × Nat)) (hs:a.eval s=v) (hr:w.ownsRow base 33 1 v n (z0t (es z) M)) (hn:n≤1000000) (e:Option Addr × Nat) (B:Nat)
 (hx:a.eval x=.slice (some ⟨B,0,none⟩) 1 1) (hc:∀ i u,(es z e)[i]?=some u→w.cell? ⟨B,i,none⟩=some u) (hbase:base≤w.heap.size)
 (h:∀ v' w',w'.ownsRow base 33 1 v' (n+1) (z0t (es z) (M ++ [e]))→w.grownBy w' v.ownBlock→wpList Tryz.prog ops Q rest (a.put o.dst v') w'):wpList Tryz.prog ops Q (o::rest) a w :=
 z4g (q0y z) (es_one z) (by decide) hgd s x _ _ ho Tryz.underlying30 _ 24 infoBytes rfl (by omega) base v n M hs hr hn e B hx hc hbase h
theorem z3c {w:World} {ops:Array Oper} {rest:List Oper} {o:Oper} {a:Act} {Q:Exit→Act→World→Prop} (hgd:o.guard=none) (s x:Operand)
 (ho:o.op=.call { callee:=.builtin .append,args:=#[s,x],argTypes:=#[33,33] })
 (base:Nat) (v:Value) (n:Nat) (M:List Int) (hs:a.eval s=v) (hr:w.ownsRow base 5 1 v n (z0t eb M)) (hn:n≤1000000) (e:Int) (B:Nat)
 (hx:a.eval x=.slice (some ⟨B,0,none⟩) 1 1) (hc:∀ i u,(eb e)[i]?=some u→w.cell? ⟨B,i,none⟩=some u) (hbase:base≤w.heap.size)
 (h:∀ v' w',w'.ownsRow base 5 1 v' (n+1) (z0t eb (M ++ [e]))→w.grownBy w' v.ownBlock→wpList Tryz.prog ops Q rest (a.put o.dst v') w'):wpList Tryz.prog ops Q (o::rest) a w :=
 z4g eb_len eb_one (by decide) hgd s x _ _ ho Tryz.underlying33 _ 1 z0x rfl (by omega) base v n M hs hr hn e B hx hc hbase h
theorem step_append_sl {w:World} {ops:Array Oper} {o:Oper} {a:Act} {K:Act→World→Prop} {Q:Exit→Act→World→Prop} {E:Prop} (hgd:o.guard=none) (z:Nat) (s x:Operand)
 (ho:o.op=.call { callee:=.builtin .append,args:=#[s,x],argTypes:=#[30,30] })
 (base:Nat) (v:Value) (n:Nat) (M:List (Option Addr × Nat)) (hs:a.eval s=v) (hr:w.ownsRow base 33 1 v n (z0t (es z) M)) (hn:n≤1000000) (e:Option Addr × Nat) (B:Nat)
 (hx:a.eval x=.slice (some ⟨B,0,none⟩) 1 1) (hc:∀ i u,(es z e)[i]?=some u→w.cell? ⟨B,i,none⟩=some u) (hbase:base≤w.heap.size)
 (h:∀ v' w',w'.ownsRow base 33 1 v' (n+1) (z0t (es z) (M ++ [e]))→w.grownBy w' v.ownBlock→K (a.put o.dst v') w') :
 if Region.wanted o (yielded ops a.tmps)=true then Oper.wp Tryz.prog o a w K Q else E:=by
 obtain⟨i,hi,hz0,hz1,hz2⟩:=info_parts infoBytes
 have hw:Region.wanted o (yielded ops a.tmps)=true:=by simp [Region.wanted,hgd]
 rw [if_pos hw]
 refine wp_append_own w s x _ ho base 33 i _ 1 24 Tryz.underlying30 hi hz0 hz1 hz2 rfl (by decide) v n (z0t (es z) M) hs hr ⟨B,0,none⟩ 1 1 (es z e) hx rfl
  (fun j u hu=>?_) (es_one z e) (by unfold maxLen;omega) (by omega) hbase ?_
 · rw [Go.WideShapes.add_plain,Nat.zero_add]
   exact hc j u hu
 · intro v' w' g1 g2 _
   refine h v' w' ?_ g2
   rw [z1o,z3t]
   exact g1
theorem zeroV_more (n s:Nat):z4w (n+1) s=z4w n s ++ [List.replicate s 0]:=by simp [z4w,List.replicate_succ']
def wg1 (s:Nat) (w2:World):World:=w2.alloc (.cells (vB (List.replicate s 0)).toArray 5)
def wg2 (s:Nat) (w2:World):World:=(wg1 s w2).alloc (.cells #[.slice (some ⟨w2.heap.size,0,none⟩) s s] 33)
theorem fill_zero {W0 wr:World} {Q:Nat→Prop} {base R s j c0:Nat} {p0:Option Addr} {L:List (Option Addr × Nat)} {V:List (List Int)} (h:Fi W0 wr Q base R s (.slice p0 j c0) L V) (hj:V.length=j) (hs:s≤4096) :
 (wg2 s wr).drew.ownsRow base 33 1 (.slice p0 j c0) j (z0t (es s) L)∧(∀ i u,(es s (some ⟨wr.heap.size,0,none⟩,s))[i]?=some u→(wg2 s wr).drew.cell? ⟨wr.heap.size+1,i,none⟩=some u)∧base≤(wg2 s wr).drew.heap.size ∧
 ((wg1 s wr).cell? ⟨R,0,none⟩=some (.slice p0 j c0)∧(wg2 s wr).cell? ⟨R,0,none⟩=some (.slice p0 j c0)) ∧
 ∀ v' w',w'.ownsRow base 33 1 v' (j+1) (z0t (es s) (L ++ [(some ⟨wr.heap.size,0,none⟩,s)]))→(wg2 s wr).drew.grownBy w' (Value.slice p0 j c0).ownBlock →
  w'.cell? ⟨R,0,none⟩=some (.slice p0 j c0)∧w'.frozen? ⟨R,0,none⟩=false∧Fi W0 (w'.setCell ⟨R,0,none⟩ v') Q base R s v' (L ++ [(some ⟨wr.heap.size,0,none⟩,s)]) (V ++ [List.replicate s 0]):=by
 have hb1:Below wr.heap.size wr (wg1 s wr):=(Below.refl _ _).alloc (Nat.le_refl _) _
 have hsz:(wg1 s wr).heap.size=wr.heap.size+1:=by simp [wg1]
 have hb2:Below wr.heap.size wr (wg2 s wr).drew:=(hb1.alloc (by omega) _).drew
 have h2:=h.later hb2
 have hrow1:(wg1 s wr).heap[wr.heap.size]?=some (.cells (vB (List.replicate s 0)).toArray 5 (0,0)):=z0e wr _
 have hrow:(wg2 s wr).drew.heap[wr.heap.size]?=some (.cells (vB (List.replicate s 0)).toArray 5 (0,0)):=z0b hrow1 ((Below.refl _ _).alloc (Nat.le_refl _) _).drew
 have hbl:=BL.of_row (n:=s) (off:=0) (c:=s) hrow (by simp) (Nat.le_refl _) (by unfold maxLen;omega)
 rw [List.drop_zero,List.take_of_length_le (by simp)] at hbl
 have hone:=z0e (wg1 s wr) (.cells #[.slice (some ⟨wr.heap.size,0,none⟩) s s] 33)
 rw [hsz] at hone
 refine⟨hj ▸ h2.own,fun i u hu=>?_,h2.lo.2.2.1,⟨z0a (z0b h.blk hb1) rfl,z0a (z0b h.blk (hb1.alloc (by omega) _)) rfl⟩,fun v' w' ho hg=>?_⟩
 · refine z0a (w:=(wg2 s wr).drew) hone ?_
   rw [List.getElem?_toArray]
   exact hu
 · refine h2.step (e:=(some ⟨wr.heap.size,0,none⟩,s)) hbl (fun a ha=>?_) (hj ▸ ho) hg
   cases ha
   have:=h.lo
   have:=h.below.size
   exact⟨h.lo.2.2.2 _ h.below.size,_,hrow⟩
theorem refNew_start (w:World) (s:Nat):Fi (w.alloc (.cells #[.slice none 0 0,.int .i64 0] 32)) ((w.alloc (.cells #[.slice none 0 0,.int .i64 0] 32)).alloc (.cells #[.slice none 0 0,.int .i64 (s:Nat)] 32)) (fun k=>w.heap.size+1≤k) (w.heap.size+2) (w.heap.size+1) s (.slice none 0 0) [] []:=by
 have h1:(w.alloc (.cells #[.slice none 0 0,.int .i64 0] 32)).heap.size=w.heap.size+1:=by simp
 have hb:=(Below.refl (w.alloc (.cells #[.slice none 0 0,.int .i64 0] 32)).heap.size (w.alloc (.cells #[.slice none 0 0,.int .i64 0] 32))).alloc (Nat.le_refl _) (.cells #[.slice none 0 0,.int .i64 (s:Nat)] 32)
 refine⟨World.ownsRow_nil _ _ _ _,rfl,fun i hi=>by simp at hi,(fun x hx=>by cases hx),?_,hb,by omega,by omega,by simp,fun k hk=>by omega⟩
 have:=z0e (w.alloc (.cells #[.slice none 0 0,.int .i64 0] 32)) (.cells #[.slice none 0 0,.int .i64 (s:Nat)] 32)
 rwa [h1] at this
set_option maxRecDepth 100000 in
theorem refnew_any (x y:Int) (w:World):Calls Tryz.prog 62 #[.int .i64 x,.int .i64 y] w fun e w'=>∃ p c,e=.returned (.agg #[.slice p (kp x 1024) c,.int .i64 (kp y 4096:Nat)])∧RV w' (fun k=>w.heap.size≤k) p c (kp y 4096) (z4w (kp x 1024) (kp y 4096))∧Below w.heap.size w w':=by
 have k1:=fun w=>between_anyD x 1024 w (by omega)
 have k2:=fun w=>between_anyD y 4096 w (by omega)
 have l1:=q0f x 1024 (by omega)
 have l2:=q0f y 4096 (by omega)
 generalize kp x 1024=n at *
 generalize kp y 4096=s at *
 have hmk:=fun w=>made_bytes s (by omega) w
 have HS0:=hid (refNew_start w s)
 have HW:=hid ((Below.refl _ _).alloc (Nat.le_refl w.heap.size) (.cells #[.slice none 0 0,.int .i64 0] 32))
 have HA:=hid (z0e w (.cells #[.slice none 0 0,.int .i64 0] 32))
 go_enter Tryz.func62,Tryz.ntmps62
 go_wp2_with fail
 refine (k2 _).mono ?_
 rintro e w' ⟨rfl,rfl⟩
 go_wp2_with fail
 generalize (w.alloc (.cells #[.slice none 0 0,.int .i64 0] 32)).alloc (.cells #[.slice none 0 0,.int .i64 (s:Nat)] 32)=W1 at *
 generalize w.alloc (.cells #[.slice none 0 0,.int .i64 0] 32)=W0 at *
 go_loopw [6] (fun i wr=>∃ (j:Nat) (v:Value) (L:List (Option Addr × Nat)),j≤n∧i=.int .i64 (j:Nat)∧Hid (Fi W0 wr (fun k=>w.heap.size+1≤k) (w.heap.size+2) (w.heap.size+1) s v L (z4w j s))) (fun i _=>n-(intOf i).toNat)
 case atStart=>exact⟨0,_,_,Nat.zero_le _,rfl,HS0⟩
 case round =>
  obtain⟨j,v,L,hj,rfl,HF⟩:=hrel
  by_cases hlt:j<n
  · have hlt':(j:Int)<n:=by omega
    have hjm:j≤1000000:=by omega
    obtain⟨p0,c0,hv,_⟩:=HF.out.rv
    rw [z3q] at hv
    subst hv
    have x0:=z0a (j:=0) HF.out.blk (v:=.slice p0 j c0) rfl
    have x1:=z0a (j:=1) HF.out.blk (v:=.int .i64 (s:Nat)) rfl
    obtain⟨f1,f2,f3,⟨f4,f5⟩,f6⟩:=fill_zero HF.out (z3q j s) (by omega)
    have F1:=hid f1
    have F2:=hid f2
    have F3:=hid f3
    have F6:=hid f6
    have HM:=hid (zeroV_more j s)
    clear f1 f2 f3 f6
    unfold wg2 at f5
    unfold wg1 at f4 f5
    go_wp2_with fail
    refine (k1 _).mono ?_
    rintro e w2 ⟨rfl,rfl⟩
    go_wp2_with fail
    go_region_law (first
     | (refine step_append_sl rfl s (.tmp 17) (.tmp 21) rfl (w.heap.size+2) (.slice p0 j c0) j L (by simp [Act.eval]) F1.out hjm (some ⟨w2.heap.size,0,none⟩,s) (w2.heap.size+1) (by simp [Act.eval]) F2.out F3.out ?_;intro v1 w1 ho1 hg1;obtain⟨y0,g0,HN⟩:=F6.out v1 w1 ho1 hg1;obtain⟨p1,c1,rfl,_⟩:=SlG.of_own (d:=d0) (q0y s) (by decide) ho1))
    all_goals
     rw [← HM.out] at HN
     have HN1:=hid HN
     clear HN ho1 hg1 y0 g0
     go_wp2_with fail
     go_roundw
     case rel=>exact⟨j+1,_,_,by omega,by go_num,HN1⟩
     case measure=>simp [intOf];omega
  · obtain rfl:n=j:=by omega
    obtain⟨p0,c0,hv,hrv⟩:=HF.out.rv
    rw [z3q] at hv
    subst hv
    have HRV:=hid hrv
    have x0:=z0a (j:=0) HF.out.blk (v:=.slice p0 n c0) rfl
    have x1:=z0a (j:=1) HF.out.blk (v:=.int .i64 (s:Nat)) rfl
    have hsz0:=HA.out
    have hlt0:w.heap.size<W0.heap.size:=z0k hsz0
    have hA:wr.heap[w.heap.size]?=some (.cells #[.slice none 0 0,.int .i64 0] 32 (0,0)):=z0b hsz0 HF.out.below
    have y0:=z0a (j:=0) hA (v:=.slice none 0 0) rfl
    have y1:=z0a (j:=1) hA (v:=.int .i64 0) rfl
    have g0:=z0c 0 hA
    have g1:=z0c 1 hA
    have HX:Hid (((wr.setCell ⟨w.heap.size,0,none⟩ (.slice p0 n c0)).setCell ⟨w.heap.size,1,none⟩ (.int .i64 (s:Nat))).heap[w.heap.size]?=some (.cells #[.slice p0 n c0,.int .i64 (s:Nat)] 32 (0,0))):=hid (z0m 1 _ (z0m 0 _ hA))
    have HC:Hid (Chg (fun k=>k=w.heap.size) wr ((wr.setCell ⟨w.heap.size,0,none⟩ (.slice p0 n c0)).setCell ⟨w.heap.size,1,none⟩ (.int .i64 (s:Nat)))):=hid (((Chg.refl (fun k=>k=w.heap.size) wr).setCell ⟨w.heap.size,0,none⟩ _ fun _=>rfl).setCell ⟨w.heap.size,1,none⟩ _ fun _=>rfl)
    clear hsz0 hlt0 hA hrv
    go_wp2_with fail
    refine (k1 _).mono ?_
    rintro e w2 ⟨rfl,rfl⟩
    go_wp2_with fail
    refine bodyPost_ret (v:=.agg #[.slice p0 n c0,.int .i64 (s:Nat)]) ?_ rfl ?_
    · exact results_cell_row rfl _ _ w.heap.size 32 _ (0,0) _ rfl HX.out Tryz.underlying32 rfl (by kernel_rfl)
    · refine⟨p0,c0,rfl,?_,?_⟩
      · exact (HRV.out.keep HC.out fun k hk e=>by omega).mono fun k hk _=>by omega
      · have hb:=HW.out.trans (HF.out.below.mono HW.out.size)
        exact HC.out.below hb hb.size fun k hk=>by omega
theorem z4i {fn:Func} {P1 P2:Tmp} (h:fn.results=#[.cell P1 32,.tmp P2]) (tmps:Array Value) (W:World) (R:Nat) (u v x:Value) (hp:tmps.getD P1 undef=.pointer (some ⟨R,0,none⟩)) (hv:tmps.getD P2 undef=x)
 (hR:W.heap[R]?=some (.cells #[u,v] 32 (0,0))) (h1:u.oneCell'=true) (h2:v.oneCell'=true):(results fn tmps).run Tryz.prog W=.ok (.tuple #[.agg #[u,v],x]) W:=by
 rw [results_cell_tmp h,hp,hv]
 have hl:=run_loadVar_row (P:=Tryz.prog) W R 32 32 #[u,v] (0,0) _ hR Tryz.underlying32 rfl (by kernel_rfl)
 simp [asAddr,Result.andThen,hl]
theorem z8i (w:World) (u v x y:Value):((w.alloc (.cells #[u,v] 32)).alloc (.cells #[x,y] 32)).heap[w.heap.size+1]?=some (.cells #[x,y] 32 (0,0)):=by
 have h:=z0e (w.alloc (.cells #[u,v] 32)) (.cells #[x,y] 32)
 rwa [show (w.alloc (.cells #[u,v] 32)).heap.size=w.heap.size+1 by simp] at h
theorem z6l (w:World) (u v x y:Value):Below w.heap.size w ((w.alloc (.cells #[u,v] 32)).alloc (.cells #[x,y] 32)):=((Below.refl _ _).alloc (Nat.le_refl _) _).alloc (by simp) _
theorem reftear_none (p:Option Addr) (c n s:Nat) (i x:Int) (q:Option Addr) (m cq:Nat) (w:World) (hi:¬ (0≤i∧i<n)) :
 Calls Tryz.prog 115 #[.agg #[.slice p n c,.int .i64 (s:Nat)],.int .i64 i,.slice q m cq,.int .i64 x] w fun e w'=>e=.returned (.tuple #[.agg #[.slice p n c,.int .i64 (s:Nat)],.int .i64 1])∧Below w.heap.size w w':=by
 have HX:=hid (z8i w (.slice p n c) (.int .i64 (s:Nat)) (.slice p n c) (.int .i64 (s:Nat)))
 have HB:=hid (z6l w (.slice p n c) (.int .i64 (s:Nat)) (.slice p n c) (.int .i64 (s:Nat)))
 by_cases h0:i<0
 · go_enter Tryz.func115,Tryz.ntmps115
   go_wp2_with fail
   refine bodyPost_ret (v:=.tuple #[.agg #[.slice p n c,.int .i64 (s:Nat)],.int .i64 1]) ?_ rfl ?_
   · exact z4i rfl _ _ (w.heap.size+1) _ _ _ rfl rfl HX.out rfl rfl
   · exact⟨rfl,HB.out⟩
 · have h1:(n:Int)≤i:=by omega
   go_enter Tryz.func115,Tryz.ntmps115
   go_wp2_with fail
   refine bodyPost_ret (v:=.tuple #[.agg #[.slice p n c,.int .i64 (s:Nat)],.int .i64 1]) ?_ rfl ?_
   · exact z4i rfl _ _ (w.heap.size+1) _ _ _ rfl rfl HX.out rfl rfl
   · exact⟨rfl,HB.out⟩
theorem reftear_long (p:Option Addr) (c n s:Nat) (i x:Int) (q:Option Addr) (m cq:Nat) (w:World) (hi:0≤i∧i<n) (hm:s<m) :
 Calls Tryz.prog 115 #[.agg #[.slice p n c,.int .i64 (s:Nat)],.int .i64 i,.slice q m cq,.int .i64 x] w fun e w'=>e=.returned (.tuple #[.agg #[.slice p n c,.int .i64 (s:Nat)],.int .i64 7])∧Below w.heap.size w w':=by
 have HX:=hid (z8i w (.slice p n c) (.int .i64 (s:Nat)) (.slice p n c) (.int .i64 (s:Nat)))
 have HB:=hid (z6l w (.slice p n c) (.int .i64 (s:Nat)) (.slice p n c) (.int .i64 (s:Nat)))
 obtain⟨h0,h1⟩:=hi
 have h0':¬ i<0:=by omega
 have h1':¬ (n:Int)≤i:=by omega
 have hm':(s:Int)<m:=by omega
 go_enter Tryz.func115,Tryz.ntmps115
 go_wp2_with fail
 refine bodyPost_ret (v:=.tuple #[.agg #[.slice p n c,.int .i64 (s:Nat)],.int .i64 7]) ?_ rfl ?_
 · exact z4i rfl _ _ (w.heap.size+1) _ _ _ rfl rfl HX.out rfl rfl
 · exact⟨rfl,HB.out⟩
theorem z8a (w:World) (x:Int):∀ i u,(eb x)[i]?=some u→(w.alloc (.cells #[.int .u8 x] 5)).cell? ⟨w.heap.size,i,none⟩=some u:=fun i u hu=>by
 refine z0a (z0e w (.cells #[.int .u8 x] 5)) ?_
 rw [List.getElem?_toArray]
 exact hu
theorem q0n {W1 wr:World} {v:Value} {M:List Int} {N:Nat} {x:Int} (h:FillG eb 1 5 W1 wr v M N):(wr.alloc (.cells #[.int .u8 x] 5)).ownsRow W1.heap.size 5 1 v M.length (z0t eb M):=h.own.alloc _
theorem z9f {W1 wr:World} {v:Value} {V:List Int} {j N:Nat} {x:Int} (h:FillG eb 1 5 W1 wr v (V.take j) N) (hj:j<V.length) (hx:V.getD j 0=x) :
 ∀ v' w',w'.ownsRow W1.heap.size 5 1 v' ((V.take j).length+1) (z0t eb (V.take j ++ [x]))→(wr.alloc (.cells #[.int .u8 x] 5)).grownBy w' v.ownBlock→FillG eb 1 5 W1 w' v' (V.take (j+1)) (N+1):=by
 intro v' w' h1 h2
 have e:V.take (j+1)=V.take j ++ [x]:=by
  rw [List.take_add_one,← hx,List.getD,List.getElem?_eq_getElem hj]
  rfl
 rw [e]
 exact h.step _ h1 h2
theorem take_more {V:List (List Int)} {j:Nat} (hj:j<V.length):V.take (j+1)=V.take j ++ [V.getD j []]:=by
 rw [List.take_add_one,List.getD,List.getElem?_eq_getElem hj]
 rfl
set_option maxRecDepth 100000 in
theorem reftear_good (p:Option Addr) (c n s:Nat) (V:List (List Int)) (i:Nat) (x:Int) (q:Option Addr) (m cq:Nat) (b:List Int) (w:World) (Q:Nat→Prop) (hn0:∀ k,w.heap.size≤k→Q k) (hV:RV w Q p c s V) (hn:V.length=n) (hn4:n≤1024) (hs4:s≤4096) (hi:i<n) (hb:BL w q m cq b) (hm:m≤s) :
 Calls Tryz.prog 115 #[.agg #[.slice p n c,.int .i64 (s:Nat)],.int .i64 (i:Nat),.slice q m cq,.int .i64 x] w fun e w'=>∃ p' c',e=.returned (.tuple #[.agg #[.slice p' n c',.int .i64 (s:Nat)],.int .i64 0])∧RV w' Q p' c' s (V.set i (z4a (V.getD i []) b (kp x s)))∧Below w.heap.size w w':=by
 have HX:=hid (z8i w (.slice p n c) (.int .i64 (s:Nat)) (.slice none 0 0) (.int .i64 0))
 have HB:=hid (z6l w (.slice p n c) (.int .i64 (s:Nat)) (.slice none 0 0) (.int .i64 0))
 have HY:=hid (z0b (z0e w (.cells #[.slice p n c,.int .i64 (s:Nat)] 32)) ((Below.refl _ _).alloc (Nat.le_refl _) (.cells #[.slice none 0 0,.int .i64 0] 32)))
 have hlen:=hV.len
 have HLEN:=hid hlen
 have HV:=hid hV
 have HBB:=hid hb
 have HNN:=hid hn
 have HN0:=hid hn0
 have hold:(V.getD i []).length=s:=getD_len hlen (by omega)
 have hbl:b.length=m:=hb.len
 have hts:kp x (s:Nat)≤s:=by have:=q0f x (s:Nat) (by omega);omega
 have HT:Hid (∀ k:Nat,k<s→((k:Int)<x ↔ k<kp x (s:Nat))):=hid fun k hk=>by unfold kp;omega
 have hi0:¬ (i:Int)<0:=by omega
 have hi1:¬ (n:Int)≤(i:Int):=by omega
 have hi2:(i:Int)<(n:Int):=by omega
 have hm':¬ (s:Int)<(m:Int):=by omega
 clear hV hb hlen hn hn0
 generalize hk:kp x (s:Nat)=t at *
 clear hk
 generalize hO:V.getD i []=old at *
 have HOLD:=hid hO
 clear hO
 have hTL:(z4a old b t).length=s:=by rw [tear_len _ _ _ (by omega)];exact hold
 have HTA:Hid (∀ k,k<s→(z4a old b t).getD k 0=if k<t then (if k<m then b.getD k 0 else 0) else old.getD k 0):=hid fun k hk=>by rw [← hbl];exact tear_at old b t k (by omega) (by omega)
 go_enter Tryz.func115,Tryz.ntmps115
 go_wp2_with fail
 generalize hW1:(w.alloc (.cells #[.slice p n c,.int .i64 (s:Nat)] 32)).alloc (.cells #[.slice none 0 0,.int .i64 0] 32)=W1 at *
 clear hW1
 go_loopw [10,11] (fun v k wr=>∃ (j:Nat) (v0:Value),j≤s∧v=v0∧k=.int .i64 (j:Nat)∧Hid (FillG eb 1 5 W1 wr v0 ((z4a old b t).take j) j)) (fun _ k _=>s-(intOf k).toNat)
 case atStart=>exact⟨0,_,Nat.zero_le _,rfl,rfl,hid (FillG.nil _)⟩
 case round =>
  obtain⟨j,v0,hj,rfl,rfl,HF⟩:=hrel
  have hy:wr.heap[w.heap.size]?=some (.cells #[.slice p n c,.int .i64 (s:Nat)] 32 (0,0)):=z0b HY.out HF.out.below
  have y0:=z0a (j:=0) hy (v:=.slice p n c) rfl
  have y1:=z0a (j:=1) hy (v:=.int .i64 (s:Nat)) rfl
  have hbr:Below w.heap.size w wr:=HB.out.trans (HF.out.below.mono HB.out.size)
  have HBR:=hid hbr
  clear hy
  obtain⟨pv,cv,hv,_⟩:=own_bytes HF.out.own
  have hlj:((z4a old b t).take j).length=j:=by rw [List.length_take];omega
  rw [hlj] at hv
  subst hv
  by_cases hlt:j<s
  · have hlt':(j:Int)<s:=by omega
    have hjm:j≤1000000:=by omega
    have hjl:j<(z4a old b t).length:=by omega
    have hva:=HTA.out j hlt
    have htj:=HT.out j hlt
    obtain⟨vb,vo,qi,ci,rfl,hc1,hbi,_⟩:=(HV.out.later hbr).one (i:=i) (by rw [HNN.out];exact hi)
    rw [HOLD.out] at hbi
    obtain⟨ob,oo,rfl,_,hc2⟩:=hbi.at (by omega)
    have hcj:=hc2 j hlt
    clear hbr hc2 hbi
    by_cases ht:j<t
    · have htx:=htj.2 ht
      by_cases hmj:j<m
      · have hval:(z4a old b t).getD j 0=b.getD j 0:=by rw [hva,if_pos ht,if_pos hmj]
        have hmj':(j:Int)<m:=by omega
        obtain⟨bb,bo,rfl,_,hcb⟩:=BL.at (SlG.later HBB.out HBR.out) (by omega)
        have hbj:=hcb j hmj
        generalize hz:b.getD j 0=z at *
        clear hz hcb hva htj
        have HONE:Hid (∀ i u,(eb z)[i]?=some u→(wr.alloc (.cells #[.int .u8 z] 5)).cell? ⟨wr.heap.size,i,none⟩=some u):=hid (z8a wr z)
        have HSTEP:=hid (z9f (x:=z) (V:=z4a old b t) HF.out hjl hval)
        rw [hlj] at HSTEP
        have HO2:=hid (q0n (x:=z) HF.out)
        rw [hlj] at HO2
        have HSZ:Hid (W1.heap.size≤(wr.alloc (.cells #[.int .u8 z] 5)).heap.size):=hid (by have:=HF.out.below.size;simp;omega)
        go_wp2_with (at_builtin;refine z3c rfl _ _ rfl W1.heap.size _ j ((z4a old b t).take j) rfl HO2.out hjm z wr.heap.size rfl HONE.out HSZ.out ?_;intro v' w3 h1 h2)
        have HN:=hid (HSTEP.out v' w3 h1 h2)
        clear h1 h2 HO2 HONE HSTEP
        go_wp2_with fail
        go_roundw
        case rel=>exact⟨j+1,_,by omega,rfl,by go_num,HN⟩
        case measure=>simp [intOf];omega
      · have hval:(z4a old b t).getD j 0=0:=by rw [hva,if_pos ht,if_neg hmj]
        have hmj':¬ (j:Int)<m:=by omega
        clear hva htj
        have HONE:Hid (∀ i u,(eb 0)[i]?=some u→(wr.alloc (.cells #[.int .u8 0] 5)).cell? ⟨wr.heap.size,i,none⟩=some u):=hid (z8a wr 0)
        have HSTEP:=hid (z9f (x:=0) (V:=z4a old b t) HF.out hjl hval)
        rw [hlj] at HSTEP
        have HO2:=hid (q0n (x:=0) HF.out)
        rw [hlj] at HO2
        have HSZ:Hid (W1.heap.size≤(wr.alloc (.cells #[.int .u8 0] 5)).heap.size):=hid (by have:=HF.out.below.size;simp;omega)
        go_wp2_with (at_builtin;refine z3c rfl _ _ rfl W1.heap.size _ j ((z4a old b t).take j) rfl HO2.out hjm 0 wr.heap.size rfl HONE.out HSZ.out ?_;intro v' w3 h1 h2)
        have HN:=hid (HSTEP.out v' w3 h1 h2)
        clear h1 h2 HO2 HONE HSTEP
        go_wp2_with fail
        go_roundw
        case rel=>exact⟨j+1,_,by omega,rfl,by go_num,HN⟩
        case measure=>simp [intOf];omega
    · have htx:¬ (j:Int)<x:=fun h=>ht (htj.1 h)
      have hval:(z4a old b t).getD j 0=old.getD j 0:=by rw [hva,if_neg ht]
      generalize hz:old.getD j 0=z at *
      clear hz hva htj
      have HONE:Hid (∀ i u,(eb z)[i]?=some u→(wr.alloc (.cells #[.int .u8 z] 5)).cell? ⟨wr.heap.size,i,none⟩=some u):=hid (z8a wr z)
      have HSTEP:=hid (z9f (x:=z) (V:=z4a old b t) HF.out hjl hval)
      rw [hlj] at HSTEP
      have HO2:=hid (q0n (x:=z) HF.out)
      rw [hlj] at HO2
      have HSZ:Hid (W1.heap.size≤(wr.alloc (.cells #[.int .u8 z] 5)).heap.size):=hid (by have:=HF.out.below.size;simp;omega)
      go_wp2_with (at_builtin;refine z3c rfl _ _ rfl W1.heap.size _ j ((z4a old b t).take j) rfl HO2.out hjm z wr.heap.size rfl HONE.out HSZ.out ?_;intro v' w3 h1 h2)
      have HN:=hid (HSTEP.out v' w3 h1 h2)
      clear h1 h2 HO2 HONE HSTEP
      go_wp2_with fail
      go_roundw
      case rel=>exact⟨j+1,_,by omega,rfl,by go_num,HN⟩
      case measure=>simp [intOf];omega
  · obtain rfl:s=j:=by omega
    obtain⟨Wb,hWb⟩:∃ Wb,Wb=wr:=⟨_,rfl⟩
    subst hWb
    obtain⟨pv2,cv2,hv2,hbk,hub⟩:=own_bytes HF.out.own
    rw [hlj] at hv2 hbk
    cases hv2
    rw [List.take_of_length_le (by omega)] at hbk
    have HBK:=hid hbk
    have HUB:=hid hub
    have HS0:=hid (fi_start (wr:=Wb) (Q:=Q) (s:=s) (fun k hk=>HN0.out k (by have:=hbr.size;omega)))
    have HY2:=hid (z0b HY.out HF.out.below)
    have HX2:=hid (z0b HX.out HF.out.below)
    have HV2:=hid (HV.out.later hbr)
    have hlenV:(V.set i (z4a old b t)).length=n:=by rw [List.length_set];exact HNN.out
    have HLV:=hid hlenV
    have HSI:Hid (∀ j,j<n→(V.set i (z4a old b t)).getD j []=if i=j then z4a old b t else V.getD j []):=hid fun j hj=>getD_set (by rw [HNN.out];exact hj)
    have hW1s:=HF.out.below.size
    have HWS:Hid (w.heap.size+1<Wb.heap.size):=hid (z0k HX2.out)
    clear hbk hub hlenV HF HBB
    go_wp2_with fail
    generalize hW3:Wb.alloc (.cells #[.slice none 0 0,.int .i64 (s:Nat)] 32)=W3 at *
    clear hW3
    generalize hVV:V.set i (z4a old b t)=VV at *
    have HVV:=hid hVV
    clear hVV
    go_loopw [14] (fun k wr=>∃ (j:Nat) (v1:Value) (L:List (Option Addr × Nat)),j≤n∧k=.int .i64 (j:Nat)∧Hid (Fi Wb wr Q (Wb.heap.size+1) Wb.heap.size s v1 L (VV.take j))) (fun k _=>n-(intOf k).toNat)
    case atStart=>exact⟨0,_,_,Nat.zero_le _,rfl,HS0⟩
    case round =>
     obtain⟨j,v1,L,hj,rfl,HFI⟩:=hrel
     have hlj2:(VV.take j).length=j:=by rw [List.length_take,HLV.out];omega
     obtain⟨p0,c0,hv,hrv⟩:=HFI.out.rv
     rw [hlj2] at hv
     subst hv
     have y0:=z0a (j:=0) (z0b HY2.out HFI.out.below) (v:=.slice p n c) rfl
     have z0:=z0a (j:=0) HFI.out.blk (v:=.slice p0 j c0) rfl
     have z1:=z0a (j:=1) HFI.out.blk (v:=.int .i64 (s:Nat)) rfl
     by_cases hlt2:j<n
     · have hlt2':(j:Int)<n:=by omega
       have hjm:j≤1000000:=by omega
       have HTM:=hid (take_more (V:=VV) (j:=j) (by rw [HLV.out];exact hlt2))
       have hsi:=HSI.out j hlt2
       by_cases hji:i=j
       · subst hji
         rw [if_pos rfl] at hsi
         have hBW:Below wr.heap.size wr (wr.alloc (.cells #[.slice pv s cv] 33)):=(Below.refl _ _).alloc (Nat.le_refl _) _
         have hbkq:=SlG.later HBK.out HFI.out.below
         obtain⟨f1,f2,f3,f4,f5⟩:=fill_one (e:=(pv,cv)) (W2:=wr.alloc (.cells #[.slice pv s cv] 33)) HFI.out hlj2 hBW (z0e _ _) hbkq (fun a ha=>⟨HN0.out _ (by have:=(HUB.out a ha).1;have:=HB.out.size;omega),(HUB.out a ha).2.keep (Chg.of_below (S:=fun _=>False) HFI.out.below) (fun h=>h)⟩)
         have F1:=hid f1
         have F2:=hid f2
         have F3:=hid f3
         have F5:=hid f5
         clear f1 f2 f3 f5 hBW hbkq hrv
         go_wp2_with (at_builtin;refine wpList_append_sl rfl s _ _ rfl (Wb.heap.size+1) (.slice p0 i c0) i L rfl F1.out hjm (pv,cv) wr.heap.size rfl F2.out F3.out ?_;intro v2 w2 ho2 hg2;obtain⟨yy,g0,HN⟩:=F5.out v2 w2 ho2 hg2;obtain⟨p1,c1,rfl,_⟩:=SlG.of_own (d:=d0) (q0y s) (by decide) ho2)
         rw [← hsi,← HTM.out] at HN
         have HN1:=hid HN
         clear HN ho2 hg2 yy g0
         go_wp2_with fail
         go_roundw
         case rel=>exact⟨i+1,_,_,by omega,by go_num,HN1⟩
         case measure=>simp [intOf];omega
       · rw [if_neg hji] at hsi
         have hji':¬ (j:Int)=(i:Int):=by omega
         have hjib:((j:Int)==(i:Int))=false:=by rw [beq_eq_false_iff_ne];exact hji'
         obtain⟨vb,vo,qk,ck,hpe,hck,hbkq,huk⟩:=(HV2.out.later HFI.out.below).one (i:=j) (by rw [HNN.out];exact hlt2)
         subst hpe
         have hBW:Below wr.heap.size wr (wr.alloc (.cells #[.slice qk s ck] 33)).drew:=((Below.refl _ _).alloc (Nat.le_refl _) _).drew
         obtain⟨f1,f2,f3,f4,f5⟩:=fill_one (e:=(qk,ck)) (W2:=(wr.alloc (.cells #[.slice qk s ck] 33)).drew) HFI.out hlj2 hBW (z0e wr _) hbkq huk
         replace f4:(wr.alloc (.cells #[.slice qk s ck] 33)).cell? ⟨Wb.heap.size,0,none⟩=some (.slice p0 j c0):=f4
         have F1:=hid f1
         have F2:=hid f2
         have F3:=hid f3
         have F5:=hid f5
         clear f1 f2 f3 f5 hBW hbkq huk hrv
         go_wp2_with fail
         go_region_law (first
          | (refine step_append_sl rfl s (.tmp 85) (.tmp 91) rfl (Wb.heap.size+1) (.slice p0 j c0) j L (by simp [Act.eval]) F1.out hjm (qk,ck) wr.heap.size (by simp [Act.eval]) F2.out F3.out ?_;intro v2 w2 ho2 hg2;obtain⟨yy,g0,HN⟩:=F5.out v2 w2 ho2 hg2;obtain⟨p1,c1,rfl,_⟩:=SlG.of_own (d:=d0) (q0y s) (by decide) ho2))
         all_goals
          rw [← hsi,← HTM.out] at HN
          have HN1:=hid HN
          clear HN ho2 hg2 yy g0
          go_wp2_with fail
          go_roundw
          case rel=>exact⟨j+1,_,_,by omega,by go_num,HN1⟩
          case measure=>simp [intOf];omega
     · obtain rfl:n=j:=by omega
       have htk:VV.take n=VV:=List.take_of_length_le (by rw [HLV.out];exact Nat.le_refl _)
       rw [htk] at hrv
       have HRV:=hid hrv
       have hA:wr.heap[w.heap.size+1]?=some (.cells #[.slice none 0 0,.int .i64 0] 32 (0,0)):=z0b HX2.out HFI.out.below
       have x0:=z0a (j:=0) hA (v:=.slice none 0 0) rfl
       have x1:=z0a (j:=1) hA (v:=.int .i64 0) rfl
       have g0:=z0c 0 hA
       have g1:=z0c 1 hA
       have HXX:Hid (((wr.setCell ⟨w.heap.size+1,0,none⟩ (.slice p0 n c0)).setCell ⟨w.heap.size+1,1,none⟩ (.int .i64 (s:Nat))).heap[w.heap.size+1]?=some (.cells #[.slice p0 n c0,.int .i64 (s:Nat)] 32 (0,0))):=hid (z0m 1 _ (z0m 0 _ hA))
       have HC:Hid (Chg (fun k=>k=w.heap.size+1) wr ((wr.setCell ⟨w.heap.size+1,0,none⟩ (.slice p0 n c0)).setCell ⟨w.heap.size+1,1,none⟩ (.int .i64 (s:Nat)))):=hid (((Chg.refl (fun k=>k=w.heap.size+1) wr).setCell ⟨w.heap.size+1,0,none⟩ _ fun _=>rfl).setCell ⟨w.heap.size+1,1,none⟩ _ fun _=>rfl)
       have HTY:Hid (∀ k,U8 wr k→¬ k=w.heap.size+1):=hid fun k ⟨cs,hk⟩ e=>by
        rw [e,hA] at hk
        cases hk
       have HTS:Hid (∀ k,US wr k→¬ k=w.heap.size+1):=hid fun k ⟨cs,hk⟩ e=>by
        rw [e,hA] at hk
        cases hk
       have HBQ:=hid (HBR.out.trans (HFI.out.below.mono HBR.out.size))
       clear hA hrv htk
       go_wp2_with fail
       refine bodyPost_ret (v:=.tuple #[.agg #[.slice p0 n c0,.int .i64 (s:Nat)],.int .i64 0]) ?_ rfl ?_
       · exact z4i rfl _ _ (w.heap.size+1) _ _ _ rfl rfl HXX.out rfl rfl
       · refine⟨p0,c0,rfl,?_,?_⟩
         · rw [HVV.out]
           exact HRV.out.keep_typed HC.out (fun k _ h=>HTS.out k h) (fun k _ h=>HTY.out k h)
         · exact HC.out.below HBQ.out HBQ.out.size fun k hk=>by omega
end Go.Proofs.YtfdgnniicjdjdaaGreatDoor
