import Derived.Stop.RegionWithIn
import Derived.Shelf.Abstract
import Derived.Test.YtfdgnniicjdjdaaGreatDoorPS47
namespace Go.Proofs.YtfdgnniicjdjdaaGreatDoor
open Go.Lib (hid)
set_option maxHeartbeats 8000000
open Go.RowKit Go.ChangeShapes Go.WideShapes
set_option linter.unusedVariables false
set_option maxRecDepth 10000
set_option linter.unusedSimpArgs false
section
attribute [local go_sem] Oper.semAt_some
theorem sl_kept {w w':World} {row:Option Nat} {p:Option Addr} {n c:Nat} {L:List Nat} (h:Sl w p n c L) (hg:w.grownBy w' row) (hr:∀ r,row=some r→∃ o:Obj,w.heap[r]?=some o∧o.isCells=false):Sl w' p n c L:=by
 refine⟨h.len,h.cap,h.nil,h.lt,fun h0=>?_⟩
 obtain⟨b,off,rfl,hlt,hc⟩:=h.blk h0
 obtain⟨o,ho,hcl⟩:=z8z (hc 0 h0)
 have hb:=hg.block b hlt fun e=>by
  obtain⟨o',ho',hc'⟩:=hr b e.symm
  rw [ho] at ho'
  cases ho'
  rw [hcl] at hc'
  cases hc'
 exact⟨b,off,rfl,fun j hj=>(World.cell?_of_block (a:=⟨b,off+j,none⟩) hb).trans (hc j hj)⟩
theorem TellY.kept {w w':World} {row:Option Nat} {B:List Nat} {pre:List Yl} {x:Yl} (h:TellY B pre x w) (hg:w.grownBy w' row) (hr:∀ r,row=some r→∃ o:Obj,w.heap[r]?=some o∧o.isCells=false):TellY B pre x w':=⟨sl_kept h.sl hg hr,h.lt,h.P,h.z,h.e⟩
theorem sl_below {w w':World} {N:Nat} {p:Option Addr} {n c:Nat} {L:List Nat} (h:Sl w p n c L) (hb:Below N w w') (hN:w.heap.size=N):Sl w' p n c L:=h.later (by rw [hN];exact hb)
theorem ScA.own {W6:World} {B:List Nat} {tm:Yl→Nat→Array Value} {pre:List Yl} {x:Yl} {a':Act}:OwnFrom W6.heap.size (fun (_:Unit) X=>ScA W6 B tm pre x a' X):=fun _ X X' row hs hg hr=>by
 obtain⟨⟨Bf,h1,h2,h3⟩,ht⟩:=hs
 refine⟨⟨Bf,h1,(hg.block Bf (z0g h2) fun e=>?_).trans h2,h3⟩,ht.kept hg fun r e=>(hr r e).2⟩
 obtain⟨_,o,ho,hc⟩:=hr Bf e.symm
 rw [h2] at ho
 cases ho
 cases hc
theorem ScI.ret {W6 X X':World} {N a i:Nat} {B:List Nat} {v:Value} {H:List Eh} {out:List (Nat × Rx)} {er:Int} (h6:W6.heap.size=N+6) (hI:Chg (fun k=>k=N∨k=N+4) W6 X) (hF:FE (N+6) X v H (offE a out)) (hs:z4x B=(out,i,er)) (hc:Chg (fun k=>N≤k∧k<N+5) X X') (h1:Boxed X' (N+1) 74 v) (h2:Boxed X' (N+2) 2 (.int .i64 ((a+i:Nat):Int))) (h3:Boxed X' (N+3) 56 (.int .i64 er)):ScX W6 N a B X' :=
 ⟨⟨v,H,out,i,er,h1,h2,h3,hF.keep hc.size fun b hb hlt=>hc.block b hlt (by omega),hs⟩,(hI.mono (T:=fun k=>N≤k∧k<N+5) fun k _ h=>by omega).trans hc fun _ _ h=>h⟩
theorem ret3 {W6 X:World} {N a i:Nat} {B:List Nat} {p:Option Addr} {m c:Nat} {H:List Eh} {out:List (Nat × Rx)} {er at_:Int} {v1 v2 v3:Value} (h6:W6.heap.size=N+6) (hI:Chg (fun k=>k=N∨k=N+4) W6 X) (hF:FE (N+6) X (.slice p m c) H (offE a out)) (hs:z4x B=(out,i,er)) (hat:((a+i:Nat):Int)=at_) (h1:Boxed X (N+1) 74 v1) (h2:Boxed X (N+2) 2 v2) (h3:Boxed X (N+3) 56 v3) :
 KeepsFrom W6.heap.size X (((X.setCell ⟨N+1,0,none⟩ (.slice p m c)).setCell ⟨N+2,0,none⟩ (.int .i64 at_)).setCell ⟨N+3,0,none⟩ (.int .i64 er)).drew∧ScX W6 N a B (((X.setCell ⟨N+1,0,none⟩ (.slice p m c)).setCell ⟨N+2,0,none⟩ (.int .i64 at_)).setCell ⟨N+3,0,none⟩ (.int .i64 er)).drew:=by
 have hk:KeepsFrom W6.heap.size X (((X.setCell ⟨N+1,0,none⟩ (.slice p m c)).setCell ⟨N+2,0,none⟩ (.int .i64 at_)).setCell ⟨N+3,0,none⟩ (.int .i64 er)):=((((KeepsOthers.setCell _ _ _).trans (KeepsOthers.setCell _ _ _)).trans (KeepsOthers.setCell _ _ _)).from _)
 have hc:Chg (fun k=>N≤k∧k<N+5) X (((X.setCell ⟨N+1,0,none⟩ (.slice p m c)).setCell ⟨N+2,0,none⟩ (.int .i64 at_)).setCell ⟨N+3,0,none⟩ (.int .i64 er)):=(((Chg.refl (fun k=>N≤k∧k<N+5) X).setCell ⟨N+1,0,none⟩ _ (fun _=>by dsimp only;omega)).setCell ⟨N+2,0,none⟩ _ (fun _=>by dsimp only;omega)).setCell ⟨N+3,0,none⟩ _ (fun _=>by dsimp only;omega)
 subst hat
 exact⟨⟨hk.size,hk.same⟩,ScI.ret h6 hI hF hs (hc.drewN 1) (((h1.set _).other (by omega) _).other (by omega) _) (((h2.other (by omega) _).set _).other (by omega) _) (((h3.other (by omega) _).other (by omega) _).set _)⟩
theorem Boxed.later {w w':World} {b:Nat} {T:TypeId} {v:Value} (h:Boxed w b T v) (hb:Below w.heap.size w w'):Boxed w' b T v:=z0c h hb
theorem ScI.later {W6 X w':World} {N a:Nat} {B:List Nat} {pre:List Yl} (h6:W6.heap.size=N+6) (h:ScI W6 N a B pre X) (hb:Below X.heap.size X w'):ScI W6 N a B pre w' :=
 ScI.own h6 pre X w' none h ⟨hb.os,hb.tape,hb.output,hb.size,fun k hk _=>hb.block k hk⟩ fun r e=>by cases e
theorem keepsFrom_below {A:Nat} {X Y:World} (h:Below X.heap.size X Y):KeepsFrom A X Y:=⟨h.size,fun k o _ ho _=>(h.block k (Array.getElem?_eq_some_iff.1 ho).1).trans ho⟩
theorem sc_mid {W6 w3 w5 w6:World} {N a ml cv Bf:Nat} {at_:Int} {B:List Nat} {pre:List Yl} {pv p':Option Addr} {n' c':Nat} {H H0:List Eh} {S S0:List En} {u0 u1:Value} (h6:W6.heap.size=N+6) (hI:ScI W6 N a B pre w3) (hV:Boxed w3 (N+4) 74 (.slice pv ml cv)) (hA:Boxed w3 N 2 (.int .i64 at_)) (hb5:Below w3.heap.size w3 w5) (hF5:FE (N+6) w5 (.slice pv ml cv) H0 S0)
 (hbF:w3.heap[Bf]?=some (.cells #[u0,u1] 142 (0,0))) (hBf:W6.heap.size≤Bf) (hfe:FE (N+6) w6 (.slice p' n' c') H S) (hchg:Chg (fun b=>(Value.slice pv ml cv).ownBlock=some b) w5 w6) (hlo:∀ b,(Value.slice pv ml cv).ownBlock=some b→N+6≤b) :
 w6.cell? ⟨N+4,0,none⟩=some (.slice pv ml cv)∧w6.frozen? ⟨N+4,0,none⟩=false∧(w6.setCell ⟨N+4,0,none⟩ (.slice p' n' c')).cell? ⟨N,0,none⟩=some (.int .i64 at_)∧(w6.setCell ⟨N+4,0,none⟩ (.slice p' n' c')).frozen? ⟨N,0,none⟩=false∧(w6.setCell ⟨N+4,0,none⟩ (.slice p' n' c')).cell? ⟨Bf,1,none⟩=some u1 ∧
 Hid (∀ (at2:Int) (x:Yl) (out:List (Nat × Rx)),S=offE a out→Sx B out (zsY (pre ++ [x]))→x.e=0→at2=((a+zsY (pre ++ [x]):Nat):Int)→KeepsFrom W6.heap.size w3 ((w6.setCell ⟨N+4,0,none⟩ (.slice p' n' c')).setCell ⟨N,0,none⟩ (.int .i64 at2))∧KpS (fun k=>k<N∨k=N+5) w3 ((w6.setCell ⟨N+4,0,none⟩ (.slice p' n' c')).setCell ⟨N,0,none⟩ (.int .i64 at2))∧ScI W6 N a B (pre ++ [x]) ((w6.setCell ⟨N+4,0,none⟩ (.slice p' n' c')).setCell ⟨N,0,none⟩ (.int .i64 at2))):=by
 have hs5:=hb5.size
 have hsz:W6.heap.size≤w3.heap.size:=hI.chg.size
 have hbl:∀ k,k<N+6→w6.heap[k]?=w3.heap[k]?:=fun k hk=>(hchg.block k (by omega) fun e=>by have:=hlo k e;omega).trans (hb5.block k (by omega))
 have hV6:Boxed w6 (N+4) 74 (.slice pv ml cv):=(hbl _ (by omega)).trans hV
 have hA6:Boxed w6 N 2 (.int .i64 at_):=(hbl _ (by omega)).trans hA
 have hown:∀ k,(Value.slice pv ml cv).ownBlock=some k→∃ cs,w5.heap[k]?=some (.cells cs 85 (0,0)):=fun k hk=>by
  rcases hF5.own.2 with ⟨hn,_⟩ | ⟨g,cap,cur,he,_,hgb,_⟩
  · rw [hn] at hk
    cases hk
  · rw [he] at hk
    cases hk
    exact⟨_,hgb⟩
 have hF6:w6.heap[Bf]?=some (.cells #[u0,u1] 142 (0,0)):=by
  have h5:=z0c hbF hb5
  refine (hchg.block Bf (z0g h5) fun e=>?_).trans h5
  obtain⟨cs,hc⟩:=hown Bf e
  rw [h5] at hc
  cases hc
 have hV7:Boxed (w6.setCell ⟨N+4,0,none⟩ (.slice p' n' c')) (N+4) 74 (.slice p' n' c'):=hV6.set _
 have hA7:Boxed (w6.setCell ⟨N+4,0,none⟩ (.slice p' n' c')) N 2 (.int .i64 at_):=hA6.other (by omega) _
 have hc7:Chg (fun k=>k=N∨k=N+4) w6 (w6.setCell ⟨N+4,0,none⟩ (.slice p' n' c')):=(Chg.refl _ _).setCell ⟨N+4,0,none⟩ _ fun _=>.inr rfl
 have hF7:(w6.setCell ⟨N+4,0,none⟩ (.slice p' n' c')).heap[Bf]?=some (.cells #[u0,u1] 142 (0,0)):=(hc7.block Bf (z0g hF6) (by omega)).trans hF6
 refine⟨hV6.cell,hV6.frozen,hA7.cell,hA7.frozen,z0a hF7 rfl,hid fun at2 x out hS hsx he hat=>?_⟩
 have hc8:Chg (fun k=>k=N∨k=N+4) w6 ((w6.setCell ⟨N+4,0,none⟩ (.slice p' n' c')).setCell ⟨N,0,none⟩ (.int .i64 at2)):=hc7.setCell ⟨N,0,none⟩ _ fun _=>.inl rfl
 have hs6:=hchg.size
 refine⟨⟨Nat.le_trans hs5 (Nat.le_trans hs6 hc8.size),fun k o hk ho hc=>?_⟩,⟨Nat.le_trans hs5 (Nat.le_trans hs6 hc8.size),fun k hk hl=>?_⟩,⟨⟨_,H,out,hV7.other (by omega) _,?_,hsx⟩,?_,?_,?_⟩⟩
 · have h5:w5.heap[k]?=some o:=(hb5.block k (Array.getElem?_eq_some_iff.1 ho).1).trans ho
   have h6':w6.heap[k]?=some o:=(hchg.block k (Array.getElem?_eq_some_iff.1 h5).1 fun e=>by
    obtain⟨cs,hcs⟩:=hown k e
    rw [h5] at hcs
    cases hcs
    cases hc).trans h5
   exact (hc8.block k (Array.getElem?_eq_some_iff.1 h6').1 (by omega)).trans h6'
 · have:k<N+6:=by omega
   exact (hc8.block k (by omega) (by omega)).trans (hbl k this)
 · rw [← hS]
   exact hfe.keep hc8.size fun b hb hlt=>hc8.block b hlt (by omega)
 · rw [← hat]
   exact hA7.set _
 · intro y hy
   rcases List.mem_append.1 hy with hy | hy
   · exact hI.ok y hy
   · rw [List.mem_singleton] at hy
     rw [hy]
     exact he
 · exact ((hI.chg.trans (T:=fun _=>False) (Chg.of_below hb5) fun _ _ h=>h.elim).trans hchg fun k hk e=>by have:=hlo k e;omega).trans hc8 fun _ _ h=>h
theorem sc_fin {W W6 X:World} {N a D:Nat} {B:List Nat} (h6:W6.heap.size=N+6) (hN:W.heap.size=N) (hb6:Below N W W6) (hX:ScX W6 N a B X) (hD:W6.heap.size≤D) (hK:X.heap[D]?=some (.deferred (some []))) :
 ∃ v i er,(X.putObj D (.deferred none)).cell? ⟨N+1,0,none⟩=some v∧(X.putObj D (.deferred none)).cell? ⟨N+2,0,none⟩=some (.int .i64 i)∧(X.putObj D (.deferred none)).cell? ⟨N+3,0,none⟩=some (.int .i64 er)∧q0y W a B (.returned (.tuple #[v,.int .i64 i,.int .i64 er])) (X.putObj D (.deferred none)):=by
 have h:=ScX.own h6 [] X _ _ hX (grownBy_putObj' X D (.deferred none)) fun r e=>by cases e;exact⟨hD,_,hK,rfl⟩
 obtain⟨v,H,out,i,er,h1,h2,h3,h4,h5⟩:=h.all
 obtain⟨p,c,hv,hel⟩:=h4.el
 refine⟨v,_,er,h1.cell,h2.cell,h3.cell,p,c,H,?_,?_,?_⟩
 · rw [h5,hv,z6o]
 · rw [h5]
   rw [z6o] at hel
   exact hel
 · rw [hN]
   exact Chg.below hb6 (by omega) h.chg fun k hk=>hk.1
theorem five_alloc (w:World) (c0 c1 c2 c3 c4:Array Value) (T0 T1 T2 T3 T4:TypeId):∃ W,((((w.alloc (.cells c0 T0)).alloc (.cells c1 T1)).alloc (.cells c2 T2)).alloc (.cells c3 T3)).alloc (.cells c4 T4)=W∧W.heap.size=w.heap.size+5∧Below w.heap.size w W∧W.heap[w.heap.size]?=some (.cells c0 T0 (0,0))∧W.heap[w.heap.size+1]?=some (.cells c1 T1 (0,0))∧W.heap[w.heap.size+2]?=some (.cells c2 T2 (0,0))∧W.heap[w.heap.size+3]?=some (.cells c3 T3 (0,0))∧W.heap[w.heap.size+4]?=some (.cells c4 T4 (0,0)):=by
 have b1:∀ (v:World) (o:Obj),Below v.heap.size v (v.alloc o):=fun v o=>(Below.refl _ _).alloc (Nat.le_refl _) _
 have s1:∀ (v:World) (o:Obj),(v.alloc o).heap.size=v.heap.size+1:=fun v o=>World.size_alloc v o
 have n1:∀ (v:World) (o:Obj),(v.alloc o).heap[v.heap.size]?=some o:=fun v o=>z0b v o
 obtain⟨w1,h1⟩:∃ x,w.alloc (.cells c0 T0)=x:=⟨_,rfl⟩
 obtain⟨w2,h2⟩:∃ x,w1.alloc (.cells c1 T1)=x:=⟨_,rfl⟩
 obtain⟨w3,h3⟩:∃ x,w2.alloc (.cells c2 T2)=x:=⟨_,rfl⟩
 obtain⟨w4,h4⟩:∃ x,w3.alloc (.cells c3 T3)=x:=⟨_,rfl⟩
 obtain⟨w5,h5⟩:∃ x,w4.alloc (.cells c4 T4)=x:=⟨_,rfl⟩
 have e1:=s1 w (.cells c0 T0)
 have e2:=s1 w1 (.cells c1 T1)
 have e3:=s1 w2 (.cells c2 T2)
 have e4:=s1 w3 (.cells c3 T3)
 have e5:=s1 w4 (.cells c4 T4)
 have k1:=n1 w (.cells c0 T0)
 have k2:=n1 w1 (.cells c1 T1)
 have k3:=n1 w2 (.cells c2 T2)
 have k4:=n1 w3 (.cells c3 T3)
 have k5:=n1 w4 (.cells c4 T4)
 have q1:=b1 w (.cells c0 T0)
 have q2:=b1 w1 (.cells c1 T1)
 have q3:=b1 w2 (.cells c2 T2)
 have q4:=b1 w3 (.cells c3 T3)
 have q5:=b1 w4 (.cells c4 T4)
 rw [h1] at e1 k1 q1
 rw [h2] at e2 k2 q2
 rw [h3] at e3 k3 q3
 rw [h4] at e4 k4 q4
 rw [h5] at e5 k5 q5
 rw [e1] at k2
 rw [e2,e1] at k3
 rw [e3,e2,e1] at k4
 rw [e4,e3,e2,e1] at k5
 have q45:=q4.trans (q5.mono q4.size)
 have q35:=q3.trans (q45.mono q3.size)
 have q25:=q2.trans (q35.mono q2.size)
 refine⟨w5,by rw [h1,h2,h3,h4,h5],by omega,q1.trans (q25.mono q1.size),z0c k1 q25,z0c k2 q35,z0c k3 q45,z0c k4 q5,k5⟩
set_option maxRecDepth 100000 in
theorem wal_scan (p:Option Addr) (n c:Nat) (B:List Nat) (a:Nat) (W:World) (hw:Wd4 W) (hS:Sl W p n c B) (hcm:c≤maxLen) (hn:n≤100000) (ha:a≤4000000000000000) :
 Calls Tryz.prog 30 #[.slice p n c,.int .i64 (a:Nat)] W (q0y W a B):=by
 obtain⟨W5,hW5,hs5,hb5,k0,k1,k2,k3,k4⟩:=five_alloc W #[.int .i64 (a:Nat)] #[.slice none 0 0] #[.int .i64 0] #[.int .i64 0] #[.slice none 0 0] 2 74 2 56 74
 refine callsIn_wide (n:=6).1 ?_
 refine callsIn_of_wp_marks Tryz.func30 rfl trivial ?_ rfl
 simp only [Tryz.ntmps30,List.size_toArray,List.length_cons,List.length_nil,Nat.reduceAdd,Nat.reduceSub,Array.replicate_succ,Array.replicate_zero,List.push_toArray,List.append_toArray,List.nil_append,List.cons_append]
 have hwide:∀ f,Fence.wide.fn f:=fun _=>trivial
 obtain⟨N,hN⟩:∃ N,W.heap.size=N:=⟨_,rfl⟩
 rw [hN] at hs5 hb5 k0 k1 k2 k3 k4
 have HW5:=hid hW5
 have HN:=hid hN
 have HWD:=hid hw
 have HSL:=hid hS
 have HB5:=hid hb5
 have hs6:(W5.alloc (.cells #[.slice p n c] 33)).heap.size=N+6:=by simp [hs5]
 have hb6:Below W5.heap.size W5 (W5.alloc (.cells #[.slice p n c] 33)):=(Below.refl _ _).alloc (Nat.le_refl _) _
 have k5:=z0b W5 (.cells #[.slice p n c] 33)
 rw [hs5] at k5
 have H0:=hid (z0c k0 hb6)
 have H1:=hid (z0c k1 hb6)
 have H2:=hid (z0c k2 hb6)
 have H3:=hid (z0c k3 hb6)
 have H4:=hid (z0c k4 hb6)
 have H5:=hid k5
 have HB6:Hid (Below N W (W5.alloc (.cells #[.slice p n c] 33))):=hid (hb5.trans (hb6.mono (by omega)))
 have HS5:=hid hs5
 clear hW5 hN hw hS hb5 k0 k1 k2 k3 k4 k5 hb6 hs5
 gi_wp2
 rw [HW5.out,HN.out]
 simp only [Nat.add_assoc,Nat.reduceAdd]
 refine ((callsIn_wide (n:=5)).2 (wal_frames p n c W5)).mono ?_
 rintro e w' ⟨rfl,rfl⟩
 rw [HS5.out]
 generalize W5.alloc (.cells #[.slice p n c] 33)=W6 at *
 have HI0:Hid (ScI W6 N a B [] W6):=hid ⟨⟨.slice none 0 0,[],[],H4.out,FE.nil _ _,Sx.start B⟩,H0.out,(fun y h=>by cases h),Chg.refl _ _⟩
 have HSL6:=hid (sl_below HSL.out HB6.out HN.out)
 have HWD6:=hid (HWD.out.later (by rw [HN.out];exact HB6.out))
 have HG:Hid (1<N):=hid (by rw [← HN.out];exact HWD.out.1.lt)
 have HPB:Hid (0<n→∀ ad,p=some ad→ad.block<N):=hid fun h0 ad ha=>by
  obtain⟨b,off,hp,hlt,_⟩:=HSL.out.blk h0
  rw [ha] at hp
  cases hp
  rw [← HN.out]
  exact hlt
 have HLN:=hid HSL.out.len
 have x5:W6.cell? ⟨N+5,0,none⟩=some (.slice p n c):=z0a H5.out rfl
 have hseq:=frames_tells (N+5) (fun k=>k<N∨k=N+5) p n c B W6 x5 HSL6.out hcm hn HWD6.out.1 (.inr rfl) (fun h0 ad ha=>.inl (HPB.out h0 ad ha)) (.inl HG.out)
 have HSEQ:=hid hseq
 clear hseq x5 HB5
 gi_wp2
 have eg:∀ args w,(callFunc 116 args).run Tryz.prog w=.ok (.enter 116 args) w:=enters_of Tryz.func116 (by kernel_rfl) rfl
 refine range_told (n:=6) (encs:=encY) (ps:=#[14,15]) rfl (by decide) (gf:=116) (lb:=#[.pointer (some ⟨N+5,0,none⟩)]) rfl trivial eg HSEQ.out KpS.trans
  (fun X l o o' hl h _ _=>⟨by simp,fun k hk hlt=>World.putObj_heap_other (by omega)⟩) (fun _=>rfl) (ScI W6 N a B) (fun _=>ScX W6 N a B) (ScI.own hs6) (ScX.own hs6) HI0.out
  (ScA W6 B fun x Bf=>#[.slice p n c,.int .i64 (a:Nat),undef,.pointer (some ⟨N,0,none⟩),.pointer (some ⟨N+1,0,none⟩),.pointer (some ⟨N+2,0,none⟩),.pointer (some ⟨N+3,0,none⟩),.pointer (some ⟨N+4,0,none⟩),.pointer (some ⟨Bf,0,none⟩),.int .i64 x.e,undef,undef,.slice p n c,.func (.func 116) #[] #[.pointer (some ⟨N+5,0,none⟩)],.agg #[.slice x.p x.P.length x.c,.int .i64 (x.z:Nat)],.int .i64 x.e,undef,undef,undef,undef,undef,undef,undef,undef,undef,undef,undef,undef,undef,undef,undef,undef,undef,undef,undef,undef,undef,undef,undef,undef,undef,undef,undef])
  (fun _ _ _=>ScA.own) ?assign ?body ?done ?stop
 case assign =>
  rintro l pre x X K' hI hR hlen hK
  dsimp only [encY]
  gi_wp2
  have hg:=World.grownBy_alloc X (.cells #[.slice x.p x.P.length x.c,.int .i64 (x.z:Nat)] 142) none
  have hsz:W6.heap.size≤X.heap.size:=hI.chg.size
  exact hK _ _ ((KeepsOthers.alloc _ _).from _) (KpS.of_below ((Below.refl _ _).alloc (Nat.le_refl _) _)) (ScI.own hs6 _ _ _ _ hI hg (fun r e=>by cases e)) ⟨⟨X.heap.size,hsz,z0b X _,rfl⟩,hR.kept hg fun r e=>by cases e⟩
 case body =>
  rintro l pre x a' X hl hI ⟨⟨Bf,hBf,bF,rfl⟩,hT⟩ hlen
  obtain⟨v,H,out,hv,hFE,hSx⟩:=hI.all
  obtain⟨pv,cv,hvv,_⟩:=hFE.el
  generalize hml:(offE a out).length=ml at hvv
  subst hvv
  have hHl:H.length=out.length:=by rw [hFE.tells.len,z6o]
  have hfew:=hSx.few
  have hzl:=hT.lt
  have hzb:zsY pre<n:=by rw [← HLN.out];exact hzl
  have hF:∀ f,(Fence.wide.inRound l).fn f:=fun _=>trivial
  have f0:=z0a (j:=0) bF (v:=.slice x.p x.P.length x.c) rfl
  have f1:=z0a (j:=1) bF (v:=.int .i64 (x.z:Nat)) rfl
  have cl:=hv.cell
  have fl:=hv.frozen
  have ca:=hI.at_.cell
  have fa:=hI.at_.frozen
  have b1:Boxed X (N+1) 74 (.slice none 0 0):=(hI.chg.block (N+1) (by omega) (by omega)).trans H1.out
  have b2:Boxed X (N+2) 2 (.int .i64 0):=(hI.chg.block (N+2) (by omega) (by omega)).trans H2.out
  have b3:Boxed X (N+3) 56 (.int .i64 0):=(hI.chg.block (N+3) (by omega) (by omega)).trans H3.out
  have cb1:=b1.cell
  have fb1:=b1.frozen
  have cb2:=b2.cell
  have fb2:=b2.frozen
  have cb3:=b3.cell
  have fb3:=b3.frozen
  have HFE:=hid hFE
  have HSX:=hid hSx
  have HTL:=hid hT
  have HII:=hid hI
  have HHL:=hid hHl
  have HB1:=hid b1
  have HB2:=hid b2
  have HB3:=hid b3
  have HBA:=hid hI.at_
  have HBV:=hid hv
  generalize hat:((a+zsY pre:Nat):Int)=at_ at *
  have HAT:=hid hat
  clear hFE hSx hT hI hHl b1 b2 b3 hv hat hfew hzl
  by_cases he:x.e=0
  · have hxz:x.z=6+nN (B.drop (zsY pre)):=by rw [HTL.out.z];exact if_pos (by rw [← HTL.out.e];exact he)
    have hxp:x.P=nP (B.drop (zsY pre)):=by rw [HTL.out.P];exact if_pos (by rw [← HTL.out.e];exact he)
    have hne:nE (B.drop (zsY pre))=0:=by rw [← HTL.out.e];exact he
    have hz:=z7c hne
    have hpl:x.P.length≤512:=by rw [hxp,q1x hne];omega
    rw [List.length_drop,HLN.out] at hz
    have hXB:Below N W X:=Chg.below HB6.out (by omega) HII.out.chg fun k hk=>by omega
    have HWX:=hid (HWD.out.later (by rw [HN.out];exact hXB))
    have hdec:=callsIn_wide (n:=3).2 (rec_decode x.p x.P.length x.c x.P X HWX.out.2 HTL.out.sl (by omega))
    have HDE:=hid hdec
    have HZ:=hid (And.intro hxz (And.intro hxp (And.intro hne hz)))
    have HE:=hid he
    have e0:x.e=0:=he
    clear hxz hxp hne hz hpl hXB hdec he
    generalize x.P.length=pl at *
    generalize x.e=xe at *
    subst e0
    gi_wp2
    refine HDE.out.mono ?_
    rintro e w1 ⟨r,L,T,M,rfl,hx,hm,hb1,hnw⟩
    obtain⟨N2,hN2⟩:∃ k,w1.heap.size=k:=⟨_,rfl⟩
    obtain⟨w3,hwn,hxn,hbn⟩:∃ w3,(w1.alloc (.cells zr 51)).setRow N2 (rcs r)=w3∧RB w3 N2 r∧Below w1.heap.size w1 w3:=⟨_,rfl,by rw [← hN2];exact setRow_heap _ _ _ _ _ _ (z0b w1 _),below_setRow ((Below.refl _ _).alloc (Nat.le_refl _) _) (by omega) _⟩
    have hxz:RB (w1.alloc (.cells zr 51)) N2 rz:=by rw [← hN2];exact z0b w1 _
    have hb3:Below X.heap.size X w3:=hb1.trans (hbn.mono hb1.size)
    have HX3:=hid hxn
    have HXZ:=hid hxz
    have HWN:=hid hwn
    have HNN:=hid hN2
    have HB:=hid hb3
    have HM:=hid (hm.later hbn)
    have HXX:=hid hx
    have HNW:=hid hnw
    -- what lies there still
    have hI3:ScI W6 N a B pre w3:=ScI.later hs6 HII.out hb3
    have HI3:=hid hI3
    have HF3:=hid (HFE.out.later hb3)
    have cl3:=(Boxed.later HBV.out hb3).cell
    have fl3:=(Boxed.later HBV.out hb3).frozen
    have ca3:=(Boxed.later HBA.out hb3).cell
    have fa3:=(Boxed.later HBA.out hb3).frozen
    have HB13:=hid (Boxed.later HB1.out hb3)
    have HB23:=hid (Boxed.later HB2.out hb3)
    have HB33:=hid (Boxed.later HB3.out hb3)
    have HBA3:=hid (Boxed.later HBA.out hb3)
    have HBV3:=hid (Boxed.later HBV.out hb3)
    have cb13:=(Boxed.cell HB13.out)
    have fb13:=(Boxed.frozen HB13.out)
    have cb23:=(Boxed.cell HB23.out)
    have fb23:=(Boxed.frozen HB23.out)
    have cb33:=(Boxed.cell HB33.out)
    have fb33:=(Boxed.frozen HB33.out)
    have hbF:=z0c bF hb3
    have g1:=z0a (j:=1) hbF (v:=.int .i64 (x.z:Nat)) rfl
    clear hx hm hb1 hnw hwn hxn hbn hxz hN2 hb3 hI3 f0 f1 cl fl ca fa cb1 fb1 cb2 fb2 cb3 fb3
    by_cases hd:(decX x.P).1=0
    · rw [hd]
      have HSS:Hid (Sx B (out ++ [(zsY pre,r.x L T M)]) (zsY pre+x.z)):=hid (by
       have h1:=HSX.out.step HZ.out.2.2.1 (by rw [← HZ.out.2.1];exact hd)
       rw [← HZ.out.2.1,← HXX.out,← HZ.out.1] at h1
       exact h1)
      have hb5:Below w3.heap.size w3 (w3.alloc (.cells (ecs (at_,r)) 85)):=(Below.refl _ _).alloc (Nat.le_refl _) _
      have hX6:N+6≤X.heap.size:=by have:=HII.out.chg.size;omega
      have hsz3:=HB.out.size
      have HNB:=hid (z0b w3 (.cells (ecs (at_,r)) 85))
      have HF5:=hid (HF3.out.later hb5)
      have HT5:Hid (TellsE (w3.alloc (.cells (ecs (at_,r)) 85)) (at_,r) (at_,r.x L T M)):=hid ⟨rfl,L,T,M,rfl,HM.out.later hb5⟩
      have HAP:Hid (∀ b,Lb r b→(Value.slice pv ml cv).ownBlock≠some b):=hid fun b hb e=>by
       have h1:=HNW.out.lb hb
       have h2:=(HFE.out.own.lt b e).2
       omega
      have HLW:Hid (∀ b,Lb r b→N+6≤b):=hid fun b hb=>by
       have:=HNW.out.lb hb
       omega
      have HBG:Hid (H.length+1≤1000000):=hid (by
       have h1:=HSX.out.few
       have h2:=HHL.out
       omega)
      have HB5:=hid hb5
      have HKX:Hid (KpS (fun k=>k<N∨k=N+5) X w3):=hid (KpS.of_below HB.out)
      have HN5:Hid (N+6≤(w3.alloc (.cells (ecs (at_,r)) 85)).heap.size):=hid (by simp;omega)
      have hbh:=fun w=>callsIn_wide (n:=3).2 (wal_behind (a+zsY pre) x.z w (by have:=HZ.out.2.2.2;have:=HZ.out.1;omega))
      rw [HAT.out] at hbh
      have HBH:=hid hbh
      have HEQ:Hid (((a+zsY pre+x.z:Nat):Int)=((a+zsY (pre ++ [x]):Nat):Int)):=hid (by rw [q0c];omega)
      clear hd hb5 hbh
      generalize ((a+zsY pre+x.z:Nat):Int)=at2 at *
      gi_wp2_with (first | ((try rw [HNN.out]);(with_reducible refine in_store_rc r hF HXZ.out ?_ ?_ ?_);rfl;rfl;rw [HWN.out]) | ((with_reducible refine in_load_rc hF HX3.out ?_ ?_);rfl) | ((with_reducible refine in_build_e (v:=at_) (r:=r) hF rfl ?_ ?_ ?_);rfl;rfl) | ((with_reducible refine in_slice_e (h':=(at_,r)) hF rfl ?_ ?_);rfl) | ((with_reducible refine in_append_e hF rfl _ _ rfl _ H _ ?_ HF5.out w3.heap.size (at_,r) (at_,r.x L T M) ?_ HNB.out HT5.out HAP.out HLW.out HN5.out HBG.out ?_);rfl;rfl;intro p' c' w6 hfe hchg hlo;obtain⟨y4,z4,y0,z0,yf,HQ⟩:=sc_mid (B:=B) (a:=a) (at_:=at_) hs6 HI3.out HBV3.out HBA3.out HB5.out HF5.out hbF hBf hfe hchg hlo))
      clear hfe hchg hlo
      refine (HBH.out _).mono ?_
      rintro e w7 ⟨rfl,rfl⟩
      gi_wp2
      obtain⟨q1,q2,q3⟩:=HQ.out at2 x (out ++ [(zsY pre,r.x L T M)]) (by rw [offE_snoc,HAT.out]) (by rw [q0c];exact HSS.out) (HTL.out.e.trans HZ.out.2.2.1) HEQ.out
      exact⟨(keepsFrom_below HB.out).trans q1,HKX.out.trans q2,q3⟩
    · generalize hde:(decX x.P).1=de at *
      have d1:(de != 0)=true:=by simpa using hd
      have d2:(de==0)=false:=by simpa using hd
      have d3:decide (de=0)=false:=by simpa using hd
      have HS:Hid (z4x B=(out,zsY pre,8)):=hid (HSX.out.form HTL.out.lt HZ.out.2.2.1 (by rw [← HZ.out.2.1,hde];exact hd))
      have HKF:Hid (KpS (fun k=>k<N∨k=N+5) X w3):=hid (KpS.of_below HB.out)
      clear hd hde
      gi_wp2_with ((try rw [HNN.out]);(with_reducible refine in_store_rc r hF HXZ.out ?_ ?_ ?_);rfl;rfl;rw [HWN.out])
      gi_region_with (fail)
      all_goals
       gi_wp2
       obtain⟨q1,q2⟩:=ret3 (er:=8) hs6 HI3.out.chg HF3.out HS.out HAT.out HB13.out HB23.out HB33.out
       exact⟨(keepsFrom_below HB.out).trans q1,q2⟩
  · have d1:(x.e != 0)=true:=by simpa using he
    have d2:(x.e==0)=false:=by simpa using he
    have d3:decide (x.e=0)=false:=by simpa using he
    have HS:Hid (z4x B=(out,zsY pre,x.e)):=hid (by rw [HTL.out.e];exact HSX.out.wrong HTL.out.lt (by rw [← HTL.out.e];exact he))
    have HE:=hid he
    clear he
    gi_wp2
    gi_region_with (fail)
    all_goals
     gi_wp2
     exact ret3 hs6 HII.out.chg HFE.out HS.out HAT.out HB1.out HB2.out HB3.out
 case done =>
  rintro D ys X hD hdn hI hK
  obtain⟨v,H,out,hv,hFE,hSx⟩:=hI.all
  obtain⟨pv,cv,hvv,_⟩:=hFE.el
  generalize hml:(offE a out).length=ml at hvv
  subst hvv
  have cl:=hv.cell
  have ca:=hI.at_.cell
  have b1:Boxed X (N+1) 74 (.slice none 0 0):=(hI.chg.block (N+1) (by omega) (by omega)).trans H1.out
  have b2:Boxed X (N+2) 2 (.int .i64 0):=(hI.chg.block (N+2) (by omega) (by omega)).trans H2.out
  have b3:Boxed X (N+3) 56 (.int .i64 0):=(hI.chg.block (N+3) (by omega) (by omega)).trans H3.out
  have cb1:=b1.cell
  have fb1:=b1.frozen
  have cb2:=b2.cell
  have fb2:=b2.frozen
  have cb3:=b3.cell
  have fb3:=b3.frozen
  have hend:B.length≤zsY ys:=by
   rcases hdn with h | ⟨y,hy,he⟩
   · exact h
   · exact absurd (hI.ok y hy) he
  have HS:Hid (z4x B=(out,zsY ys,0)):=hid (hSx.done hend)
  have HFE:=hid hFE
  have HII:=hid hI
  have HB1:=hid b1
  have HB2:=hid b2
  have HB3:=hid b3
  have HKD:=hid hK
  generalize hat:((a+zsY ys:Nat):Int)=at_ at *
  have HAT:=hid hat
  clear hFE hSx hI b1 b2 b3 hv hat hdn hend hK
  gi_wp2
  gi_region_with (fail)
  all_goals
   gi_wp2
   obtain⟨q1,q2⟩:=ret3 (er:=0) hs6 HII.out.chg HFE.out HS.out HAT.out HB1.out HB2.out HB3.out
   have hK':=q1.same D _ hD HKD.out rfl
   obtain⟨v,i,er,c1,c2,c3,hG⟩:=sc_fin hs6 HN.out HB6.out q2 hD hK'
   refine⟨by simp,.inl ⟨_,_,rfl,run_takeDeferred hK',?_⟩⟩
   refine⟨.tuple #[v,.int .i64 i,.int .i64 er],?_,hG⟩
   simp [results,Tryz.f30,go_sem,c1,c2,c3]
 case stop =>
  rintro D pre X hD _ hX hK
  obtain⟨v,i,er,c1,c2,c3,hG⟩:=sc_fin hs6 HN.out HB6.out hX hD hK
  gi_wp2
  refine⟨by simp,.inl ⟨_,_,rfl,run_takeDeferred hK,?_⟩⟩
  refine⟨.tuple #[v,.int .i64 i,.int .i64 er],?_,hG⟩
  simp [results,Tryz.f30,go_sem,c1,c2,c3]
end
theorem scanXF_good {B:List Nat} (hB:Byt B):∀ (f i:Nat) (out:List (Nat × Rx)),i≤B.length→7*out.length≤i→(∀ e∈out,z1f e.2=true)→(∀ e∈(z5h f B i out).1,z1f e.2=true)∧7*(z5h f B i out).1.length≤B.length
 | 0,i,out,hi,hf,hg=>⟨hg,Nat.le_trans hf hi⟩
 | f+1,i,out,hi,hf,hg=>by
  unfold z5h
  by_cases h0:B.length≤i
  · rw [if_pos h0]
    exact⟨hg,Nat.le_trans hf hi⟩
  · rw [if_neg h0]
    by_cases h1:nE (B.drop i)≠0
    · rw [if_pos h1]
      exact⟨hg,Nat.le_trans hf hi⟩
    · rw [if_neg h1]
      by_cases h2:(decX (nP (B.drop i))).1≠0
      · rw [if_pos h2]
        exact⟨hg,Nat.le_trans hf hi⟩
      · rw [if_neg h2]
        have hz:=z7c (Decidable.not_not.1 h1)
        rw [List.length_drop] at hz
        refine scanXF_good hB f _ _ (by omega) (by rw [List.length_append,List.length_singleton];omega) fun e he=>?_
        rcases List.mem_append.1 he with he | he
        · exact hg e he
        · rw [List.mem_singleton] at he
          subst he
          refine (encX_dec (fun y hy=>hB y ?_) (Decidable.not_not.1 h2)).1
          unfold nP at hy
          exact List.mem_of_mem_drop (List.mem_of_mem_drop (List.mem_of_mem_take hy))
theorem scanX_smx {B:List Nat} (hB:Byt B) (a:Nat):(∀ E∈offE a (z4x B).1,SmX E.2)∧7*(z4x B).1.length≤B.length:=by
 obtain⟨h1,h2⟩:=scanXF_good hB B.length 0 [] (Nat.zero_le _) (Nat.zero_le _) fun e he=>by cases he
 refine⟨fun E hE=>?_,h2⟩
 obtain⟨e,he,rfl⟩:=List.mem_map.1 hE
 obtain⟨q1,q2,q3⟩:=good_lists3 (h1 e he)
 show SmX e.2
 exact⟨by omega,by omega,by omega⟩
theorem law_wscans (p:Option Addr) (n c:Nat) (Bs:List Nat) (x:Int) (W:World) (hw:Wd4 W) (hS:Sl W p n c Bs) (hcm:c≤maxLen) :
 Calls Tryz.prog 5 #[.slice p n c,.int .i64 x] W fun e w'=>e=.returned (.bool true)∧Below W.heap.size W w':=by
 obtain⟨nk,hk,hkl,hk4⟩:∃ k:Nat,min (n:Int) 3000=(k:Int)∧k≤n∧k≤3000:=⟨min n 3000,by omega,Nat.min_le_left ..,Nat.min_le_right ..⟩
 obtain⟨a,ha,hal⟩:∃ a:Nat,min (max x 0) 1099511627776=(a:Int)∧a≤1099511627776:=⟨(min (max x 0) 1099511627776).toNat,by omega,by omega⟩
 have hcap:=hS.cap
 have hSk:=hS.take nk hkl
 obtain⟨hsx,hfw⟩:=scanX_smx (B:=Bs.take nk) hSk.lt a
 rw [hSk.len] at hfw
 have HSK:=hid hSk
 have HCM:=hid hcm
 have HWD:=hid hw
 have HSX:=hid hsx
 have HFW:=hid hfw
 clear hS hcm hw hSk hsx hfw
 generalize Bs.take nk=B at *
 go_enter Tryz.func5,Tryz.ntmps5
 go_wp2_with fail
 refine (wal_scan p nk c B a W HWD.out HSK.out HCM.out (by omega) (by omega)).mono ?_
 rintro e w1 ⟨p1,c1,H1,rfl,hel1,hb1⟩
 have HB1:=hid hb1
 have HE1:=hid hel1
 have hrs:=rwal_scan p nk c B a w1 ((HWD.out.later hb1).2) (HSK.out.later hb1) HCM.out (by omega) (by omega)
 obtain⟨m,hm⟩:∃ m,(z4x B).1.length=m:=⟨_,rfl⟩
 have HM:=hid hm
 have hm1:m≤3000:=by have:=HFW.out;omega
 rw [hm] at HE1 ⊢
 obtain⟨z,hz⟩:∃ z,a+(z4x B).2.1=z:=⟨_,rfl⟩
 obtain⟨er,her⟩:∃ x,(z4x B).2.2=x:=⟨_,rfl⟩
 have HZ:=hid hz
 have HER:=hid her
 rw [hz,her]
 clear hb1 hel1 hm hz her
 go_wp2_with fail
 refine hrs.mono ?_
 rintro e w2 ⟨p2,c2,H2,rfl,hel2,hb2⟩
 rw [HM.out] at hel2 ⊢
 rw [HZ.out,HER.out]
 have hes:=ents_same (HE1.out.later hb2) hel2 (by omega) HSX.out
 have HB2:=hid (HB1.out.trans (hb2.mono HB1.out.size))
 clear hrs hb2 hel2
 go_wp2_with fail
 refine hes.mono ?_
 rintro e w3 ⟨rfl,hb3⟩
 have HB3:=hid (HB2.out.trans (hb3.mono HB2.out.size))
 have hwk:=wal_works w3 (HWD.out.later HB3.out)
 clear hes hb3
 go_wp2_with fail
 refine hwk.mono ?_
 rintro e w4 ⟨rfl,hb4⟩
 have HB4:=hid (HB3.out.trans (hb4.mono HB3.out.size))
 clear hwk hb4
 go_wp2_with fail
 go_ret
 exact⟨rfl,HB4.out⟩
end Go.Proofs.YtfdgnniicjdjdaaGreatDoor
