import Derived.Test.YtclbkfpbdidaiaaGreatDoorPC99
import Derived.Test.YtclbkfpbdidaiaaGreatDoorPC29
import Derived.Test.YtclbkfpbdidaiaaGreatDoorPC39
namespace Go.Proofs.YtclbkfpbdidaiaaGreatDoor
open Go.Lib (hid)
set_option maxHeartbeats 8000000
open Go.RowKit Go.ChangeShapes Go.WideShapes
set_option linter.unusedVariables false
set_option linter.unusedSimpArgs false
set_option maxRecDepth 10000
theorem words_own {w:World} (hw:Words w) {t:Tv} (h:OwnO w t) {g:Nat} (hg:t.blk=some g):g≠0:=by
 intro e
 rcases h.2 with hn | ⟨g',cap,cur,he,h1,h2,h3,h4,h5,h6⟩
 · unfold Tv.blk at hg
   rw [hn.1] at hg
   cases hg
 · unfold Tv.blk at hg
   rw [he] at hg
   cases hg
   unfold Words World.var? at hw
   rw [gWords] at hw
   simp only [Option.bind_some] at hw
   have h2':w.heap[0]?=some (.cells cur 105 (0,0)):=e ▸ h2
   rw [h2'] at hw
   have hs:cur.size=9:=by
    have:=congrArg (Option.map Array.size) hw
    simpa [wordsL] using this
   omega
theorem Words.turn {w w':World} {S:Nat→Prop} (h:Words w) (hc:Turn S w w') (hn:¬ S 0):Words w':=by
 unfold Words World.var? at h ⊢
 rw [gWords] at h ⊢
 simp only [Option.bind_some] at h ⊢
 have hlt:0<w.heap.size:=by
  rcases Nat.lt_or_ge 0 w.heap.size with h' | h'
  · exact h'
  · rw [Array.getElem?_eq_none h'] at h;cases h
 rw [hc.block _ hlt hn]
 exact h
theorem q0z {α:Type} {enc:α→List Value} {k:Nat} {d:α} {w:World} {p:Option Addr} {n c:Nat} (h:SlG enc k d w p n c []) (w':World):SlG enc k d w' p n c []:=⟨h.len,h.cap,h.max,h.nil,fun h0=>by have:=h.len;simp at this;omega⟩
theorem z6m {w:World} {r:Rv} (h:RvM w r [] [] []) (w':World):RvM w' r [] [] []:=⟨q0z h.l w',q0z h.t w',q0z h.o w'⟩
theorem z8a {r:Rv} {La:List Ln} {Ta:List Tk} {Ma:List Ln} (h:z1j (r.x La Ta Ma)=true) (hk:r.k≠1):La=[]∧Ta=[]∧Ma=[]:=by
 have h1:=z8b h
 have h2:kP r.k=false:=by unfold kP;simpa using hk
 rw [show (r.x La Ta Ma).k=r.k from rfl,h2] at h1
 have h3:r.pg La Ta Ma=noP:=of_decide_eq_true h1
 have h4:=congrArg Pg.lines h3
 have h5:=congrArg Pg.takes h3
 have h6:=congrArg Pg.owes h3
 exact⟨h4,h5,h6⟩
theorem own_shrink {w:World} {T:TypeId} {k base n c m:Nat} {p:Option Addr} {xs:List Value} (h:w.ownsRow base T k (.slice p n c) n xs) (hm:m≤n):w.ownsRow base T k (.slice p m c) m (xs.take (m*k)):=by
 have hmk:m*k≤n*k:=Nat.mul_le_mul_right k hm
 refine⟨by rw [List.length_take,h.1];omega,?_⟩
 rcases h.2 with ⟨h1,h2⟩ | ⟨g,cap,cur,he,h1,h2,h3,h4,h5,h6⟩
 · cases h1
   exact .inl ⟨by rw [show m=0 by omega],by omega⟩
 · cases he
   exact .inr ⟨g,c,cur,rfl,h1,h2,by omega,h4,h5,by rw [← h6,List.take_take,Nat.min_eq_left hmk]⟩
theorem flatG_take {α:Type} {enc:α→List Value} {k:Nat} (hk:∀ x,(enc x).length=k):∀ (L:List α) (m:Nat),z0n enc (L.take m)=(z0n enc L).take (m*k)
 | [],m=>by simp [z0n]
 | x::L,0=>by simp [z0n]
 | x::L,m+1=>by
  have ih:=flatG_take hk L m
  unfold z0n at *
  have e:(m+1)*k=k+m*k:=by rw [Nat.add_mul];omega
  rw [List.take_succ_cons,List.flatMap_cons,List.flatMap_cons,ih,e,List.take_append,hk,List.take_of_length_le (l:=enc x) (by rw [hk];omega),Nat.add_sub_cancel_left]
def aftC (c:Tc) (k:Int) (key:K) (d s:Int):Tc:=if k=3 then { c with dn:=c.dn ++ [(key,d)],sz:=c.sz+s } else if k=5 then { c with dd:=true,sz:=c.sz+s } else { c with dn:=c.dn.dropLast,dd:=true,sz:=c.sz+s }
theorem z8f {p:Option Addr} {n c n' c' g:Nat} (h:(Value.slice p n c).ownBlock=some g):(Value.slice p n' c').ownBlock=some g:=by
 rcases p with _ | p
 · simp [Value.ownBlock] at h
 · simpa [Value.ownBlock] using h
theorem z1p {W V V':World} {S:Nat→Prop} {t:Tv} (h:Turn (fun k=>t.blk=some k) W V) (hc:Chg S V V') (hs:∀ k,S k→W.heap.size≤k):Turn (fun k=>t.blk=some k) W V' :=
 h.trans (S':=S) ⟨hc.os,hc.tape,hc.output,hc.size,hc.block⟩ fun k hk e=>by have:=hs k e;omega
def q0q (W:World) (t:Tv) (c:Tc) (e:Ending) (w':World):Prop:=∃ p n m,e=.returned (.agg #[.int .u32 c.id,.int .u32 c.sg,.int .u8 c.st,.bool c.cp,.bool c.dd,.slice p n m,.int .i64 c.fs,.int .i64 c.sz])∧OwnO w' (⟨c,p,n,m⟩:Tv)∧Turn (fun k=>t.blk=some k) W w'∧∀ g,(⟨c,p,n,m⟩:Tv).blk=some g→t.blk=some g∨W.heap.size≤g
theorem after_3 (t:Tv) (r:Rv) (W:World) (hw:Words W) (hO:OwnO W t) (hn:t.n≤100) (hk:r.k=3) (hP:RvM W r [] [] []) (hok:Rxok (r.x [] [] [])) (s:Int) (hs:z1e (r.x [] [] [])=s) (h0:0≤t.c.sz∧0≤s∧t.c.sz+s≤9223372036854775807) (hpos:(6:Int)=3→1≤t.n) :
 Calls Tryz.prog 95 #[.agg #[.int .u32 t.c.id,.int .u32 t.c.sg,.int .u8 t.c.st,.bool t.c.cp,.bool t.c.dd,.slice t.p t.n t.m,.int .i64 t.c.fs,.int .i64 t.c.sz],.agg (rcs r)] W (q0q W t (aftC t.c 3 (r.ka,r.kb,r.kc) r.d s)):=by
 obtain⟨hb0,hx0,hy0,hr0⟩:=q2e W #[.int .u32 t.c.id,.int .u32 t.c.sg,.int .u8 t.c.st,.bool t.c.cp,.bool t.c.dd,.slice t.p t.n t.m,.int .i64 t.c.fs,.int .i64 t.c.sz] (rcs r) #[.int .u32 0,.int .u32 0,.int .u8 0,.bool false,.bool false,.slice none 0 0,.int .i64 0,.int .i64 0] 46 42 46
 have HB0:=hid hb0
 have HX:=hid hx0
 have HY:Hid (RB _ (W.heap.size+1) r):=hid hy0
 have HR:=hid hr0
 have HOW:=hid hO
 have HO0:Hid (World.ownsRow _ 0 _ 4 (.slice t.p t.n t.m) t.n (z0n oc t.c.dn)):=hid (z0x (S:=fun _=>False) hO (Chg.of_below hb0) fun _ _ h=>h)
 have HWO:=hid hw
 have HWL:Hid (0<W.heap.size):=hid (World.block_lt_of_cell? _ _ (hw.cell 0 (by omega)))
 have HSZ0:Hid (∀ w',Words w'→Calls Tryz.prog 28 #[.agg (rcs r)] w' fun e w''=>e=.returned (.int .i64 s)∧Below w'.heap.size w' w''):=hid fun w' h=>by
  have h1:=q1o r [] [] [] w' h (z6m hP w') hok ⟨by have:=hP.l.len;simp at this;omega,by have:=hP.t.len;simp at this;omega,by have:=hP.o.len;simp at this;omega⟩
  rw [hs] at h1
  exact h1
 have HG:=hid h0
 have HN:=hid hn
 have HPOS:=hid hpos
 have HCAP:Hid (t.n≤t.m):=hid hO.m.cap
 obtain⟨X,hX⟩:∃ X,W.heap.size=X:=⟨_,rfl⟩
 rw [hX] at HX HY HR
 have HXW:Hid (W.heap.size=X):=hid hX
 clear hb0 hx0 hy0 hr0 hO hn hw hP hok hs h0 hpos
 go_enter Tryz.func95,Tryz.ntmps95
 go_upto_region 1 with (fail)
 clear hX
 generalize ((W.alloc (.cells #[.int .u32 t.c.id,.int .u32 t.c.sg,.int .u8 t.c.st,.bool t.c.cp,.bool t.c.dd,.slice t.p t.n t.m,.int .i64 t.c.fs,.int .i64 t.c.sz] 46)).alloc (.cells (rcs r) 42)).alloc (.cells #[.int .u32 0,.int .u32 0,.int .u8 0,.bool false,.bool false,.slice none 0 0,.int .i64 0,.int .i64 0] 46)=V0 at *
 have HNE:Hid (X≠X+1∧X≠X+2):=hid ⟨by omega,by omega⟩
 have HRW:Hid (W.heap.size≤X+2):=hid (by rw [HXW.out];omega)
 have HYW:Hid (W.heap.size≤X+1):=hid (by rw [HXW.out];omega)
 generalize X+2=R at *
 generalize X+1=Y at *
 obtain⟨x0,x1,x2,x3,x4,x5,x6,x7⟩:=z0i HX.out
 have y0:=z0a (j:=0) HY.out (v:=.int .u8 r.k) rfl
 rw [hk] at y0
 clear hk
 have y5:=z0a (j:=5) HY.out (v:=.int .u8 r.ka) rfl
 have y6:=z0a (j:=6) HY.out (v:=.int .u8 r.kb) rfl
 have y7:=z0a (j:=7) HY.out (v:=.int .u8 r.kc) rfl
 have y8:=z0a (j:=8) HY.out (v:=.int .i64 r.d) rfl
 have hx5:=x5
 have HXN:=hid (z0g HX.out)
 have hb1:Below V0.heap.size V0 (V0.alloc (.cells #[.int .u8 r.ka,.int .u8 r.kb,.int .u8 r.kc,.int .i64 r.d] 105)):=(Below.refl _ _).alloc (Nat.le_refl _) _
 have HX1:=hid (z0b HX.out hb1)
 have HY1:=hid (HY.out.later hb1)
 have HR1:=hid (z0b HR.out hb1)
 have HB1:=hid hb1
 have HON:=hid (op_news V0 ((r.ka,r.kb,r.kc),r.d))
 clear hx5 hb1
 go_upto_region 4 with (at_builtin;refine z1i (k:=4) (by decide) Tryz.underlying44 q0e rfl (by omega) rfl _ _ rfl (.slice t.p t.n t.m) t.n (z0n oc t.c.dn) rfl (HO0.out.alloc _) (some ⟨V0.heap.size,0,none⟩) 1 1 (oc ((r.ka,r.kb,r.kc),r.d)) rfl rfl (fun e=>by cases e) (fun ad e j u hu=>by cases e;rw [Go.WideShapes.add_plain,Nat.zero_add];exact HON.out j u hu) (q1q _) (by have:=HN.out;omega) ?_;intro p6 c6 W6 g1 g2 g3;have HX6:=(g2.block X (z0g HX1.out) (fun e=>by have h1:=HOW.out.lt (show t.blk=some X from e);have h2:=HXW.out;omega)).trans HX1.out;have hz6:=z0o 5 HX6;obtain⟨z0,z1,z2,z3,z4,z5,z6,z7⟩:=z0i HX6)
 clear x0 x1 x2 x3 x4 x5 x6 x7 y0 y5 y6 y7 y8 z0 z1 z2 z3 z4 z5 z6 z7 hz6
 have HX7:Hid ((W6.setCell ⟨X,5,none⟩ (.slice p6 (t.n+1) c6)).heap[X]?=some (.cells #[.int .u32 t.c.id,.int .u32 t.c.sg,.int .u8 t.c.st,.bool t.c.cp,.bool t.c.dd,.slice p6 (t.n+1) c6,.int .i64 t.c.fs,.int .i64 t.c.sz] 46 (0,0))):=hid (z0u 5 (.slice p6 (t.n+1) c6) HX6)
 have hc7:Chg (fun k=>k=X) W6 (W6.setCell ⟨X,5,none⟩ (.slice p6 (t.n+1) c6)):=(Chg.refl _ _).setCell _ _ fun _=>rfl
 have hY6:=(g2.block Y (z0g HY1.out) (fun e=>by have h1:=HOW.out.lt (show t.blk=some Y from e);have h2:=HYW.out;omega)).trans HY1.out
 have hR6:=(g2.block R (z0g HR1.out) (fun e=>by have h1:=HOW.out.lt (show t.blk=some R from e);have h2:=HRW.out;omega)).trans HR1.out
 have HY7:Hid (RB _ Y r):=hid ((hc7.block Y (z0g hY6) (fun e=>HNE.out.1 e.symm)).trans hY6)
 have HR7:=hid ((hc7.block R (z0g hR6) (fun e=>HNE.out.2 e.symm)).trans hR6)
 have HBK:Hid (∀ g,(Value.slice p6 (t.n+1) c6).ownBlock=some g→t.blk=some g∨(W.heap.size≤g∧g≠X)):=hid fun g hg=>by
  rcases g3 g hg with h1 | h1
  · exact .inl h1
  · have h2:=HB1.out.size
    have h3:=HB0.out.size
    have h4:=HXN.out
    exact .inr ⟨by omega,by omega⟩
 have HBR:Hid (∀ g,(Value.slice p6 (t.n+1) c6).ownBlock=some g→g=R→False):=hid fun g hg e=>by
  rcases g3 g hg with h1 | h1
  · have h5:=HOW.out.lt h1
    have h6:=HRW.out
    omega
  · have h2:=HB1.out.size
    have h4:=z0g HR.out
    omega
 have htn:Turn (fun k=>t.blk=some k) W W6:=((Turn.of_below HB0.out).trans (Turn.of_below (S:=fun k=>t.blk=some k) HB1.out) fun _ _ h=>h).trans (S':=fun k=>t.blk=some k) ⟨g2.os,g2.tape,g2.output,g2.size,g2.block⟩ fun _ _ h=>h
 have HW7:=hid ((HWO.out.turn htn (fun e=>words_own HWO.out HOW.out e rfl)).turn (S:=fun k=>k=X) ⟨hc7.os,hc7.tape,hc7.output,hc7.size,hc7.block⟩ (fun e=>by have h1:=HXW.out;have h2:=HWL.out;omega))
 have HT7:=hid (z1p htn hc7 (fun k e=>by rw [e];exact Nat.le_of_eq HXW.out))
 have hfl:z0n oc t.c.dn++oc ((r.ka,r.kb,r.kc),r.d)=z0n oc (t.c.dn ++ [((r.ka,r.kb,r.kc),r.d)]):=by rw [z1d,z3p]
 rw [hfl] at g1
 have HO7:=hid (z0x (S:=fun k=>k=X) g1 hc7 (fun g hg e=>by
  rcases HBK.out g hg with h1 | h1
  · have:=HOW.out.lt h1
    have:=HXW.out
    omega
  · exact h1.2 e))
 clear g1 g2 g3 hc7 hY6 hR6 htn hfl HX6 HX1 HY1 HR1
 generalize W6.setCell ⟨X,5,none⟩ (.slice p6 (t.n+1) c6)=V7 at *
 go_wp2_with fail
 have HX8:Hid (V7.drew.heap[X]?=some (.cells #[.int .u32 t.c.id,.int .u32 t.c.sg,.int .u8 t.c.st,.bool t.c.cp,.bool t.c.dd,.slice p6 (t.n+1) c6,.int .i64 t.c.fs,.int .i64 t.c.sz] 46 (0,0))):=hid HX7.out
 have HR8:Hid (V7.drew.heap[R]?=some (.cells #[.int .u32 0,.int .u32 0,.int .u8 0,.bool false,.bool false,.slice none 0 0,.int .i64 0,.int .i64 0] 46 (0,0))):=hid HR7.out
 have HT8:Hid (Turn (fun k=>t.blk=some k) W V7.drew):=hid HT7.out.drew
 have HO8:Hid (V7.drew.ownsRow _ _ _ _ _ _):=hid (z0x (S:=fun _=>False) HO7.out (Chg.of_below (z0e (Below.refl _ _) 1)) fun _ _ h=>h)
 have HSZ:=hid fun w' (hb:Below V7.drew.heap.size V7.drew w')=>HSZ0.out w' (HW7.out.later ((Below.refl V7.heap.size V7).drew.trans hb))
 have hbd:RB V7.drew Y r:=HY7.out
 clear HX7 HR7 HT7 HO7
 refine wp_region_held_drew (S:=fun w'=>Hid (RB w' Y r)) (by kernel_rfl) (hid hbd) (fun hHeld=>?_)
 clear hbd HY7
 generalize V7.drew=V8 at *
 refine wpAnyH_take (i:=0) (oi:=⟨some 33,_,_,_,_,_⟩) (v:=.pointer (some ⟨X,7,none⟩)) rfl (by kernel_rfl) (by kernel_rfl) (by kernel_rfl) (fun _ _ _ h=>h) (Or.inl ⟨by rfl,fun w' hw'=>?_⟩) (by assumption) ?_
 · clear hHeld
   go_simp
 simp only [Act.put,sIB,sCZ,sCS]
 refine wpAnyH_take (i:=2) (oi:=⟨some 35,_,_,_,_,_⟩) (v:=.agg (rcs r)) rfl (by kernel_rfl) (by kernel_rfl) (by kernel_rfl) (fun _ _ _ h=>h) (Or.inl ⟨by rfl,fun w' hw'=>z2z rfl (Hid.out hw')⟩) (by assumption) ?_
 simp only [Act.put,sIB,sCZ,sCS]
 refine wpAnyH_ready (rs:=[1,3]) (by kernel_rfl) (by simp) (AllReadyH.cons rfl (fun K hK=>?_) (AllReadyH.cons rfl (fun K hK=>?_) (AllReadyH.nil)))
 · have x7:=z0a (j:=7) HX8.out (v:=.int .i64 t.c.sz) rfl
   have hSN:Hid (RB V8 Y r):=hHeld
   go_simp
   go_wp2_with fail
   refine hK.out _ _ hSN (fun hHeld2=>?_)
   try simp only [Act.put,sIB,sCZ,sCS]
   clear hSN hK K hHeld
   have hHeld:=hHeld2
   clear hHeld2
   clear x7
   refine wpAnyH_ready (rs:=[3]) (by kernel_rfl) (by simp) (AllReadyH.cons rfl (fun K hK=>?_) (AllReadyH.nil))
   go_simp
   go_wp2_with fail
   refine (HSZ.out _ (Below.refl _ _)).mono ?_
   rintro e4 w8 ⟨rfl,hb8⟩
   have hSN:Hid (RB w8 Y r):=hid (hHeld.out.later hb8)
   have HX9:=hid (z0b HX8.out hb8)
   have HR9:=hid (z0b HR8.out hb8)
   have HT9:=hid (HT8.out.trans (Turn.of_below (S:=fun k=>t.blk=some k) hb8) fun _ _ h=>h)
   have HO9:=hid (z0x (S:=fun _=>False) HO8.out (Chg.of_below hb8) fun _ _ h=>h)
   clear hb8 HX8 HR8 HT8 HO8
   go_wp2_with fail
   refine hK.out _ _ hSN (fun hHeld2=>?_)
   try simp only [Act.put,sIB,sCZ,sCS]
   clear hSN hK K hHeld
   have hHeld:=hHeld2
   clear hHeld2
   refine wpAnyH_ready (rs:=[4]) (by kernel_rfl) (by simp) (AllReadyH.cons rfl (fun K hK=>?_) (AllReadyH.nil))
   go_simp
   go_wp2_with fail
   refine (z4u t.c.sz s HG.out.1 HG.out.2.1 HG.out.2.2 _).mono ?_
   rintro e5 w9 ⟨rfl,hw9⟩
   subst hw9
   have hSN:Hid (RB w9 Y r):=hHeld
   go_wp2_with fail
   refine hK.out _ _ hSN (fun hHeld2=>?_)
   try simp only [Act.put,sIB,sCZ,sCS]
   clear hSN hK K hHeld
   have hHeld:=hHeld2
   clear hHeld2
   refine wpAnyH_take (i:=5) (oi:=⟨some 38,_,_,_,_,_⟩) (v:=.pointer (some ⟨X,7,none⟩)) rfl (by kernel_rfl) (by kernel_rfl) (by kernel_rfl) (fun _ _ _ h=>h) (Or.inl ⟨by rfl,fun w' hw'=>?_⟩) (by assumption) ?_
   · clear hHeld
     go_simp
   simp only [Act.put,sIB,sCZ,sCS]
   refine wpAnyH_ready (rs:=[6]) (by kernel_rfl) (by simp) (AllReadyH.cons rfl (fun K hK=>?_) (AllReadyH.nil))
   have hx7:=z0a (j:=7) HX9.out (v:=.int .i64 t.c.sz) rfl
   have hf7:=z0o 7 HX9.out
   have HXF:Hid ((w9.setCell ⟨X,7,none⟩ (.int .i64 (t.c.sz+s))).heap[X]?=some (.cells #[.int .u32 t.c.id,.int .u32 t.c.sg,.int .u8 t.c.st,.bool t.c.cp,.bool t.c.dd,.slice p6 (t.n+1) c6,.int .i64 t.c.fs,.int .i64 (t.c.sz+s)] 46 (0,0))):=hid (z0u 7 (.int .i64 (t.c.sz+s)) HX9.out)
   have hcx:Chg (fun k=>k=X) w9 (w9.setCell ⟨X,7,none⟩ (.int .i64 (t.c.sz+s))):=(Chg.refl _ _).setCell _ _ fun _=>rfl
   have hSN:Hid (RB (w9.setCell ⟨X,7,none⟩ (.int .i64 (t.c.sz+s))) Y r):=hid ((hcx.block Y (z0g hHeld.out) (fun e=>HNE.out.1 e.symm)).trans hHeld.out)
   have HRF:=hid ((hcx.block R (z0g HR9.out) (fun e=>HNE.out.2 e.symm)).trans HR9.out)
   have HTF:Hid (Turn (fun k=>t.blk=some k) W (w9.setCell ⟨X,7,none⟩ (.int .i64 (t.c.sz+s)))):=hid (z1p HT9.out hcx (fun k e=>by rw [e];exact Nat.le_of_eq HXW.out))
   have HOF:=hid (z0x (S:=fun k=>k=X) HO9.out hcx (fun g hg e=>by
    rcases HBK.out g hg with h1 | h1
    · have:=HOW.out.lt h1
      have:=HXW.out
      omega
    · exact h1.2 e))
   clear hcx
   go_simp
   go_wp2_with fail
   refine hK.out _ _ hSN (fun hHeld2=>?_)
   try simp only [Act.put,sIB,sCZ,sCS]
   clear hSN hK K hHeld
   have hHeld:=hHeld2
   clear hHeld2
   clear hx7 hf7
   refine wpAnyH_done (by kernel_rfl) ?_ _
   clear hHeld HX9 HR9 HT9 HO9
   generalize w9.setCell ⟨X,7,none⟩ (.int .i64 (t.c.sz+s))=V9 at *
   obtain⟨x0,x1,x2,x3,x4,x5,x6,x7⟩:=z0i HXF.out
   obtain⟨z0,z1,z2,z3,z4,z5,z6,z7⟩:=z0i HRF.out
   obtain⟨f0,f1,f2,f3,f4,f5,f6,f7⟩:=z5j HRF.out
   have HFS:=hid (z3q (a':=.int .u32 t.c.id) (b':=.int .u32 t.c.sg) (c':=.int .u8 t.c.st) (d':=.bool t.c.cp) (e':=.bool t.c.dd) (f':=.slice p6 (t.n+1) c6) (g':=.int .i64 t.c.fs) (h':=.int .i64 (t.c.sz+s)) HRF.out)
   have HCR:Hid (Chg (fun k=>k=R) V9 _):=hid (tchg V9 R (.int .u32 t.c.id) (.int .u32 t.c.sg) (.int .u8 t.c.st) (.bool t.c.cp) (.bool t.c.dd) (.slice p6 (t.n+1) c6) (.int .i64 t.c.fs) (.int .i64 (t.c.sz+s)))
   go_wp2_with fail
   refine bodyPost_ret (v:=.agg #[.int .u32 t.c.id,.int .u32 t.c.sg,.int .u8 t.c.st,.bool t.c.cp,.bool t.c.dd,.slice p6 (t.n+1) c6,.int .i64 t.c.fs,.int .i64 (t.c.sz+s)]) ?_ rfl ⟨_,_,_,rfl,z0x (S:=fun k=>k=R) HOF.out HCR.out (fun g hg e=>?_),z1p HTF.out HCR.out (fun k e=>by rw [e];exact HRW.out),fun g hg=>?_⟩
   · exact z3l rfl _ _ R _ rfl rfl HFS.out
   · rcases HBK.out g hg with h1 | h1
     · have:=HOW.out.lt h1
       have:=HRW.out
       omega
     · exact HBR.out g hg e
   · rcases HBK.out g hg with h1 | h1
     · exact .inl h1
     · exact .inr h1.1
 · go_simp
   go_wp2_with fail
   refine (HSZ.out _ (Below.refl _ _)).mono ?_
   rintro e4 w8 ⟨rfl,hb8⟩
   have hSN:Hid (RB w8 Y r):=hid (hHeld.out.later hb8)
   have HX9:=hid (z0b HX8.out hb8)
   have HR9:=hid (z0b HR8.out hb8)
   have HT9:=hid (HT8.out.trans (Turn.of_below (S:=fun k=>t.blk=some k) hb8) fun _ _ h=>h)
   have HO9:=hid (z0x (S:=fun _=>False) HO8.out (Chg.of_below hb8) fun _ _ h=>h)
   clear hb8 HX8 HR8 HT8 HO8
   go_wp2_with fail
   refine hK.out _ _ hSN (fun hHeld2=>?_)
   try simp only [Act.put,sIB,sCZ,sCS]
   clear hSN hK K hHeld
   have hHeld:=hHeld2
   clear hHeld2
   refine wpAnyH_ready (rs:=[1]) (by kernel_rfl) (by simp) (AllReadyH.cons rfl (fun K hK=>?_) (AllReadyH.nil))
   have x7:=z0a (j:=7) HX9.out (v:=.int .i64 t.c.sz) rfl
   have hSN:Hid (RB w8 Y r):=hHeld
   go_simp
   go_wp2_with fail
   refine hK.out _ _ hSN (fun hHeld2=>?_)
   try simp only [Act.put,sIB,sCZ,sCS]
   clear hSN hK K hHeld
   have hHeld:=hHeld2
   clear hHeld2
   clear x7
   refine wpAnyH_ready (rs:=[4]) (by kernel_rfl) (by simp) (AllReadyH.cons rfl (fun K hK=>?_) (AllReadyH.nil))
   go_simp
   go_wp2_with fail
   refine (z4u t.c.sz s HG.out.1 HG.out.2.1 HG.out.2.2 _).mono ?_
   rintro e5 w9 ⟨rfl,hw9⟩
   subst hw9
   have hSN:Hid (RB w9 Y r):=hHeld
   go_wp2_with fail
   refine hK.out _ _ hSN (fun hHeld2=>?_)
   try simp only [Act.put,sIB,sCZ,sCS]
   clear hSN hK K hHeld
   have hHeld:=hHeld2
   clear hHeld2
   refine wpAnyH_take (i:=5) (oi:=⟨some 38,_,_,_,_,_⟩) (v:=.pointer (some ⟨X,7,none⟩)) rfl (by kernel_rfl) (by kernel_rfl) (by kernel_rfl) (fun _ _ _ h=>h) (Or.inl ⟨by rfl,fun w' hw'=>?_⟩) (by assumption) ?_
   · clear hHeld
     go_simp
   simp only [Act.put,sIB,sCZ,sCS]
   refine wpAnyH_ready (rs:=[6]) (by kernel_rfl) (by simp) (AllReadyH.cons rfl (fun K hK=>?_) (AllReadyH.nil))
   have hx7:=z0a (j:=7) HX9.out (v:=.int .i64 t.c.sz) rfl
   have hf7:=z0o 7 HX9.out
   have HXF:Hid ((w9.setCell ⟨X,7,none⟩ (.int .i64 (t.c.sz+s))).heap[X]?=some (.cells #[.int .u32 t.c.id,.int .u32 t.c.sg,.int .u8 t.c.st,.bool t.c.cp,.bool t.c.dd,.slice p6 (t.n+1) c6,.int .i64 t.c.fs,.int .i64 (t.c.sz+s)] 46 (0,0))):=hid (z0u 7 (.int .i64 (t.c.sz+s)) HX9.out)
   have hcx:Chg (fun k=>k=X) w9 (w9.setCell ⟨X,7,none⟩ (.int .i64 (t.c.sz+s))):=(Chg.refl _ _).setCell _ _ fun _=>rfl
   have hSN:Hid (RB (w9.setCell ⟨X,7,none⟩ (.int .i64 (t.c.sz+s))) Y r):=hid ((hcx.block Y (z0g hHeld.out) (fun e=>HNE.out.1 e.symm)).trans hHeld.out)
   have HRF:=hid ((hcx.block R (z0g HR9.out) (fun e=>HNE.out.2 e.symm)).trans HR9.out)
   have HTF:Hid (Turn (fun k=>t.blk=some k) W (w9.setCell ⟨X,7,none⟩ (.int .i64 (t.c.sz+s)))):=hid (z1p HT9.out hcx (fun k e=>by rw [e];exact Nat.le_of_eq HXW.out))
   have HOF:=hid (z0x (S:=fun k=>k=X) HO9.out hcx (fun g hg e=>by
    rcases HBK.out g hg with h1 | h1
    · have:=HOW.out.lt h1
      have:=HXW.out
      omega
    · exact h1.2 e))
   clear hcx
   go_simp
   go_wp2_with fail
   refine hK.out _ _ hSN (fun hHeld2=>?_)
   try simp only [Act.put,sIB,sCZ,sCS]
   clear hSN hK K hHeld
   have hHeld:=hHeld2
   clear hHeld2
   clear hx7 hf7
   refine wpAnyH_done (by kernel_rfl) ?_ _
   clear hHeld HX9 HR9 HT9 HO9
   generalize w9.setCell ⟨X,7,none⟩ (.int .i64 (t.c.sz+s))=V9 at *
   obtain⟨x0,x1,x2,x3,x4,x5,x6,x7⟩:=z0i HXF.out
   obtain⟨z0,z1,z2,z3,z4,z5,z6,z7⟩:=z0i HRF.out
   obtain⟨f0,f1,f2,f3,f4,f5,f6,f7⟩:=z5j HRF.out
   have HFS:=hid (z3q (a':=.int .u32 t.c.id) (b':=.int .u32 t.c.sg) (c':=.int .u8 t.c.st) (d':=.bool t.c.cp) (e':=.bool t.c.dd) (f':=.slice p6 (t.n+1) c6) (g':=.int .i64 t.c.fs) (h':=.int .i64 (t.c.sz+s)) HRF.out)
   have HCR:Hid (Chg (fun k=>k=R) V9 _):=hid (tchg V9 R (.int .u32 t.c.id) (.int .u32 t.c.sg) (.int .u8 t.c.st) (.bool t.c.cp) (.bool t.c.dd) (.slice p6 (t.n+1) c6) (.int .i64 t.c.fs) (.int .i64 (t.c.sz+s)))
   go_wp2_with fail
   refine bodyPost_ret (v:=.agg #[.int .u32 t.c.id,.int .u32 t.c.sg,.int .u8 t.c.st,.bool t.c.cp,.bool t.c.dd,.slice p6 (t.n+1) c6,.int .i64 t.c.fs,.int .i64 (t.c.sz+s)]) ?_ rfl ⟨_,_,_,rfl,z0x (S:=fun k=>k=R) HOF.out HCR.out (fun g hg e=>?_),z1p HTF.out HCR.out (fun k e=>by rw [e];exact HRW.out),fun g hg=>?_⟩
   · exact z3l rfl _ _ R _ rfl rfl HFS.out
   · rcases HBK.out g hg with h1 | h1
     · have:=HOW.out.lt h1
       have:=HRW.out
       omega
     · exact HBR.out g hg e
   · rcases HBK.out g hg with h1 | h1
     · exact .inl h1
     · exact .inr h1.1
theorem after_5 (t:Tv) (r:Rv) (W:World) (hw:Words W) (hO:OwnO W t) (hn:t.n≤100) (hk:r.k=5) (hP:RvM W r [] [] []) (hok:Rxok (r.x [] [] [])) (s:Int) (hs:z1e (r.x [] [] [])=s) (h0:0≤t.c.sz∧0≤s∧t.c.sz+s≤9223372036854775807) (hpos:(6:Int)=5→1≤t.n) :
 Calls Tryz.prog 95 #[.agg #[.int .u32 t.c.id,.int .u32 t.c.sg,.int .u8 t.c.st,.bool t.c.cp,.bool t.c.dd,.slice t.p t.n t.m,.int .i64 t.c.fs,.int .i64 t.c.sz],.agg (rcs r)] W (q0q W t (aftC t.c 5 (r.ka,r.kb,r.kc) r.d s)):=by
 obtain⟨hb0,hx0,hy0,hr0⟩:=q2e W #[.int .u32 t.c.id,.int .u32 t.c.sg,.int .u8 t.c.st,.bool t.c.cp,.bool t.c.dd,.slice t.p t.n t.m,.int .i64 t.c.fs,.int .i64 t.c.sz] (rcs r) #[.int .u32 0,.int .u32 0,.int .u8 0,.bool false,.bool false,.slice none 0 0,.int .i64 0,.int .i64 0] 46 42 46
 have HB0:=hid hb0
 have HX:=hid hx0
 have HY:Hid (RB _ (W.heap.size+1) r):=hid hy0
 have HR:=hid hr0
 have HOW:=hid hO
 have HO0:Hid (World.ownsRow _ 0 _ 4 (.slice t.p t.n t.m) t.n (z0n oc t.c.dn)):=hid (z0x (S:=fun _=>False) hO (Chg.of_below hb0) fun _ _ h=>h)
 have HWO:=hid hw
 have HWL:Hid (0<W.heap.size):=hid (World.block_lt_of_cell? _ _ (hw.cell 0 (by omega)))
 have HSZ0:Hid (∀ w',Words w'→Calls Tryz.prog 28 #[.agg (rcs r)] w' fun e w''=>e=.returned (.int .i64 s)∧Below w'.heap.size w' w''):=hid fun w' h=>by
  have h1:=q1o r [] [] [] w' h (z6m hP w') hok ⟨by have:=hP.l.len;simp at this;omega,by have:=hP.t.len;simp at this;omega,by have:=hP.o.len;simp at this;omega⟩
  rw [hs] at h1
  exact h1
 have HG:=hid h0
 have HN:=hid hn
 have HPOS:=hid hpos
 have HCAP:Hid (t.n≤t.m):=hid hO.m.cap
 obtain⟨X,hX⟩:∃ X,W.heap.size=X:=⟨_,rfl⟩
 rw [hX] at HX HY HR
 have HXW:Hid (W.heap.size=X):=hid hX
 clear hb0 hx0 hy0 hr0 hO hn hw hP hok hs h0 hpos
 go_enter Tryz.func95,Tryz.ntmps95
 go_upto_region 1 with (fail)
 clear hX
 generalize ((W.alloc (.cells #[.int .u32 t.c.id,.int .u32 t.c.sg,.int .u8 t.c.st,.bool t.c.cp,.bool t.c.dd,.slice t.p t.n t.m,.int .i64 t.c.fs,.int .i64 t.c.sz] 46)).alloc (.cells (rcs r) 42)).alloc (.cells #[.int .u32 0,.int .u32 0,.int .u8 0,.bool false,.bool false,.slice none 0 0,.int .i64 0,.int .i64 0] 46)=V0 at *
 have HNE:Hid (X≠X+1∧X≠X+2):=hid ⟨by omega,by omega⟩
 have HRW:Hid (W.heap.size≤X+2):=hid (by rw [HXW.out];omega)
 have HYW:Hid (W.heap.size≤X+1):=hid (by rw [HXW.out];omega)
 generalize X+2=R at *
 generalize X+1=Y at *
 obtain⟨x0,x1,x2,x3,x4,x5,x6,x7⟩:=z0i HX.out
 have y0:=z0a (j:=0) HY.out (v:=.int .u8 r.k) rfl
 rw [hk] at y0
 clear hk
 have y5:=z0a (j:=5) HY.out (v:=.int .u8 r.ka) rfl
 have y6:=z0a (j:=6) HY.out (v:=.int .u8 r.kb) rfl
 have y7:=z0a (j:=7) HY.out (v:=.int .u8 r.kc) rfl
 have y8:=z0a (j:=8) HY.out (v:=.int .i64 r.d) rfl
 have f4:=z0o 4 HX.out
 go_upto_region 9 with (fail)
 clear x0 x1 x2 x3 x4 x5 x6 x7 y0 y5 y6 y7 y8 f4
 have HX7:Hid ((V0.setCell ⟨X,4,none⟩ (.bool true)).heap[X]?=some (.cells #[.int .u32 t.c.id,.int .u32 t.c.sg,.int .u8 t.c.st,.bool t.c.cp,.bool true,.slice t.p t.n t.m,.int .i64 t.c.fs,.int .i64 t.c.sz] 46 (0,0))):=hid (z0u 4 (.bool true) HX.out)
 have hc7:Chg (fun k=>k=X) V0 (V0.setCell ⟨X,4,none⟩ (.bool true)):=(Chg.refl _ _).setCell _ _ fun _=>rfl
 have HBK:Hid (∀ g,(Value.slice t.p t.n t.m).ownBlock=some g→t.blk=some g∨(W.heap.size≤g∧g≠X)):=hid fun g hg=>.inl (z8f hg)
 have HBR:Hid (∀ g,(Value.slice t.p t.n t.m).ownBlock=some g→g=R→False):=hid fun g hg e=>by
  have h5:=HOW.out.lt (show t.blk=some g from z8f hg)
  have h6:=HRW.out
  omega
 have htn:Turn (fun k=>t.blk=some k) W V0:=Turn.of_below HB0.out
 have HW7:=hid ((HWO.out.later HB0.out).turn (S:=fun k=>k=X) ⟨hc7.os,hc7.tape,hc7.output,hc7.size,hc7.block⟩ (fun e=>by have h1:=HXW.out;have h2:=HWL.out;omega))
 have HT7:=hid (z1p htn hc7 (fun k e=>by rw [e];exact Nat.le_of_eq HXW.out))
 have HY7:Hid (RB _ Y r):=hid ((hc7.block Y (z0g HY.out) (fun e=>HNE.out.1 e.symm)).trans HY.out)
 have HR7:=hid ((hc7.block R (z0g HR.out) (fun e=>HNE.out.2 e.symm)).trans HR.out)
 have HO7:=hid (z0x (S:=fun k=>k=X) HO0.out hc7 (fun g hg e=>by
  have:=HOW.out.lt (show t.blk=some g from z8f hg)
  have:=HXW.out
  omega))
 clear hc7 htn
 generalize V0.setCell ⟨X,4,none⟩ (.bool true)=V7 at *
 go_wp2_with fail
 have HX8:Hid (V7.drew.heap[X]?=some (.cells #[.int .u32 t.c.id,.int .u32 t.c.sg,.int .u8 t.c.st,.bool t.c.cp,.bool true,.slice t.p t.n t.m,.int .i64 t.c.fs,.int .i64 t.c.sz] 46 (0,0))):=hid HX7.out
 have HR8:Hid (V7.drew.heap[R]?=some (.cells #[.int .u32 0,.int .u32 0,.int .u8 0,.bool false,.bool false,.slice none 0 0,.int .i64 0,.int .i64 0] 46 (0,0))):=hid HR7.out
 have HT8:Hid (Turn (fun k=>t.blk=some k) W V7.drew):=hid HT7.out.drew
 have HO8:Hid (V7.drew.ownsRow _ _ _ _ _ _):=hid (z0x (S:=fun _=>False) HO7.out (Chg.of_below (z0e (Below.refl _ _) 1)) fun _ _ h=>h)
 have HSZ:=hid fun w' (hb:Below V7.drew.heap.size V7.drew w')=>HSZ0.out w' (HW7.out.later ((Below.refl V7.heap.size V7).drew.trans hb))
 have hbd:RB V7.drew Y r:=HY7.out
 clear HX7 HR7 HT7 HO7
 refine wp_region_held_drew (S:=fun w'=>Hid (RB w' Y r)) (by kernel_rfl) (hid hbd) (fun hHeld=>?_)
 clear hbd HY7
 generalize V7.drew=V8 at *
 refine wpAnyH_take (i:=0) (oi:=⟨some 33,_,_,_,_,_⟩) (v:=.pointer (some ⟨X,7,none⟩)) rfl (by kernel_rfl) (by kernel_rfl) (by kernel_rfl) (fun _ _ _ h=>h) (Or.inl ⟨by rfl,fun w' hw'=>?_⟩) (by assumption) ?_
 · clear hHeld
   go_simp
 simp only [Act.put,sIB,sCZ,sCS]
 refine wpAnyH_take (i:=2) (oi:=⟨some 35,_,_,_,_,_⟩) (v:=.agg (rcs r)) rfl (by kernel_rfl) (by kernel_rfl) (by kernel_rfl) (fun _ _ _ h=>h) (Or.inl ⟨by rfl,fun w' hw'=>z2z rfl (Hid.out hw')⟩) (by assumption) ?_
 simp only [Act.put,sIB,sCZ,sCS]
 refine wpAnyH_ready (rs:=[1,3]) (by kernel_rfl) (by simp) (AllReadyH.cons rfl (fun K hK=>?_) (AllReadyH.cons rfl (fun K hK=>?_) (AllReadyH.nil)))
 · have x7:=z0a (j:=7) HX8.out (v:=.int .i64 t.c.sz) rfl
   have hSN:Hid (RB V8 Y r):=hHeld
   go_simp
   go_wp2_with fail
   refine hK.out _ _ hSN (fun hHeld2=>?_)
   try simp only [Act.put,sIB,sCZ,sCS]
   clear hSN hK K hHeld
   have hHeld:=hHeld2
   clear hHeld2
   clear x7
   refine wpAnyH_ready (rs:=[3]) (by kernel_rfl) (by simp) (AllReadyH.cons rfl (fun K hK=>?_) (AllReadyH.nil))
   go_simp
   go_wp2_with fail
   refine (HSZ.out _ (Below.refl _ _)).mono ?_
   rintro e4 w8 ⟨rfl,hb8⟩
   have hSN:Hid (RB w8 Y r):=hid (hHeld.out.later hb8)
   have HX9:=hid (z0b HX8.out hb8)
   have HR9:=hid (z0b HR8.out hb8)
   have HT9:=hid (HT8.out.trans (Turn.of_below (S:=fun k=>t.blk=some k) hb8) fun _ _ h=>h)
   have HO9:=hid (z0x (S:=fun _=>False) HO8.out (Chg.of_below hb8) fun _ _ h=>h)
   clear hb8 HX8 HR8 HT8 HO8
   go_wp2_with fail
   refine hK.out _ _ hSN (fun hHeld2=>?_)
   try simp only [Act.put,sIB,sCZ,sCS]
   clear hSN hK K hHeld
   have hHeld:=hHeld2
   clear hHeld2
   refine wpAnyH_ready (rs:=[4]) (by kernel_rfl) (by simp) (AllReadyH.cons rfl (fun K hK=>?_) (AllReadyH.nil))
   go_simp
   go_wp2_with fail
   refine (z4u t.c.sz s HG.out.1 HG.out.2.1 HG.out.2.2 _).mono ?_
   rintro e5 w9 ⟨rfl,hw9⟩
   subst hw9
   have hSN:Hid (RB w9 Y r):=hHeld
   go_wp2_with fail
   refine hK.out _ _ hSN (fun hHeld2=>?_)
   try simp only [Act.put,sIB,sCZ,sCS]
   clear hSN hK K hHeld
   have hHeld:=hHeld2
   clear hHeld2
   refine wpAnyH_take (i:=5) (oi:=⟨some 38,_,_,_,_,_⟩) (v:=.pointer (some ⟨X,7,none⟩)) rfl (by kernel_rfl) (by kernel_rfl) (by kernel_rfl) (fun _ _ _ h=>h) (Or.inl ⟨by rfl,fun w' hw'=>?_⟩) (by assumption) ?_
   · clear hHeld
     go_simp
   simp only [Act.put,sIB,sCZ,sCS]
   refine wpAnyH_ready (rs:=[6]) (by kernel_rfl) (by simp) (AllReadyH.cons rfl (fun K hK=>?_) (AllReadyH.nil))
   have hx7:=z0a (j:=7) HX9.out (v:=.int .i64 t.c.sz) rfl
   have hf7:=z0o 7 HX9.out
   have HXF:Hid ((w9.setCell ⟨X,7,none⟩ (.int .i64 (t.c.sz+s))).heap[X]?=some (.cells #[.int .u32 t.c.id,.int .u32 t.c.sg,.int .u8 t.c.st,.bool t.c.cp,.bool true,.slice t.p t.n t.m,.int .i64 t.c.fs,.int .i64 (t.c.sz+s)] 46 (0,0))):=hid (z0u 7 (.int .i64 (t.c.sz+s)) HX9.out)
   have hcx:Chg (fun k=>k=X) w9 (w9.setCell ⟨X,7,none⟩ (.int .i64 (t.c.sz+s))):=(Chg.refl _ _).setCell _ _ fun _=>rfl
   have hSN:Hid (RB (w9.setCell ⟨X,7,none⟩ (.int .i64 (t.c.sz+s))) Y r):=hid ((hcx.block Y (z0g hHeld.out) (fun e=>HNE.out.1 e.symm)).trans hHeld.out)
   have HRF:=hid ((hcx.block R (z0g HR9.out) (fun e=>HNE.out.2 e.symm)).trans HR9.out)
   have HTF:Hid (Turn (fun k=>t.blk=some k) W (w9.setCell ⟨X,7,none⟩ (.int .i64 (t.c.sz+s)))):=hid (z1p HT9.out hcx (fun k e=>by rw [e];exact Nat.le_of_eq HXW.out))
   have HOF:=hid (z0x (S:=fun k=>k=X) HO9.out hcx (fun g hg e=>by
    rcases HBK.out g hg with h1 | h1
    · have:=HOW.out.lt h1
      have:=HXW.out
      omega
    · exact h1.2 e))
   clear hcx
   go_simp
   go_wp2_with fail
   refine hK.out _ _ hSN (fun hHeld2=>?_)
   try simp only [Act.put,sIB,sCZ,sCS]
   clear hSN hK K hHeld
   have hHeld:=hHeld2
   clear hHeld2
   clear hx7 hf7
   refine wpAnyH_done (by kernel_rfl) ?_ _
   clear hHeld HX9 HR9 HT9 HO9
   generalize w9.setCell ⟨X,7,none⟩ (.int .i64 (t.c.sz+s))=V9 at *
   obtain⟨x0,x1,x2,x3,x4,x5,x6,x7⟩:=z0i HXF.out
   obtain⟨z0,z1,z2,z3,z4,z5,z6,z7⟩:=z0i HRF.out
   obtain⟨f0,f1,f2,f3,f4,f5,f6,f7⟩:=z5j HRF.out
   have HFS:=hid (z3q (a':=.int .u32 t.c.id) (b':=.int .u32 t.c.sg) (c':=.int .u8 t.c.st) (d':=.bool t.c.cp) (e':=.bool true) (f':=.slice t.p t.n t.m) (g':=.int .i64 t.c.fs) (h':=.int .i64 (t.c.sz+s)) HRF.out)
   have HCR:Hid (Chg (fun k=>k=R) V9 _):=hid (tchg V9 R (.int .u32 t.c.id) (.int .u32 t.c.sg) (.int .u8 t.c.st) (.bool t.c.cp) (.bool true) (.slice t.p t.n t.m) (.int .i64 t.c.fs) (.int .i64 (t.c.sz+s)))
   go_wp2_with fail
   refine bodyPost_ret (v:=.agg #[.int .u32 t.c.id,.int .u32 t.c.sg,.int .u8 t.c.st,.bool t.c.cp,.bool true,.slice t.p t.n t.m,.int .i64 t.c.fs,.int .i64 (t.c.sz+s)]) ?_ rfl ⟨_,_,_,rfl,z0x (S:=fun k=>k=R) HOF.out HCR.out (fun g hg e=>?_),z1p HTF.out HCR.out (fun k e=>by rw [e];exact HRW.out),fun g hg=>?_⟩
   · exact z3l rfl _ _ R _ rfl rfl HFS.out
   · rcases HBK.out g hg with h1 | h1
     · have:=HOW.out.lt h1
       have:=HRW.out
       omega
     · exact HBR.out g hg e
   · rcases HBK.out g hg with h1 | h1
     · exact .inl h1
     · exact .inr h1.1
 · go_simp
   go_wp2_with fail
   refine (HSZ.out _ (Below.refl _ _)).mono ?_
   rintro e4 w8 ⟨rfl,hb8⟩
   have hSN:Hid (RB w8 Y r):=hid (hHeld.out.later hb8)
   have HX9:=hid (z0b HX8.out hb8)
   have HR9:=hid (z0b HR8.out hb8)
   have HT9:=hid (HT8.out.trans (Turn.of_below (S:=fun k=>t.blk=some k) hb8) fun _ _ h=>h)
   have HO9:=hid (z0x (S:=fun _=>False) HO8.out (Chg.of_below hb8) fun _ _ h=>h)
   clear hb8 HX8 HR8 HT8 HO8
   go_wp2_with fail
   refine hK.out _ _ hSN (fun hHeld2=>?_)
   try simp only [Act.put,sIB,sCZ,sCS]
   clear hSN hK K hHeld
   have hHeld:=hHeld2
   clear hHeld2
   refine wpAnyH_ready (rs:=[1]) (by kernel_rfl) (by simp) (AllReadyH.cons rfl (fun K hK=>?_) (AllReadyH.nil))
   have x7:=z0a (j:=7) HX9.out (v:=.int .i64 t.c.sz) rfl
   have hSN:Hid (RB w8 Y r):=hHeld
   go_simp
   go_wp2_with fail
   refine hK.out _ _ hSN (fun hHeld2=>?_)
   try simp only [Act.put,sIB,sCZ,sCS]
   clear hSN hK K hHeld
   have hHeld:=hHeld2
   clear hHeld2
   clear x7
   refine wpAnyH_ready (rs:=[4]) (by kernel_rfl) (by simp) (AllReadyH.cons rfl (fun K hK=>?_) (AllReadyH.nil))
   go_simp
   go_wp2_with fail
   refine (z4u t.c.sz s HG.out.1 HG.out.2.1 HG.out.2.2 _).mono ?_
   rintro e5 w9 ⟨rfl,hw9⟩
   subst hw9
   have hSN:Hid (RB w9 Y r):=hHeld
   go_wp2_with fail
   refine hK.out _ _ hSN (fun hHeld2=>?_)
   try simp only [Act.put,sIB,sCZ,sCS]
   clear hSN hK K hHeld
   have hHeld:=hHeld2
   clear hHeld2
   refine wpAnyH_take (i:=5) (oi:=⟨some 38,_,_,_,_,_⟩) (v:=.pointer (some ⟨X,7,none⟩)) rfl (by kernel_rfl) (by kernel_rfl) (by kernel_rfl) (fun _ _ _ h=>h) (Or.inl ⟨by rfl,fun w' hw'=>?_⟩) (by assumption) ?_
   · clear hHeld
     go_simp
   simp only [Act.put,sIB,sCZ,sCS]
   refine wpAnyH_ready (rs:=[6]) (by kernel_rfl) (by simp) (AllReadyH.cons rfl (fun K hK=>?_) (AllReadyH.nil))
   have hx7:=z0a (j:=7) HX9.out (v:=.int .i64 t.c.sz) rfl
   have hf7:=z0o 7 HX9.out
   have HXF:Hid ((w9.setCell ⟨X,7,none⟩ (.int .i64 (t.c.sz+s))).heap[X]?=some (.cells #[.int .u32 t.c.id,.int .u32 t.c.sg,.int .u8 t.c.st,.bool t.c.cp,.bool true,.slice t.p t.n t.m,.int .i64 t.c.fs,.int .i64 (t.c.sz+s)] 46 (0,0))):=hid (z0u 7 (.int .i64 (t.c.sz+s)) HX9.out)
   have hcx:Chg (fun k=>k=X) w9 (w9.setCell ⟨X,7,none⟩ (.int .i64 (t.c.sz+s))):=(Chg.refl _ _).setCell _ _ fun _=>rfl
   have hSN:Hid (RB (w9.setCell ⟨X,7,none⟩ (.int .i64 (t.c.sz+s))) Y r):=hid ((hcx.block Y (z0g hHeld.out) (fun e=>HNE.out.1 e.symm)).trans hHeld.out)
   have HRF:=hid ((hcx.block R (z0g HR9.out) (fun e=>HNE.out.2 e.symm)).trans HR9.out)
   have HTF:Hid (Turn (fun k=>t.blk=some k) W (w9.setCell ⟨X,7,none⟩ (.int .i64 (t.c.sz+s)))):=hid (z1p HT9.out hcx (fun k e=>by rw [e];exact Nat.le_of_eq HXW.out))
   have HOF:=hid (z0x (S:=fun k=>k=X) HO9.out hcx (fun g hg e=>by
    rcases HBK.out g hg with h1 | h1
    · have:=HOW.out.lt h1
      have:=HXW.out
      omega
    · exact h1.2 e))
   clear hcx
   go_simp
   go_wp2_with fail
   refine hK.out _ _ hSN (fun hHeld2=>?_)
   try simp only [Act.put,sIB,sCZ,sCS]
   clear hSN hK K hHeld
   have hHeld:=hHeld2
   clear hHeld2
   clear hx7 hf7
   refine wpAnyH_done (by kernel_rfl) ?_ _
   clear hHeld HX9 HR9 HT9 HO9
   generalize w9.setCell ⟨X,7,none⟩ (.int .i64 (t.c.sz+s))=V9 at *
   obtain⟨x0,x1,x2,x3,x4,x5,x6,x7⟩:=z0i HXF.out
   obtain⟨z0,z1,z2,z3,z4,z5,z6,z7⟩:=z0i HRF.out
   obtain⟨f0,f1,f2,f3,f4,f5,f6,f7⟩:=z5j HRF.out
   have HFS:=hid (z3q (a':=.int .u32 t.c.id) (b':=.int .u32 t.c.sg) (c':=.int .u8 t.c.st) (d':=.bool t.c.cp) (e':=.bool true) (f':=.slice t.p t.n t.m) (g':=.int .i64 t.c.fs) (h':=.int .i64 (t.c.sz+s)) HRF.out)
   have HCR:Hid (Chg (fun k=>k=R) V9 _):=hid (tchg V9 R (.int .u32 t.c.id) (.int .u32 t.c.sg) (.int .u8 t.c.st) (.bool t.c.cp) (.bool true) (.slice t.p t.n t.m) (.int .i64 t.c.fs) (.int .i64 (t.c.sz+s)))
   go_wp2_with fail
   refine bodyPost_ret (v:=.agg #[.int .u32 t.c.id,.int .u32 t.c.sg,.int .u8 t.c.st,.bool t.c.cp,.bool true,.slice t.p t.n t.m,.int .i64 t.c.fs,.int .i64 (t.c.sz+s)]) ?_ rfl ⟨_,_,_,rfl,z0x (S:=fun k=>k=R) HOF.out HCR.out (fun g hg e=>?_),z1p HTF.out HCR.out (fun k e=>by rw [e];exact HRW.out),fun g hg=>?_⟩
   · exact z3l rfl _ _ R _ rfl rfl HFS.out
   · rcases HBK.out g hg with h1 | h1
     · have:=HOW.out.lt h1
       have:=HRW.out
       omega
     · exact HBR.out g hg e
   · rcases HBK.out g hg with h1 | h1
     · exact .inl h1
     · exact .inr h1.1
theorem after_6 (t:Tv) (r:Rv) (W:World) (hw:Words W) (hO:OwnO W t) (hn:t.n≤100) (hk:r.k=6) (hP:RvM W r [] [] []) (hok:Rxok (r.x [] [] [])) (s:Int) (hs:z1e (r.x [] [] [])=s) (h0:0≤t.c.sz∧0≤s∧t.c.sz+s≤9223372036854775807) (hpos:(6:Int)=6→1≤t.n) :
 Calls Tryz.prog 95 #[.agg #[.int .u32 t.c.id,.int .u32 t.c.sg,.int .u8 t.c.st,.bool t.c.cp,.bool t.c.dd,.slice t.p t.n t.m,.int .i64 t.c.fs,.int .i64 t.c.sz],.agg (rcs r)] W (q0q W t (aftC t.c 6 (r.ka,r.kb,r.kc) r.d s)):=by
 obtain⟨hb0,hx0,hy0,hr0⟩:=q2e W #[.int .u32 t.c.id,.int .u32 t.c.sg,.int .u8 t.c.st,.bool t.c.cp,.bool t.c.dd,.slice t.p t.n t.m,.int .i64 t.c.fs,.int .i64 t.c.sz] (rcs r) #[.int .u32 0,.int .u32 0,.int .u8 0,.bool false,.bool false,.slice none 0 0,.int .i64 0,.int .i64 0] 46 42 46
 have HB0:=hid hb0
 have HX:=hid hx0
 have HY:Hid (RB _ (W.heap.size+1) r):=hid hy0
 have HR:=hid hr0
 have HOW:=hid hO
 have HO0:Hid (World.ownsRow _ 0 _ 4 (.slice t.p t.n t.m) t.n (z0n oc t.c.dn)):=hid (z0x (S:=fun _=>False) hO (Chg.of_below hb0) fun _ _ h=>h)
 have HWO:=hid hw
 have HWL:Hid (0<W.heap.size):=hid (World.block_lt_of_cell? _ _ (hw.cell 0 (by omega)))
 have HSZ0:Hid (∀ w',Words w'→Calls Tryz.prog 28 #[.agg (rcs r)] w' fun e w''=>e=.returned (.int .i64 s)∧Below w'.heap.size w' w''):=hid fun w' h=>by
  have h1:=q1o r [] [] [] w' h (z6m hP w') hok ⟨by have:=hP.l.len;simp at this;omega,by have:=hP.t.len;simp at this;omega,by have:=hP.o.len;simp at this;omega⟩
  rw [hs] at h1
  exact h1
 have HG:=hid h0
 have HN:=hid hn
 have HPOS:=hid hpos
 have HCAP:Hid (t.n≤t.m):=hid hO.m.cap
 obtain⟨X,hX⟩:∃ X,W.heap.size=X:=⟨_,rfl⟩
 rw [hX] at HX HY HR
 have HXW:Hid (W.heap.size=X):=hid hX
 clear hb0 hx0 hy0 hr0 hO hn hw hP hok hs h0 hpos
 go_enter Tryz.func95,Tryz.ntmps95
 go_upto_region 1 with (fail)
 clear hX
 generalize ((W.alloc (.cells #[.int .u32 t.c.id,.int .u32 t.c.sg,.int .u8 t.c.st,.bool t.c.cp,.bool t.c.dd,.slice t.p t.n t.m,.int .i64 t.c.fs,.int .i64 t.c.sz] 46)).alloc (.cells (rcs r) 42)).alloc (.cells #[.int .u32 0,.int .u32 0,.int .u8 0,.bool false,.bool false,.slice none 0 0,.int .i64 0,.int .i64 0] 46)=V0 at *
 have HNE:Hid (X≠X+1∧X≠X+2):=hid ⟨by omega,by omega⟩
 have HRW:Hid (W.heap.size≤X+2):=hid (by rw [HXW.out];omega)
 have HYW:Hid (W.heap.size≤X+1):=hid (by rw [HXW.out];omega)
 generalize X+2=R at *
 generalize X+1=Y at *
 obtain⟨x0,x1,x2,x3,x4,x5,x6,x7⟩:=z0i HX.out
 have y0:=z0a (j:=0) HY.out (v:=.int .u8 r.k) rfl
 rw [hk] at y0
 clear hk
 have y5:=z0a (j:=5) HY.out (v:=.int .u8 r.ka) rfl
 have y6:=z0a (j:=6) HY.out (v:=.int .u8 r.kb) rfl
 have y7:=z0a (j:=7) HY.out (v:=.int .u8 r.kc) rfl
 have y8:=z0a (j:=8) HY.out (v:=.int .i64 r.d) rfl
 obtain⟨q,hq⟩:∃ q,t.n=q+1:=⟨t.n-1,by have:=HPOS.out rfl;omega⟩
 have HQ:=hid hq
 have hq1:(t.n:Int)-1=(q:Int):=by omega
 have hcm:q≤t.m:=by have:=HCAP.out;omega
 have hqb:q≤100:=by have:=HN.out;omega
 have f4:=z0o 4 HX.out
 have f5:=z0o 5 HX.out
 clear hq
 have hX5:=z0u 5 (.slice t.p q t.m) HX.out
 have g4:=z0o 4 hX5
 have c4:=z0a (j:=4) hX5 (v:=.bool t.c.dd) rfl
 go_upto_region 9 with (fail)
 clear x0 x1 x2 x3 x4 x5 x6 x7 y0 y5 y6 y7 y8 f4 f5 g4 c4 hq1 hcm hqb
 have HX7:Hid (((V0.setCell ⟨X,5,none⟩ (.slice t.p q t.m)).setCell ⟨X,4,none⟩ (.bool true)).heap[X]?=some (.cells #[.int .u32 t.c.id,.int .u32 t.c.sg,.int .u8 t.c.st,.bool t.c.cp,.bool true,.slice t.p q t.m,.int .i64 t.c.fs,.int .i64 t.c.sz] 46 (0,0))):=hid (z0u 4 (.bool true) hX5)
 have hc7:Chg (fun k=>k=X) V0 ((V0.setCell ⟨X,5,none⟩ (.slice t.p q t.m)).setCell ⟨X,4,none⟩ (.bool true)):=((Chg.refl (fun k=>k=X) V0).setCell ⟨X,5,none⟩ _ fun _=>rfl).setCell ⟨X,4,none⟩ _ fun _=>rfl
 have HBK:Hid (∀ g,(Value.slice t.p q t.m).ownBlock=some g→t.blk=some g∨(W.heap.size≤g∧g≠X)):=hid fun g hg=>.inl (z8f hg)
 have HBR:Hid (∀ g,(Value.slice t.p q t.m).ownBlock=some g→g=R→False):=hid fun g hg e=>by
  have h5:=HOW.out.lt (show t.blk=some g from z8f hg)
  have h6:=HRW.out
  omega
 have htn:Turn (fun k=>t.blk=some k) W V0:=Turn.of_below HB0.out
 have HW7:=hid ((HWO.out.later HB0.out).turn (S:=fun k=>k=X) ⟨hc7.os,hc7.tape,hc7.output,hc7.size,hc7.block⟩ (fun e=>by have h1:=HXW.out;have h2:=HWL.out;omega))
 have HT7:=hid (z1p htn hc7 (fun k e=>by rw [e];exact Nat.le_of_eq HXW.out))
 have HY7:Hid (RB _ Y r):=hid ((hc7.block Y (z0g HY.out) (fun e=>HNE.out.1 e.symm)).trans HY.out)
 have HR7:=hid ((hc7.block R (z0g HR.out) (fun e=>HNE.out.2 e.symm)).trans HR.out)
 have hsh:=own_shrink (m:=q) HO0.out (by have:=HQ.out;omega)
 have hdl:(z0n oc t.c.dn).take (q*4)=z0n oc t.c.dn.dropLast:=by
  rw [List.dropLast_eq_take,HOW.out.len,HQ.out,Nat.add_sub_cancel,flatG_take z5l]
 rw [hdl] at hsh
 have HO7:=hid (z0x (S:=fun k=>k=X) hsh hc7 (fun g hg e=>by
  have:=HOW.out.lt (show t.blk=some g from z8f hg)
  have:=HXW.out
  omega))
 clear hc7 htn hsh hdl hX5
 generalize (V0.setCell ⟨X,5,none⟩ (.slice t.p q t.m)).setCell ⟨X,4,none⟩ (.bool true)=V7 at *
 go_wp2_with fail
 have HX8:Hid (V7.drew.heap[X]?=some (.cells #[.int .u32 t.c.id,.int .u32 t.c.sg,.int .u8 t.c.st,.bool t.c.cp,.bool true,.slice t.p q t.m,.int .i64 t.c.fs,.int .i64 t.c.sz] 46 (0,0))):=hid HX7.out
 have HR8:Hid (V7.drew.heap[R]?=some (.cells #[.int .u32 0,.int .u32 0,.int .u8 0,.bool false,.bool false,.slice none 0 0,.int .i64 0,.int .i64 0] 46 (0,0))):=hid HR7.out
 have HT8:Hid (Turn (fun k=>t.blk=some k) W V7.drew):=hid HT7.out.drew
 have HO8:Hid (V7.drew.ownsRow _ _ _ _ _ _):=hid (z0x (S:=fun _=>False) HO7.out (Chg.of_below (z0e (Below.refl _ _) 1)) fun _ _ h=>h)
 have HSZ:=hid fun w' (hb:Below V7.drew.heap.size V7.drew w')=>HSZ0.out w' (HW7.out.later ((Below.refl V7.heap.size V7).drew.trans hb))
 have hbd:RB V7.drew Y r:=HY7.out
 clear HX7 HR7 HT7 HO7
 refine wp_region_held_drew (S:=fun w'=>Hid (RB w' Y r)) (by kernel_rfl) (hid hbd) (fun hHeld=>?_)
 clear hbd HY7
 generalize V7.drew=V8 at *
 refine wpAnyH_take (i:=0) (oi:=⟨some 33,_,_,_,_,_⟩) (v:=.pointer (some ⟨X,7,none⟩)) rfl (by kernel_rfl) (by kernel_rfl) (by kernel_rfl) (fun _ _ _ h=>h) (Or.inl ⟨by rfl,fun w' hw'=>?_⟩) (by assumption) ?_
 · clear hHeld
   go_simp
 simp only [Act.put,sIB,sCZ,sCS]
 refine wpAnyH_take (i:=2) (oi:=⟨some 35,_,_,_,_,_⟩) (v:=.agg (rcs r)) rfl (by kernel_rfl) (by kernel_rfl) (by kernel_rfl) (fun _ _ _ h=>h) (Or.inl ⟨by rfl,fun w' hw'=>z2z rfl (Hid.out hw')⟩) (by assumption) ?_
 simp only [Act.put,sIB,sCZ,sCS]
 refine wpAnyH_ready (rs:=[1,3]) (by kernel_rfl) (by simp) (AllReadyH.cons rfl (fun K hK=>?_) (AllReadyH.cons rfl (fun K hK=>?_) (AllReadyH.nil)))
 · have x7:=z0a (j:=7) HX8.out (v:=.int .i64 t.c.sz) rfl
   have hSN:Hid (RB V8 Y r):=hHeld
   go_simp
   go_wp2_with fail
   refine hK.out _ _ hSN (fun hHeld2=>?_)
   try simp only [Act.put,sIB,sCZ,sCS]
   clear hSN hK K hHeld
   have hHeld:=hHeld2
   clear hHeld2
   clear x7
   refine wpAnyH_ready (rs:=[3]) (by kernel_rfl) (by simp) (AllReadyH.cons rfl (fun K hK=>?_) (AllReadyH.nil))
   go_simp
   go_wp2_with fail
   refine (HSZ.out _ (Below.refl _ _)).mono ?_
   rintro e4 w8 ⟨rfl,hb8⟩
   have hSN:Hid (RB w8 Y r):=hid (hHeld.out.later hb8)
   have HX9:=hid (z0b HX8.out hb8)
   have HR9:=hid (z0b HR8.out hb8)
   have HT9:=hid (HT8.out.trans (Turn.of_below (S:=fun k=>t.blk=some k) hb8) fun _ _ h=>h)
   have HO9:=hid (z0x (S:=fun _=>False) HO8.out (Chg.of_below hb8) fun _ _ h=>h)
   clear hb8 HX8 HR8 HT8 HO8
   go_wp2_with fail
   refine hK.out _ _ hSN (fun hHeld2=>?_)
   try simp only [Act.put,sIB,sCZ,sCS]
   clear hSN hK K hHeld
   have hHeld:=hHeld2
   clear hHeld2
   refine wpAnyH_ready (rs:=[4]) (by kernel_rfl) (by simp) (AllReadyH.cons rfl (fun K hK=>?_) (AllReadyH.nil))
   go_simp
   go_wp2_with fail
   refine (z4u t.c.sz s HG.out.1 HG.out.2.1 HG.out.2.2 _).mono ?_
   rintro e5 w9 ⟨rfl,hw9⟩
   subst hw9
   have hSN:Hid (RB w9 Y r):=hHeld
   go_wp2_with fail
   refine hK.out _ _ hSN (fun hHeld2=>?_)
   try simp only [Act.put,sIB,sCZ,sCS]
   clear hSN hK K hHeld
   have hHeld:=hHeld2
   clear hHeld2
   refine wpAnyH_take (i:=5) (oi:=⟨some 38,_,_,_,_,_⟩) (v:=.pointer (some ⟨X,7,none⟩)) rfl (by kernel_rfl) (by kernel_rfl) (by kernel_rfl) (fun _ _ _ h=>h) (Or.inl ⟨by rfl,fun w' hw'=>?_⟩) (by assumption) ?_
   · clear hHeld
     go_simp
   simp only [Act.put,sIB,sCZ,sCS]
   refine wpAnyH_ready (rs:=[6]) (by kernel_rfl) (by simp) (AllReadyH.cons rfl (fun K hK=>?_) (AllReadyH.nil))
   have hx7:=z0a (j:=7) HX9.out (v:=.int .i64 t.c.sz) rfl
   have hf7:=z0o 7 HX9.out
   have HXF:Hid ((w9.setCell ⟨X,7,none⟩ (.int .i64 (t.c.sz+s))).heap[X]?=some (.cells #[.int .u32 t.c.id,.int .u32 t.c.sg,.int .u8 t.c.st,.bool t.c.cp,.bool true,.slice t.p q t.m,.int .i64 t.c.fs,.int .i64 (t.c.sz+s)] 46 (0,0))):=hid (z0u 7 (.int .i64 (t.c.sz+s)) HX9.out)
   have hcx:Chg (fun k=>k=X) w9 (w9.setCell ⟨X,7,none⟩ (.int .i64 (t.c.sz+s))):=(Chg.refl _ _).setCell _ _ fun _=>rfl
   have hSN:Hid (RB (w9.setCell ⟨X,7,none⟩ (.int .i64 (t.c.sz+s))) Y r):=hid ((hcx.block Y (z0g hHeld.out) (fun e=>HNE.out.1 e.symm)).trans hHeld.out)
   have HRF:=hid ((hcx.block R (z0g HR9.out) (fun e=>HNE.out.2 e.symm)).trans HR9.out)
   have HTF:Hid (Turn (fun k=>t.blk=some k) W (w9.setCell ⟨X,7,none⟩ (.int .i64 (t.c.sz+s)))):=hid (z1p HT9.out hcx (fun k e=>by rw [e];exact Nat.le_of_eq HXW.out))
   have HOF:=hid (z0x (S:=fun k=>k=X) HO9.out hcx (fun g hg e=>by
    rcases HBK.out g hg with h1 | h1
    · have:=HOW.out.lt h1
      have:=HXW.out
      omega
    · exact h1.2 e))
   clear hcx
   go_simp
   go_wp2_with fail
   refine hK.out _ _ hSN (fun hHeld2=>?_)
   try simp only [Act.put,sIB,sCZ,sCS]
   clear hSN hK K hHeld
   have hHeld:=hHeld2
   clear hHeld2
   clear hx7 hf7
   refine wpAnyH_done (by kernel_rfl) ?_ _
   clear hHeld HX9 HR9 HT9 HO9
   generalize w9.setCell ⟨X,7,none⟩ (.int .i64 (t.c.sz+s))=V9 at *
   obtain⟨x0,x1,x2,x3,x4,x5,x6,x7⟩:=z0i HXF.out
   obtain⟨z0,z1,z2,z3,z4,z5,z6,z7⟩:=z0i HRF.out
   obtain⟨f0,f1,f2,f3,f4,f5,f6,f7⟩:=z5j HRF.out
   have HFS:=hid (z3q (a':=.int .u32 t.c.id) (b':=.int .u32 t.c.sg) (c':=.int .u8 t.c.st) (d':=.bool t.c.cp) (e':=.bool true) (f':=.slice t.p q t.m) (g':=.int .i64 t.c.fs) (h':=.int .i64 (t.c.sz+s)) HRF.out)
   have HCR:Hid (Chg (fun k=>k=R) V9 _):=hid (tchg V9 R (.int .u32 t.c.id) (.int .u32 t.c.sg) (.int .u8 t.c.st) (.bool t.c.cp) (.bool true) (.slice t.p q t.m) (.int .i64 t.c.fs) (.int .i64 (t.c.sz+s)))
   go_wp2_with fail
   refine bodyPost_ret (v:=.agg #[.int .u32 t.c.id,.int .u32 t.c.sg,.int .u8 t.c.st,.bool t.c.cp,.bool true,.slice t.p q t.m,.int .i64 t.c.fs,.int .i64 (t.c.sz+s)]) ?_ rfl ⟨_,_,_,rfl,z0x (S:=fun k=>k=R) HOF.out HCR.out (fun g hg e=>?_),z1p HTF.out HCR.out (fun k e=>by rw [e];exact HRW.out),fun g hg=>?_⟩
   · exact z3l rfl _ _ R _ rfl rfl HFS.out
   · rcases HBK.out g hg with h1 | h1
     · have:=HOW.out.lt h1
       have:=HRW.out
       omega
     · exact HBR.out g hg e
   · rcases HBK.out g hg with h1 | h1
     · exact .inl h1
     · exact .inr h1.1
 · go_simp
   go_wp2_with fail
   refine (HSZ.out _ (Below.refl _ _)).mono ?_
   rintro e4 w8 ⟨rfl,hb8⟩
   have hSN:Hid (RB w8 Y r):=hid (hHeld.out.later hb8)
   have HX9:=hid (z0b HX8.out hb8)
   have HR9:=hid (z0b HR8.out hb8)
   have HT9:=hid (HT8.out.trans (Turn.of_below (S:=fun k=>t.blk=some k) hb8) fun _ _ h=>h)
   have HO9:=hid (z0x (S:=fun _=>False) HO8.out (Chg.of_below hb8) fun _ _ h=>h)
   clear hb8 HX8 HR8 HT8 HO8
   go_wp2_with fail
   refine hK.out _ _ hSN (fun hHeld2=>?_)
   try simp only [Act.put,sIB,sCZ,sCS]
   clear hSN hK K hHeld
   have hHeld:=hHeld2
   clear hHeld2
   refine wpAnyH_ready (rs:=[1]) (by kernel_rfl) (by simp) (AllReadyH.cons rfl (fun K hK=>?_) (AllReadyH.nil))
   have x7:=z0a (j:=7) HX9.out (v:=.int .i64 t.c.sz) rfl
   have hSN:Hid (RB w8 Y r):=hHeld
   go_simp
   go_wp2_with fail
   refine hK.out _ _ hSN (fun hHeld2=>?_)
   try simp only [Act.put,sIB,sCZ,sCS]
   clear hSN hK K hHeld
   have hHeld:=hHeld2
   clear hHeld2
   clear x7
   refine wpAnyH_ready (rs:=[4]) (by kernel_rfl) (by simp) (AllReadyH.cons rfl (fun K hK=>?_) (AllReadyH.nil))
   go_simp
   go_wp2_with fail
   refine (z4u t.c.sz s HG.out.1 HG.out.2.1 HG.out.2.2 _).mono ?_
   rintro e5 w9 ⟨rfl,hw9⟩
   subst hw9
   have hSN:Hid (RB w9 Y r):=hHeld
   go_wp2_with fail
   refine hK.out _ _ hSN (fun hHeld2=>?_)
   try simp only [Act.put,sIB,sCZ,sCS]
   clear hSN hK K hHeld
   have hHeld:=hHeld2
   clear hHeld2
   refine wpAnyH_take (i:=5) (oi:=⟨some 38,_,_,_,_,_⟩) (v:=.pointer (some ⟨X,7,none⟩)) rfl (by kernel_rfl) (by kernel_rfl) (by kernel_rfl) (fun _ _ _ h=>h) (Or.inl ⟨by rfl,fun w' hw'=>?_⟩) (by assumption) ?_
   · clear hHeld
     go_simp
   simp only [Act.put,sIB,sCZ,sCS]
   refine wpAnyH_ready (rs:=[6]) (by kernel_rfl) (by simp) (AllReadyH.cons rfl (fun K hK=>?_) (AllReadyH.nil))
   have hx7:=z0a (j:=7) HX9.out (v:=.int .i64 t.c.sz) rfl
   have hf7:=z0o 7 HX9.out
   have HXF:Hid ((w9.setCell ⟨X,7,none⟩ (.int .i64 (t.c.sz+s))).heap[X]?=some (.cells #[.int .u32 t.c.id,.int .u32 t.c.sg,.int .u8 t.c.st,.bool t.c.cp,.bool true,.slice t.p q t.m,.int .i64 t.c.fs,.int .i64 (t.c.sz+s)] 46 (0,0))):=hid (z0u 7 (.int .i64 (t.c.sz+s)) HX9.out)
   have hcx:Chg (fun k=>k=X) w9 (w9.setCell ⟨X,7,none⟩ (.int .i64 (t.c.sz+s))):=(Chg.refl _ _).setCell _ _ fun _=>rfl
   have hSN:Hid (RB (w9.setCell ⟨X,7,none⟩ (.int .i64 (t.c.sz+s))) Y r):=hid ((hcx.block Y (z0g hHeld.out) (fun e=>HNE.out.1 e.symm)).trans hHeld.out)
   have HRF:=hid ((hcx.block R (z0g HR9.out) (fun e=>HNE.out.2 e.symm)).trans HR9.out)
   have HTF:Hid (Turn (fun k=>t.blk=some k) W (w9.setCell ⟨X,7,none⟩ (.int .i64 (t.c.sz+s)))):=hid (z1p HT9.out hcx (fun k e=>by rw [e];exact Nat.le_of_eq HXW.out))
   have HOF:=hid (z0x (S:=fun k=>k=X) HO9.out hcx (fun g hg e=>by
    rcases HBK.out g hg with h1 | h1
    · have:=HOW.out.lt h1
      have:=HXW.out
      omega
    · exact h1.2 e))
   clear hcx
   go_simp
   go_wp2_with fail
   refine hK.out _ _ hSN (fun hHeld2=>?_)
   try simp only [Act.put,sIB,sCZ,sCS]
   clear hSN hK K hHeld
   have hHeld:=hHeld2
   clear hHeld2
   clear hx7 hf7
   refine wpAnyH_done (by kernel_rfl) ?_ _
   clear hHeld HX9 HR9 HT9 HO9
   generalize w9.setCell ⟨X,7,none⟩ (.int .i64 (t.c.sz+s))=V9 at *
   obtain⟨x0,x1,x2,x3,x4,x5,x6,x7⟩:=z0i HXF.out
   obtain⟨z0,z1,z2,z3,z4,z5,z6,z7⟩:=z0i HRF.out
   obtain⟨f0,f1,f2,f3,f4,f5,f6,f7⟩:=z5j HRF.out
   have HFS:=hid (z3q (a':=.int .u32 t.c.id) (b':=.int .u32 t.c.sg) (c':=.int .u8 t.c.st) (d':=.bool t.c.cp) (e':=.bool true) (f':=.slice t.p q t.m) (g':=.int .i64 t.c.fs) (h':=.int .i64 (t.c.sz+s)) HRF.out)
   have HCR:Hid (Chg (fun k=>k=R) V9 _):=hid (tchg V9 R (.int .u32 t.c.id) (.int .u32 t.c.sg) (.int .u8 t.c.st) (.bool t.c.cp) (.bool true) (.slice t.p q t.m) (.int .i64 t.c.fs) (.int .i64 (t.c.sz+s)))
   go_wp2_with fail
   refine bodyPost_ret (v:=.agg #[.int .u32 t.c.id,.int .u32 t.c.sg,.int .u8 t.c.st,.bool t.c.cp,.bool true,.slice t.p q t.m,.int .i64 t.c.fs,.int .i64 (t.c.sz+s)]) ?_ rfl ⟨_,_,_,rfl,z0x (S:=fun k=>k=R) HOF.out HCR.out (fun g hg e=>?_),z1p HTF.out HCR.out (fun k e=>by rw [e];exact HRW.out),fun g hg=>?_⟩
   · exact z3l rfl _ _ R _ rfl rfl HFS.out
   · rcases HBK.out g hg with h1 | h1
     · have:=HOW.out.lt h1
       have:=HRW.out
       omega
     · exact HBR.out g hg e
   · rcases HBK.out g hg with h1 | h1
     · exact .inl h1
     · exact .inr h1.1
end Go.Proofs.YtclbkfpbdidaiaaGreatDoor
