import Derived.Test.YtnpjpelbcmgodaaDoorPE99
import Derived.Test.YtnpjpelbcmgodaaDoorPE41
import Derived.Deep.RegionHeld
namespace Go.Proofs.YtnpjpelbcmgodaaDoor
open Go.Lib (hid)
set_option maxHeartbeats 1000000
open Go.RowKit Go.ChangeShapes Go.WideShapes
set_option linter.unusedVariables false
set_option linter.unusedSimpArgs false
set_option maxRecDepth 10000
theorem z2y {W w:World} {ops:Array Oper} {o:Oper} {a:Act} {K:Act→World→Prop} {Q:Exit→Act→World→Prop} {E:Prop} (hgd:o.guard=none) (s x:Operand)
 (ho:o.op=.call { callee:=.builtin .append,args:=#[s,x],argTypes:=#[34,34] })
 (v:Value) (L:List O) (N:Nat) (hs:a.eval s=v) (hF:z4d W w v L N) (p:Option Addr) (m c:Nat) (M:List O) (hx:a.eval x=.slice p m c) (hM:OL w p m c M) (hbig:N+m≤1000000)
 (h:∀ p' n' c' w',z4d W w' (.slice p' n' c') (L++M) (N+m)→K (a.put o.dst (.slice p' n' c')) w') :
 if Region.wanted o (yielded ops a.tmps)=true then Oper.wp Tryd.prog o a w K Q else E:=by
 have hlen:=hM.len
 have hmost:=hF.most
 refine z0t (k:=4) (by decide) Tryd.underlying34 z7j rfl (by omega) hgd s x ho v L.length (z0q oc L) hs (z1h hF.own) p m c (z0q oc M) hx (by rw [z1o z2q,hM.len]) (ol_none hM) (ol_news hM) (z1g z8g M) (by omega) fun p' c' w' h1 h2 h3=>?_
 rw [← z0z] at h1
 have:=fill_app hF h1 (by rw [List.length_append,hlen]) h2 h3
 rw [hlen] at this
 exact h p' _ c' w' this
theorem ol_one (w:World) (x:O):OL (w.alloc (.cells #[.int .u8 x.1.1,.int .u8 x.1.2.1,.int .u8 x.1.2.2,.int .i64 x.2] 72)) (some ⟨w.heap.size,0,none⟩) 1 1 [x]:=by
 obtain⟨p,c,he,hs,_⟩:=z6o x (Below.refl w.heap.size w)
 cases he
 exact hs
theorem z5r (t r:Int) (p:Option Addr) (n c:Nat) (L:List Ln) (W:World) (hL:LL W p n c L) (hok:∀ x∈L,Lnok x) (hn:n≤1000) :
 Calls Tryd.prog 48 #[.agg #[.int .u8 t,.int .u8 r,.slice p n c]] W (z2n W (opsS t r L)):=by
 have HST:=hid fun j (hj:j<n)=>opsS_take t r L j (by rw [hL.len];exact hj)
 have HIN:=hid fun j (hj:j<n)=>(z7i hok (show j<L.length by rw [hL.len];exact hj)).2
 have HEND:Hid (opsS t r (L.take n)=opsS t r L):=hid (by rw [← hL.len,List.take_length])
 have hb1:Below W.heap.size W (W.alloc (.cells #[.int .u8 t,.int .u8 r,.slice p n c] 76)):=(Below.refl _ _).alloc (Nat.le_refl _) _
 have HB1:=hid hb1
 have HL:=hid (hL.later hb1)
 have HX:=hid (z0d W (.cells #[.int .u8 t,.int .u8 r,.slice p n c] 76))
 have hcap:=hL.cap
 clear hL hok hb1
 go_enter Tryd.func48,Tryd.ntmps48
 go_wp2_with fail
 generalize W.alloc (.cells #[.int .u8 t,.int .u8 r,.slice p n c] 76)=W1 at *
 go_loopw [3,4] (fun v i wr=>∃ j:Nat,j≤n∧i=.int .i64 j∧Hid (z4d W1 wr v (opsS t r (L.take j)) (2*j))) (fun _ i _=>n-(Go.RowKit.intOf i).toNat)
 case atStart=>exact⟨0,Nat.zero_le _,rfl,hid (by rw [opsS_nil];exact FillG.nil W1)⟩
 case round =>
  obtain⟨j,hj,rfl,HF⟩:=hrel
  obtain⟨e0,e1,e2⟩:=z1n (z0a HX.out HF.out.below)
  by_cases hlt:j<n
  · have hlt':(j:Int)<n:=by omega
    obtain⟨b,off,rfl,_,c0,c1⟩:=z1m (HL.out.later HF.out.below) hlt
    have hx:=HIN.out j hlt
    have hst:=HST.out j hlt
    have hlen:=z7h t r (L.getD j l0)
    have hyes:=item_yes t r (L.getD j l0)
    have hno:=item_no t r (L.getD j l0)
    generalize hxx:L.getD j l0=x at *
    obtain⟨s,q⟩:=x
    have HXX:=hid hxx
    clear hxx
    dsimp only at c0 c1 hx hyes hno
    by_cases hq:1≤q
    · have hd:decide (1≤q)=true:=decide_eq_true hq
      rw [hyes hq] at hst
      have hadd:=fun W=>rone_any t r (s,q) W hx hq
      generalize oneS t r (s,q)=M at *
      have HS:=hid hst
      have HM:=hid hlen
      have HFD:=hid (HF.out.later (show Below wr.heap.size wr wr.drew from (Below.refl _ _).drew))
      have hbd:=HFD.out.below
      have HBX:Hid (∀ w',Below W1.heap.size W1 w'→w'.cell? ⟨W.heap.size,0,none⟩=some (.int .u8 t)∧w'.cell? ⟨W.heap.size,1,none⟩=some (.int .u8 r)∧w'.cell? ⟨W.heap.size,2,none⟩=some (.slice (some ⟨b,off,none⟩) n c)):=hid fun w' h=>z1n (z0a HX.out h)
      have HLN:Hid (∀ w',Below W1.heap.size W1 w'→w'.cell? ⟨b,off+j*2,none⟩=some (.int .u8 s)∧w'.cell? ⟨b,off+j*2+1,none⟩=some (.int .i64 q)):=hid fun w' h=>by
       obtain⟨b',off',he,_,d0,d1⟩:=z1m (HL.out.later h) hlt
       cases he
       rw [HXX.out] at d0 d1
       exact⟨d0,d1⟩
      clear hx hst hyes hno hlen hq
      go_wp2_with fail
      refine wp_region_held_drew (S:=fun w'=>Hid (Below W1.heap.size W1 w')) (by kernel_rfl) (hid hbd) (fun hHeld=>?_)
      clear hbd
      refine wpAnyH_take (i:=0) (oi:=⟨some 19,_,_,_,_,_⟩) (v:=u3) rfl (by kernel_rfl) (by kernel_rfl) (by kernel_rfl) (fun _ _ _ h=>h) (Or.inl ⟨by rfl,fun w' hw'=>?_⟩) (by assumption) ?_
      · clear hHeld
        go_simp
      simp only [Act.put,sIB,sCZ,sCS]
      refine wpAnyH_take (i:=1) (oi:=⟨some 20,_,_,_,_,_⟩) (v:=.pointer (some ⟨W.heap.size,0,none⟩)) rfl (by kernel_rfl) (by kernel_rfl) (by kernel_rfl) (fun _ _ _ h=>h) (Or.inl ⟨by rfl,fun w' hw'=>?_⟩) (by assumption) ?_
      · clear hHeld
        go_simp
      simp only [Act.put,sIB,sCZ,sCS]
      refine wpAnyH_take (i:=2) (oi:=⟨some 21,_,_,_,_,_⟩) (v:=.int .u8 t) rfl (by kernel_rfl) (by kernel_rfl) (by kernel_rfl) (fun _ _ _ h=>h) (Or.inl ⟨by rfl,fun w' hw'=>?_⟩) (by assumption) ?_
      · obtain⟨g0,g1,g2⟩:=HBX.out w' hw'.out
        clear hHeld
        go_simp
      simp only [Act.put,sIB,sCZ,sCS]
      refine wpAnyH_take (i:=3) (oi:=⟨some 22,_,_,_,_,_⟩) (v:=.pointer (some ⟨W.heap.size,1,none⟩)) rfl (by kernel_rfl) (by kernel_rfl) (by kernel_rfl) (fun _ _ _ h=>h) (Or.inl ⟨by rfl,fun w' hw'=>?_⟩) (by assumption) ?_
      · clear hHeld
        go_simp
      simp only [Act.put,sIB,sCZ,sCS]
      refine wpAnyH_take (i:=4) (oi:=⟨some 23,_,_,_,_,_⟩) (v:=.int .u8 r) rfl (by kernel_rfl) (by kernel_rfl) (by kernel_rfl) (fun _ _ _ h=>h) (Or.inl ⟨by rfl,fun w' hw'=>?_⟩) (by assumption) ?_
      · obtain⟨g0,g1,g2⟩:=HBX.out w' hw'.out
        clear hHeld
        go_simp
      simp only [Act.put,sIB,sCZ,sCS]
      refine wpAnyH_take (i:=5) (oi:=⟨some 24,_,_,_,_,_⟩) (v:=.pointer (some ⟨W.heap.size,2,none⟩)) rfl (by kernel_rfl) (by kernel_rfl) (by kernel_rfl) (fun _ _ _ h=>h) (Or.inl ⟨by rfl,fun w' hw'=>?_⟩) (by assumption) ?_
      · clear hHeld
        go_simp
      simp only [Act.put,sIB,sCZ,sCS]
      refine wpAnyH_take (i:=6) (oi:=⟨some 25,_,_,_,_,_⟩) (v:=.slice (some ⟨b,off,none⟩) n c) rfl (by kernel_rfl) (by kernel_rfl) (by kernel_rfl) (fun _ _ _ h=>h) (Or.inl ⟨by rfl,fun w' hw'=>?_⟩) (by assumption) ?_
      · obtain⟨g0,g1,g2⟩:=HBX.out w' hw'.out
        clear hHeld
        go_simp
      simp only [Act.put,sIB,sCZ,sCS]
      refine wpAnyH_take (i:=7) (oi:=⟨some 26,_,_,_,_,_⟩) (v:=.int .i64 (j:Nat)) rfl (by kernel_rfl) (by kernel_rfl) (by kernel_rfl) (fun _ _ _ h=>h) (Or.inl ⟨by rfl,fun w' hw'=>?_⟩) (by assumption) ?_
      · clear hHeld
        go_simp
      simp only [Act.put,sIB,sCZ,sCS]
      refine wpAnyH_take (i:=8) (oi:=⟨some 27,_,_,_,_,_⟩) (v:=.pointer (some ⟨b,off+j*2,none⟩)) rfl (by kernel_rfl) (by kernel_rfl) (by kernel_rfl) (fun _ _ _ h=>h) (Or.inl ⟨by rfl,fun w' hw'=>?_⟩) (by assumption) ?_
      · clear hHeld
        go_simp
      simp only [Act.put,sIB,sCZ,sCS]
      refine wpAnyH_take (i:=9) (oi:=⟨some 28,_,_,_,_,_⟩) (v:=.agg #[.int .u8 s,.int .i64 q]) rfl (by kernel_rfl) (by kernel_rfl) (by kernel_rfl) (fun _ _ _ h=>h) (Or.inl ⟨by rfl,fun w' hw'=>?_⟩) (by assumption) ?_
      · obtain⟨g0,g1⟩:=HLN.out w' hw'.out
        clear hHeld
        go_simp
      simp only [Act.put,sIB,sCZ,sCS]
      generalize wr.drew=Wd at *
      refine wpAnyH_ready (rs:=[10]) (by kernel_rfl) (by simp) (AllReadyH.cons rfl (fun K hK=>?_) AllReadyH.nil)
      go_simp
      go_wp2_with fail
      refine (hadd _).mono ?_
      rintro e w2 ⟨p2,c2,rfl,hs2,hb2,_⟩
      have HF2:=hid (HFD.out.later hb2)
      have HS2:=hid hs2
      have HM2:=HM.out
      clear hs2 hb2 HFD hadd
      go_wp2_with fail
      refine hK.out _ _ (hid HF2.out.below) (fun hHeld2=>?_)
      clear hK K hHeld
      have hHeld:=hHeld2
      clear hHeld2
      try simp only [Act.put,sIB,sCZ,sCS]
      refine wpAnyH_ready (rs:=[11]) (by kernel_rfl) (by simp) (AllReadyH.cons rfl (fun K hK=>?_) AllReadyH.nil)
      refine z2y rfl (.tmp 19) (.tmp 29) rfl u3 _ _ (by simp [Act.eval]) HF2.out p2 _ c2 M (by simp [Act.eval]) HS2.out (by omega) ?_
      intro p3 n3 c3 w3 h3
      have HF3:=hid h3
      clear h3 HF2
      refine hK.out _ _ (hid HF3.out.below) (fun hHeld2=>?_)
      clear hK K hHeld
      have hHeld:=hHeld2
      clear hHeld2
      try simp only [Act.put,sIB,sCZ,sCS]
      refine wpAnyH_take (i:=12) (oi:=⟨some 3,_,_,_,_,_⟩) (v:=.slice p3 n3 c3) rfl (by kernel_rfl) (by kernel_rfl) (by kernel_rfl) (fun _ _ _ h=>h) (Or.inl ⟨by rfl,fun w' hw'=>?_⟩) (by assumption) ?_
      · clear hHeld
        go_simp
      simp only [Act.put,sIB,sCZ,sCS]
      refine wpAnyH_done (by kernel_rfl) ?_ _
      clear hHeld
      go_wp2_with fail
      go_roundw
      case rel=>exact⟨j+1,by omega,by go_num,hid (by rw [HS.out];exact HF3.out.mono (by omega))⟩
      case measure=>simp [Go.RowKit.intOf];omega
    · have hd:decide (1≤q)=false:=decide_eq_false hq
      rw [hno hq,List.append_nil] at hst
      have HS:=hid hst
      clear hx hst hyes hno hlen hq
      go_wp2_with fail
      go_roundw
      case rel=>exact⟨j+1,by omega,by go_num,hid (by rw [HS.out];exact HF.out.mono (by omega))⟩
      case measure=>simp [Go.RowKit.intOf];omega
  · obtain rfl:j=n:=by omega
    go_wp2_with fail
    go_ret
    have:=HF.out.gives (d:=o0) z2q (by decide)
    rw [HEND.out] at this
    exact this.since HB1.out
theorem undo_any (t r:Int) (p:Option Addr) (n c:Nat) (L:List Ln) (W:World) (hL:LL W p n c L) (hok:∀ x∈L,Lnok x) (hr:0≤r∧r≤255) (hn:n≤1000) :
 Calls Tryd.prog 46 #[.agg #[.int .u8 t,.int .u8 r,.slice p n c]] W (z2n W (negF (opsS t r L))):=by
 have hb1:Below W.heap.size W (W.alloc (.cells #[.int .u8 t,.int .u8 r,.slice p n c] 76)):=(Below.refl _ _).alloc (Nat.le_refl _) _
 have HB1:=hid hb1
 have hop:=z7y t r p n c L _ (hL.later hb1) hok hn
 have HNB:=hid (negB_ops t r L hr hok)
 have HOK:=hid fun o ho=>(z7z t r L hr hok o ho).1
 have HLE:Hid ((opsS t r L).length≤2000):=hid (by have:=z7g t r L;rw [hL.len] at this;omega)
 generalize opsS t r L=M at *
 clear hL hok hb1
 go_enter Tryd.func46,Tryd.ntmps46
 go_wp2_with fail
 refine hop.mono ?_
 rintro e w2 ⟨p2,c2,rfl,hs2,hb2,_⟩
 have HB2:=hid (HB1.out.trans (hb2.mono HB1.out.size))
 have hne:=neg_o p2 _ c2 M w2 hs2 HOK.out (by have:=HLE.out;omega)
 rw [HNB.out,negV_true HNB.out] at hne
 clear hop hb2 hs2
 generalize M.length=m at *
 go_wp2_with fail
 refine hne.mono ?_
 rintro e w3 ⟨p3,c3,rfl,hs3,hb3,hp3⟩
 have HG:Hid (z2n W (negF M) (.returned (.slice p3 (negF M).length c3)) w3):=hid ⟨p3,c3,rfl,hs3,HB2.out.trans (hb3.mono HB2.out.size),fun a ha=>Nat.le_trans HB2.out.size (hp3 a ha)⟩
 clear hne hs3 hb3 hp3
 generalize (negF M).length=k at *
 go_wp2_with fail
 go_ret
 exact HG.out
theorem refundo_any (t r:Int) (p:Option Addr) (n c:Nat) (L:List Ln) (W:World) (hL:LL W p n c L) (hok:∀ x∈L,Lnok x) (hr:0≤r∧r≤255) (hn:n≤1000) :
 Calls Tryd.prog 49 #[.agg #[.int .u8 t,.int .u8 r,.slice p n c]] W (z2n W (negF (opsS t r L))):=by
 have hb1:Below W.heap.size W (W.alloc (.cells #[.int .u8 t,.int .u8 r,.slice p n c] 76)):=(Below.refl _ _).alloc (Nat.le_refl _) _
 have HB1:=hid hb1
 have hop:=z5r t r p n c L _ (hL.later hb1) hok hn
 have hmi:∀ j,j<(opsS t r L).length→In64 (-((opsS t r L).getD j o0).2):=fun j hj=>by
  rw [List.getD,List.getElem?_eq_getElem hj]
  exact (z7z t r L hr hok _ (List.getElem_mem hj)).2.1
 have HMI:=hid hmi
 have HLE:Hid ((opsS t r L).length≤2000):=hid (by have:=z7g t r L;rw [hL.len] at this;omega)
 generalize opsS t r L=M at *
 clear hL hok hb1 hmi
 go_enter Tryd.func49,Tryd.ntmps49
 go_wp2_with fail
 refine hop.mono ?_
 rintro e w2 ⟨p2,c2,rfl,hs2,hb2,_⟩
 have HB2:=hid (HB1.out.trans (hb2.mono HB1.out.size))
 have HS2:=hid hs2
 have HGS:=hid fun j (hj:j<M.length)=>gathN_step M j hj
 have HGE:Hid (z6p M M.length=[]):=hid (gathN_start M _ rfl)
 have hc2:=hs2.cap
 clear hop hb2 hs2
 generalize M.length=m at *
 have hm:=HLE.out
 go_wp2_with fail
 obtain⟨W2,hW2⟩:∃ W2,W2=w2:=⟨_,rfl⟩
 subst hW2
 go_loopw [4,5] (fun v i wr=>∃ t:Nat,t≤m∧i=.int .i64 ((t:Int)-1)∧Hid (z4d W2 wr v (z6p M t) (m-t))) (fun _ i _=>(Go.RowKit.intOf i+1).toNat)
 case atStart=>exact⟨m,Nat.le_refl _,by go_num,hid (by rw [HGE.out,Nat.sub_self];exact FillG.nil W2)⟩
 case round =>
  obtain⟨t,ht,rfl,HF⟩:=hrel
  by_cases h0:t=0
  · subst h0
    have hd:decide (0≤((0:Nat):Int)-1)=false:=by decide
    go_wp2_with fail
    go_ret
    have:=HF.out.gives (d:=o0) z2q (by decide)
    rw [gathN_end M] at this
    exact this.since HB2.out
  · obtain⟨j,rfl⟩:∃ j,t=j+1:=⟨t-1,by omega⟩
    have hlt:j<m:=by omega
    have hlt':(j:Int)<m:=by omega
    obtain⟨b,off,rfl,_,k0,k1,k2,k3⟩:=z2b (HS2.out.later HF.out.below) hlt
    have hx:=HMI.out j hlt
    have hst:=HGS.out j hlt
    generalize hxx:M.getD j o0=x at *
    have HXX:=hid hxx
    clear hxx
    have hw:IntKind.i64.wrap (-x.2) = -x.2:=IntWalk.i64_in _ hx
    have HS:=hid hst
    have HFD:=hid (HF.out.later (show Below wr.heap.size wr wr.drew from (Below.refl _ _).drew))
    have hbd:=HFD.out.below
    have hji:((j+1:Nat):Int)-1=j:=by omega
    have HOC:Hid (∀ w',Below W2.heap.size W2 w'→w'.cell? ⟨b,off+j*4,none⟩=some (.int .u8 x.1.1)∧w'.cell? ⟨b,off+j*4+1,none⟩=some (.int .u8 x.1.2.1)∧w'.cell? ⟨b,off+j*4+2,none⟩=some (.int .u8 x.1.2.2)∧w'.cell? ⟨b,off+j*4+3,none⟩=some (.int .i64 x.2)):=hid fun w' h=>by
     obtain⟨b',off',he,_,d0,d1,d2,d3⟩:=z2b (HS2.out.later h) hlt
     cases he
     rw [HXX.out] at d0 d1 d2 d3
     exact⟨d0,d1,d2,d3⟩
    clear hst hx
    go_wp2_with fail
    refine wp_region_held_drew (S:=fun w'=>Hid (Below W2.heap.size W2 w')) (by kernel_rfl) (hid hbd) (fun hHeld=>?_)
    clear hbd
    refine wpAnyH_take (i:=0) (oi:=⟨some 15,_,_,_,_,_⟩) (v:=u4) rfl (by kernel_rfl) (by kernel_rfl) (by kernel_rfl) (fun _ _ _ h=>h) (Or.inl ⟨by rfl,fun w' hw'=>?_⟩) (by assumption) ?_
    · clear hHeld
      go_simp
    simp only [Act.put,sIB,sCZ,sCS]
    refine wpAnyH_take (i:=1) (oi:=⟨some 16,_,_,_,_,_⟩) (v:=.slice (some ⟨b,off,none⟩) m c2) rfl (by kernel_rfl) (by kernel_rfl) (by kernel_rfl) (fun _ _ _ h=>h) (Or.inl ⟨by rfl,fun w' hw'=>?_⟩) (by assumption) ?_
    · clear hHeld
      go_simp
    simp only [Act.put,sIB,sCZ,sCS]
    refine wpAnyH_take (i:=2) (oi:=⟨some 17,_,_,_,_,_⟩) (v:=.int .i64 (j:Nat)) rfl (by kernel_rfl) (by kernel_rfl) (by kernel_rfl) (fun _ _ _ h=>h) (Or.inl ⟨by rfl,fun w' hw'=>?_⟩) (by assumption) ?_
    · clear hHeld
      go_simp
    simp only [Act.put,sIB,sCZ,sCS]
    refine wpAnyH_take (i:=3) (oi:=⟨some 18,_,_,_,_,_⟩) (v:=.pointer (some ⟨b,off+j*4,none⟩)) rfl (by kernel_rfl) (by kernel_rfl) (by kernel_rfl) (fun _ _ _ h=>h) (Or.inl ⟨by rfl,fun w' hw'=>?_⟩) (by assumption) ?_
    · clear hHeld
      go_simp
    simp only [Act.put,sIB,sCZ,sCS]
    refine wpAnyH_take (i:=4) (oi:=⟨some 19,_,_,_,_,_⟩) (v:=.pointer (some ⟨b,off+j*4,none⟩)) rfl (by kernel_rfl) (by kernel_rfl) (by kernel_rfl) (fun _ _ _ h=>h) (Or.inl ⟨by rfl,fun w' hw'=>?_⟩) (by assumption) ?_
    · clear hHeld
      go_simp
    simp only [Act.put,sIB,sCZ,sCS]
    refine wpAnyH_take (i:=5) (oi:=⟨some 20,_,_,_,_,_⟩) (v:=.agg #[.int .u8 x.1.1,.int .u8 x.1.2.1,.int .u8 x.1.2.2]) rfl (by kernel_rfl) (by kernel_rfl) (by kernel_rfl) (fun _ _ _ h=>h) (Or.inl ⟨by rfl,fun w' hw'=>?_⟩) (by assumption) ?_
    · obtain⟨g0,g1,g2,g3⟩:=HOC.out w' hw'.out
      clear hHeld
      go_simp
    simp only [Act.put,sIB,sCZ,sCS]
    refine wpAnyH_take (i:=6) (oi:=⟨some 21,_,_,_,_,_⟩) (v:=.slice (some ⟨b,off,none⟩) m c2) rfl (by kernel_rfl) (by kernel_rfl) (by kernel_rfl) (fun _ _ _ h=>h) (Or.inl ⟨by rfl,fun w' hw'=>?_⟩) (by assumption) ?_
    · clear hHeld
      go_simp
    simp only [Act.put,sIB,sCZ,sCS]
    refine wpAnyH_take (i:=7) (oi:=⟨some 22,_,_,_,_,_⟩) (v:=.int .i64 (j:Nat)) rfl (by kernel_rfl) (by kernel_rfl) (by kernel_rfl) (fun _ _ _ h=>h) (Or.inl ⟨by rfl,fun w' hw'=>?_⟩) (by assumption) ?_
    · clear hHeld
      go_simp
    simp only [Act.put,sIB,sCZ,sCS]
    refine wpAnyH_take (i:=8) (oi:=⟨some 23,_,_,_,_,_⟩) (v:=.pointer (some ⟨b,off+j*4,none⟩)) rfl (by kernel_rfl) (by kernel_rfl) (by kernel_rfl) (fun _ _ _ h=>h) (Or.inl ⟨by rfl,fun w' hw'=>?_⟩) (by assumption) ?_
    · clear hHeld
      go_simp
    simp only [Act.put,sIB,sCZ,sCS]
    refine wpAnyH_take (i:=9) (oi:=⟨some 24,_,_,_,_,_⟩) (v:=.pointer (some ⟨b,off+j*4+3,none⟩)) rfl (by kernel_rfl) (by kernel_rfl) (by kernel_rfl) (fun _ _ _ h=>h) (Or.inl ⟨by rfl,fun w' hw'=>?_⟩) (by assumption) ?_
    · clear hHeld
      go_simp
    simp only [Act.put,sIB,sCZ,sCS]
    refine wpAnyH_take (i:=10) (oi:=⟨some 25,_,_,_,_,_⟩) (v:=.int .i64 x.2) rfl (by kernel_rfl) (by kernel_rfl) (by kernel_rfl) (fun _ _ _ h=>h) (Or.inl ⟨by rfl,fun w' hw'=>?_⟩) (by assumption) ?_
    · obtain⟨g0,g1,g2,g3⟩:=HOC.out w' hw'.out
      clear hHeld
      go_simp
    simp only [Act.put,sIB,sCZ,sCS]
    refine wpAnyH_take (i:=11) (oi:=⟨some 26,_,_,_,_,_⟩) (v:=.int .i64 (-x.2)) rfl (by kernel_rfl) (by kernel_rfl) (by kernel_rfl) (fun _ _ _ h=>h) (Or.inl ⟨by rfl,fun w' hw'=>?_⟩) (by assumption) ?_
    · clear hHeld
      go_simp
    simp only [Act.put,sIB,sCZ,sCS]
    refine wpAnyH_take (i:=12) (oi:=⟨some 27,_,_,_,_,_⟩) (v:=.agg #[.int .u8 x.1.1,.int .u8 x.1.2.1,.int .u8 x.1.2.2,.int .i64 (-x.2)]) rfl (by kernel_rfl) (by kernel_rfl) (by kernel_rfl) (fun _ _ _ h=>h) (Or.inl ⟨by rfl,fun w' hw'=>?_⟩) (by assumption) ?_
    · clear hHeld
      go_simp
    simp only [Act.put,sIB,sCZ,sCS]
    generalize wr.drew=Wd at *
    refine wpAnyH_ready (rs:=[13]) (by kernel_rfl) (by simp) (AllReadyH.cons rfl (fun K hK=>?_) AllReadyH.nil)
    go_simp
    have hba:Below Wd.heap.size Wd (Wd.alloc (.cells #[.int .u8 x.1.1,.int .u8 x.1.2.1,.int .u8 x.1.2.2,.int .i64 (-x.2)] 72)):=(Below.refl _ _).alloc (Nat.le_refl _) _
    have HF2:=hid (HFD.out.later hba)
    have HS2:=hid (ol_one Wd (x.1,-x.2))
    clear hba HFD
    refine hK.out _ _ (hid HF2.out.below) (fun hHeld2=>?_)
    clear hK K hHeld
    have hHeld:=hHeld2
    clear hHeld2
    try simp only [Act.put,sIB,sCZ,sCS]
    refine wpAnyH_ready (rs:=[14]) (by kernel_rfl) (by simp) (AllReadyH.cons rfl (fun K hK=>?_) AllReadyH.nil)
    refine z2y rfl (.tmp 15) (.tmp 28) rfl u4 _ _ (by simp [Act.eval]) HF2.out (some ⟨Wd.heap.size,0,none⟩) 1 1 [(x.1,-x.2)] (by simp [Act.eval]) HS2.out (by omega) ?_
    intro p3 n3 c3 w3 h3
    have HF3:=hid h3
    clear h3 HF2
    refine hK.out _ _ (hid HF3.out.below) (fun hHeld2=>?_)
    clear hK K hHeld
    have hHeld:=hHeld2
    clear hHeld2
    try simp only [Act.put,sIB,sCZ,sCS]
    refine wpAnyH_take (i:=15) (oi:=⟨some 4,_,_,_,_,_⟩) (v:=.slice p3 n3 c3) rfl (by kernel_rfl) (by kernel_rfl) (by kernel_rfl) (fun _ _ _ h=>h) (Or.inl ⟨by rfl,fun w' hw'=>?_⟩) (by assumption) ?_
    · clear hHeld
      go_simp
    simp only [Act.put,sIB,sCZ,sCS]
    refine wpAnyH_done (by kernel_rfl) ?_ _
    clear hHeld
    go_wp2_with fail
    go_roundw
    case rel=>exact⟨j,by omega,by go_num,hid (by rw [HS.out];exact HF3.out.mono (by omega))⟩
    case measure=>simp [Go.RowKit.intOf]
end Go.Proofs.YtnpjpelbcmgodaaDoor
