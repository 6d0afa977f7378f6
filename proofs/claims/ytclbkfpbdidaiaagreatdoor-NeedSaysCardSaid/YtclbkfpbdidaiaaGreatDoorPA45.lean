import Derived.Test.YtclbkfpbdidaiaaGreatDoorPA99
import Derived.Test.YtclbkfpbdidaiaaGreatDoorPA44
import Derived.Shelf.SlIterI.Nil
import Derived.Deep.RegionHeld
namespace Go.Proofs.YtclbkfpbdidaiaaGreatDoor
open Go.Lib (hid)
set_option maxHeartbeats 1000000
open Go.RowKit Go.ChangeShapes Go.WideShapes
set_option linter.unusedVariables false
set_option linter.unusedSimpArgs false
set_option maxRecDepth 10000
theorem step_append_fill {W w:World} {ops:Array Oper} {o:Oper} {a:Act} {K:Act→World→Prop} {Q:Exit→Act→World→Prop} {E:Prop} (hgd:o.guard=none) (s x:Operand)
 (ho:o.op=.call { callee:=.builtin .append,args:=#[s,x],argTypes:=#[44,44] })
 (v:Value) (L:List O) (N:Nat) (hs:a.eval s=v) (hF:FillO W w v L N) (p:Option Addr) (m c:Nat) (M:List O) (hx:a.eval x=.slice p m c) (hM:OL w p m c M) (hbig:N+m≤1000000)
 (h:∀ p' n' c' w',FillO W w' (.slice p' n' c') (L++M) (N+m)→K (a.put o.dst (.slice p' n' c')) w') :
 if Region.wanted o (yielded ops a.tmps)=true then Oper.wp Tryz.prog o a w K Q else E:=by
 have hlen:=hM.len
 have hmost:=hF.most
 refine z0u (k:=4) (by decide) Tryz.underlying44 info_op rfl (by omega) hgd s x ho v L.length (z0v oc L) hs (z2a hF.own) p m c (z0v oc M) hx (by rw [z1x oc_len,hM.len]) (ol_none hM) (ol_news hM) (z1r oc_one M) (by omega) fun p' c' w' h1 h2 h3=>?_
 rw [← z1e] at h1
 have:=fill_app hF h1 (by rw [List.length_append,hlen]) h2 h3
 rw [hlen] at this
 exact h p' _ c' w' this
theorem refops_any (t r:Int) (p:Option Addr) (n c:Nat) (L:List Ln) (W:World) (hL:LL W p n c L) (hok:∀ x∈L,Lnok x) (hn:n≤1000) :
 Calls Tryz.prog 47 #[.agg #[.int .u8 t,.int .u8 r,.slice p n c]] W (GivesO W (opsS t r L)):=by
 have HST:=hid fun j (hj:j<n)=>opsS_take t r L j (by rw [hL.len];exact hj)
 have HIN:=hid fun j (hj:j<n)=>(lnok_at hok (show j<L.length by rw [hL.len];exact hj)).2
 have HEND:Hid (opsS t r (L.take n)=opsS t r L):=hid (by rw [← hL.len,List.take_length])
 have hb1:Below W.heap.size W (W.alloc (.cells #[.int .u8 t,.int .u8 r,.slice p n c] 52)):=(Below.refl _ _).alloc (Nat.le_refl _) _
 have HB1:=hid hb1
 have HL:=hid (hL.later hb1)
 have HX:=hid (z0c W (.cells #[.int .u8 t,.int .u8 r,.slice p n c] 52))
 have hcap:=hL.cap
 clear hL hok hb1
 go_enter Tryz.func47,Tryz.ntmps47
 go_wp2_with fail
 generalize W.alloc (.cells #[.int .u8 t,.int .u8 r,.slice p n c] 52)=W1 at *
 go_loopw [3,4] (fun v i wr=>∃ j:Nat,j≤n∧i=.int .i64 j∧Hid (FillO W1 wr v (opsS t r (L.take j)) (2*j))) (fun _ i _=>n-(Go.RowKit.intOf i).toNat)
 case atStart=>exact⟨0,Nat.zero_le _,rfl,hid (by rw [opsS_nil];exact FillG.nil W1)⟩
 case round =>
  obtain⟨j,hj,rfl,HF⟩:=hrel
  obtain⟨e0,e1,e2⟩:=z1m (z0b HX.out HF.out.below)
  by_cases hlt:j<n
  · have hlt':(j:Int)<n:=by omega
    obtain⟨b,off,rfl,_,c0,c1⟩:=z1j (HL.out.later HF.out.below) hlt
    have hx:=HIN.out j hlt
    have hst:=HST.out j hlt
    have hlen:=one_len t r (L.getD j l0)
    have hyes:=item_yes t r (L.getD j l0)
    have hno:=item_no t r (L.getD j l0)
    generalize hxx:L.getD j l0=x at *
    obtain⟨s,q⟩:=x
    have HXX:=hid hxx
    clear hxx
    dsimp only at c0 c1 hx hyes hno
    by_cases hq:1≤q
    · have hd:decide (1≤q)=true:=decide_eq_true hq
      rw [hyes hq] at hst
      have hadd:=fun W=>rone_any t r (s,q) W hx hq
      generalize oneS t r (s,q)=M at *
      have HS:=hid hst
      have HM:=hid hlen
      have HFD:=hid (HF.out.later (show Below wr.heap.size wr wr.drew from (Below.refl _ _).drew))
      have hbd:=HFD.out.below
      have HBX:Hid (∀ w',Below W1.heap.size W1 w'→w'.cell? ⟨W.heap.size,0,none⟩=some (.int .u8 t)∧w'.cell? ⟨W.heap.size,1,none⟩=some (.int .u8 r)∧w'.cell? ⟨W.heap.size,2,none⟩=some (.slice (some ⟨b,off,none⟩) n c)):=hid fun w' h=>z1m (z0b HX.out h)
      have HLN:Hid (∀ w',Below W1.heap.size W1 w'→w'.cell? ⟨b,off+j*2,none⟩=some (.int .u8 s)∧w'.cell? ⟨b,off+j*2+1,none⟩=some (.int .i64 q)):=hid fun w' h=>by
       obtain⟨b',off',he,_,d0,d1⟩:=z1j (HL.out.later h) hlt
       cases he
       rw [HXX.out] at d0 d1
       exact⟨d0,d1⟩
      clear hx hst hyes hno hlen hq
      go_wp2_with fail
      refine wp_region_held_drew (S:=fun w'=>Hid (Below W1.heap.size W1 w')) (by kernel_rfl) (hid hbd) (fun hHeld=>?_)
      clear hbd
      refine wpAnyH_take (i:=0) (oi:=⟨some 19,_,_,_,_,_⟩) (v:=u3) rfl (by kernel_rfl) (by kernel_rfl) (by kernel_rfl) (fun _ _ _ h=>h) (Or.inl ⟨by rfl,fun w' hw'=>?_⟩) (by assumption) ?_
      · clear hHeld
        go_simp
      simp only [Act.put,sIB,sCZ,sCS]
      refine wpAnyH_take (i:=1) (oi:=⟨some 20,_,_,_,_,_⟩) (v:=.pointer (some ⟨W.heap.size,0,none⟩)) rfl (by kernel_rfl) (by kernel_rfl) (by kernel_rfl) (fun _ _ _ h=>h) (Or.inl ⟨by rfl,fun w' hw'=>?_⟩) (by assumption) ?_
      · clear hHeld
        go_simp
      simp only [Act.put,sIB,sCZ,sCS]
      refine wpAnyH_take (i:=2) (oi:=⟨some 21,_,_,_,_,_⟩) (v:=.int .u8 t) rfl (by kernel_rfl) (by kernel_rfl) (by kernel_rfl) (fun _ _ _ h=>h) (Or.inl ⟨by rfl,fun w' hw'=>?_⟩) (by assumption) ?_
      · obtain⟨g0,g1,g2⟩:=HBX.out w' hw'.out
        clear hHeld
        go_simp
      simp only [Act.put,sIB,sCZ,sCS]
      refine wpAnyH_take (i:=3) (oi:=⟨some 22,_,_,_,_,_⟩) (v:=.pointer (some ⟨W.heap.size,1,none⟩)) rfl (by kernel_rfl) (by kernel_rfl) (by kernel_rfl) (fun _ _ _ h=>h) (Or.inl ⟨by rfl,fun w' hw'=>?_⟩) (by assumption) ?_
      · clear hHeld
        go_simp
      simp only [Act.put,sIB,sCZ,sCS]
      refine wpAnyH_take (i:=4) (oi:=⟨some 23,_,_,_,_,_⟩) (v:=.int .u8 r) rfl (by kernel_rfl) (by kernel_rfl) (by kernel_rfl) (fun _ _ _ h=>h) (Or.inl ⟨by rfl,fun w' hw'=>?_⟩) (by assumption) ?_
      · obtain⟨g0,g1,g2⟩:=HBX.out w' hw'.out
        clear hHeld
        go_simp
      simp only [Act.put,sIB,sCZ,sCS]
      refine wpAnyH_take (i:=5) (oi:=⟨some 24,_,_,_,_,_⟩) (v:=.pointer (some ⟨W.heap.size,2,none⟩)) rfl (by kernel_rfl) (by kernel_rfl) (by kernel_rfl) (fun _ _ _ h=>h) (Or.inl ⟨by rfl,fun w' hw'=>?_⟩) (by assumption) ?_
      · clear hHeld
        go_simp
      simp only [Act.put,sIB,sCZ,sCS]
      refine wpAnyH_take (i:=6) (oi:=⟨some 25,_,_,_,_,_⟩) (v:=.slice (some ⟨b,off,none⟩) n c) rfl (by kernel_rfl) (by kernel_rfl) (by kernel_rfl) (fun _ _ _ h=>h) (Or.inl ⟨by rfl,fun w' hw'=>?_⟩) (by assumption) ?_
      · obtain⟨g0,g1,g2⟩:=HBX.out w' hw'.out
        clear hHeld
        go_simp
      simp only [Act.put,sIB,sCZ,sCS]
      refine wpAnyH_take (i:=7) (oi:=⟨some 26,_,_,_,_,_⟩) (v:=.int .i64 (j:Nat)) rfl (by kernel_rfl) (by kernel_rfl) (by kernel_rfl) (fun _ _ _ h=>h) (Or.inl ⟨by rfl,fun w' hw'=>?_⟩) (by assumption) ?_
      · clear hHeld
        go_simp
      simp only [Act.put,sIB,sCZ,sCS]
      refine wpAnyH_take (i:=8) (oi:=⟨some 27,_,_,_,_,_⟩) (v:=.pointer (some ⟨b,off+j*2,none⟩)) rfl (by kernel_rfl) (by kernel_rfl) (by kernel_rfl) (fun _ _ _ h=>h) (Or.inl ⟨by rfl,fun w' hw'=>?_⟩) (by assumption) ?_
      · clear hHeld
        go_simp
      simp only [Act.put,sIB,sCZ,sCS]
      refine wpAnyH_take (i:=9) (oi:=⟨some 28,_,_,_,_,_⟩) (v:=.agg #[.int .u8 s,.int .i64 q]) rfl (by kernel_rfl) (by kernel_rfl) (by kernel_rfl) (fun _ _ _ h=>h) (Or.inl ⟨by rfl,fun w' hw'=>?_⟩) (by assumption) ?_
      · obtain⟨g0,g1⟩:=HLN.out w' hw'.out
        clear hHeld
        go_simp
      simp only [Act.put,sIB,sCZ,sCS]
      generalize wr.drew=Wd at *
      refine wpAnyH_ready (rs:=[10]) (by kernel_rfl) (by simp) (AllReadyH.cons rfl (fun K hK=>?_) AllReadyH.nil)
      go_simp
      go_wp2_with fail
      refine (hadd _).mono ?_
      rintro e w2 ⟨p2,c2,rfl,hs2,hb2,_⟩
      have HF2:=hid (HFD.out.later hb2)
      have HS2:=hid hs2
      have HM2:=HM.out
      clear hs2 hb2 HFD hadd
      go_wp2_with fail
      refine hK.out _ _ (hid HF2.out.below) (fun hHeld2=>?_)
      clear hK K hHeld
      have hHeld:=hHeld2
      clear hHeld2
      try simp only [Act.put,sIB,sCZ,sCS]
      refine wpAnyH_ready (rs:=[11]) (by kernel_rfl) (by simp) (AllReadyH.cons rfl (fun K hK=>?_) AllReadyH.nil)
      refine step_append_fill rfl (.tmp 19) (.tmp 29) rfl u3 _ _ (by simp [Act.eval]) HF2.out p2 _ c2 M (by simp [Act.eval]) HS2.out (by omega) ?_
      intro p3 n3 c3 w3 h3
      have HF3:=hid h3
      clear h3 HF2
      refine hK.out _ _ (hid HF3.out.below) (fun hHeld2=>?_)
      clear hK K hHeld
      have hHeld:=hHeld2
      clear hHeld2
      try simp only [Act.put,sIB,sCZ,sCS]
      refine wpAnyH_take (i:=12) (oi:=⟨some 3,_,_,_,_,_⟩) (v:=.slice p3 n3 c3) rfl (by kernel_rfl) (by kernel_rfl) (by kernel_rfl) (fun _ _ _ h=>h) (Or.inl ⟨by rfl,fun w' hw'=>?_⟩) (by assumption) ?_
      · clear hHeld
        go_simp
      simp only [Act.put,sIB,sCZ,sCS]
      refine wpAnyH_done (by kernel_rfl) ?_ _
      clear hHeld
      go_wp2_with fail
      go_roundw
      case rel=>exact⟨j+1,by omega,by go_num,hid (by rw [HS.out];exact HF3.out.mono (by omega))⟩
      case measure=>simp [Go.RowKit.intOf];omega
    · have hd:decide (1≤q)=false:=decide_eq_false hq
      rw [hno hq,List.append_nil] at hst
      have HS:=hid hst
      clear hx hst hyes hno hlen hq
      go_wp2_with fail
      go_roundw
      case rel=>exact⟨j+1,by omega,by go_num,hid (by rw [HS.out];exact HF.out.mono (by omega))⟩
      case measure=>simp [Go.RowKit.intOf];omega
  · obtain rfl:j=n:=by omega
    go_wp2_with fail
    go_ret
    have:=HF.out.gives (d:=o0) oc_len (by decide)
    rw [HEND.out] at this
    exact this.since HB1.out
end Go.Proofs.YtclbkfpbdidaiaaGreatDoor
