import Derived.Test.YtclbkfpbdidaiaaDoorPA99
import Derived.Test.YtclbkfpbdidaiaaDoorPA32
namespace Go.Proofs.YtclbkfpbdidaiaaDoor
open Go.Lib (hid)
set_option maxHeartbeats 8000000
open Go.RowKit Go.ChangeShapes Go.WideShapes
set_option linter.unusedVariables false
set_option linter.unusedSimpArgs false
set_option maxRecDepth 10000
theorem FillS.lit {W w:World} {cs:Array Value} {H:List Hs} {S:List Stp} {m:Nat} (hb:Below W.heap.size W w) (hc:cs.toList=z0m sc H) (hm:H.length=m) (hbig:m≤1000) (hT:TellsAll w H S):FillS W (w.alloc (.cells cs 24)) (.slice (some ⟨w.heap.size,0,none⟩) m m) H S m:=by
 have hba:Below w.heap.size w (w.alloc (.cells cs 24)):=(Below.refl _ _).alloc (Nat.le_refl _) _
 have hs:cs.size=m*3:=by rw [← Array.length_toList,hc,z1e sc_len,hm]
 have ho:=World.ownsRow_lit (e:=24) (base:=W.heap.size) (size:=3) w cs m hb.size (by unfold maxLen;omega) hs
 rw [hc] at ho
 refine⟨by rw [hm];exact ho,hb.trans (hba.mono hb.size),Nat.le_of_eq hm,hT.later hba,fun h hh h0 ad he hx=>?_⟩
 have:=tells_old hT h hh h0 ad he
 have hx':w.heap.size=ad.block:=Option.some.inj hx
 omega
theorem owing_none (t:Int) (p:Option Addr) (c:Nat) (W:World):Calls Tryd.prog 26 #[.int .u8 t,.slice p (0:Nat) c] W fun e w'=>e=.returned (.slice none 0 0)∧Below W.heap.size W w':=by
 have d0:(((0:Nat):Int)==0)=true:=rfl
 go_enter Tryd.func26,Tryd.ntmps26
 go_wp2_with fail
 go_ret
 exact⟨rfl,Below.refl _ _⟩
theorem owing_some (t:Int) (p:Option Addr) (n c:Nat) (M:List Ln) (W:World) (hM:LL W p n c M) (h1:1≤n) (hn:n≤1000):Calls Tryd.prog 26 #[.int .u8 t,.slice p n c] W fun e w'=>∃ B p' c',e=.returned (.slice (some ⟨B,0,none⟩) 1 1)∧w'.heap[B]?=some (.cells #[.int .u8 t,.int .u8 0,.slice p' n c'] 24 (0,0))∧LL w' p' n c' M∧Below W.heap.size W w'∧∀ ad,p'=some ad→W.heap.size≤ad.block:=by
 have d0:((n:Int)==0)=false:=by simp;omega
 have hcl:=clone_ln p n c M W hM (by omega)
 have HLN:=hid hM.len
 have hcap:=hM.cap
 clear hM h1
 go_enter Tryd.func26,Tryd.ntmps26
 go_wp2_with fail
 refine hcl.mono ?_
 rintro e w2 ⟨v,rfl,hf⟩
 obtain⟨p',c',hv,hl,hb,ha⟩:=hf.gives (d:=l0) lc_len (by decide)
 cases hv
 rw [HLN.out] at hl ⊢
 have hba:Below w2.heap.size w2 (w2.alloc (.cells #[.int .u8 t,.int .u8 0,.slice p' n c'] 24)):=(Below.refl _ _).alloc (Nat.le_refl _) _
 have HL:=hid (hl.later hba)
 have HB:=hid (hb.trans (hba.mono hb.size))
 have HX:=hid (z0b w2 (.cells #[.int .u8 t,.int .u8 0,.slice p' n c'] 24))
 have HA:=hid ha
 clear hcl hf hl hb ha hba
 go_wp2_with fail
 go_ret
 exact⟨_,p',c',rfl,HX.out,HL.out,HB.out,HA.out⟩
theorem allT_named {od po:Int} {L:List Ln} {T:List Tk} {M:List Ln} {sk fr to q:Int} (h:z0s 4 4 ⟨5,od,po,L,T,M,sk,fr,to,q⟩=true):z1a (allT T)=z1b T [] sk:=by
 have h2:(z0o 4 4 && askP 4 4 ⟨5,od,po,L,T,M,sk,fr,to,q⟩ && decide ((⟨5,od,po,L,T,M,sk,fr,to,q⟩:Pg)=qofP ⟨5,od,po,L,T,M,sk,fr,to,q⟩))=true:=h
 rw [ask5] at h2
 simp only [Bool.and_eq_true] at h2
 exact (named_all T sk (fills_sku h2.1.2.2)).symm
theorem restock_any (od po:Int) (lp:Option Addr) (ln lcp:Nat) (tp:Option Addr) (tn tcp:Nat) (wp:Option Addr) (wn wcp:Nat) (sk fr to q:Int) (L:List Ln) (T:List Tk) (M:List Ln) (W:World) (hP:PgM W lp ln lcp L tp tn tcp T wp wn wcp M) (hok:Pgok ⟨5,od,po,L,T,M,sk,fr,to,q⟩) (h1:ln≤400∧tn≤400∧wn≤400) (hg:z0s 4 4 ⟨5,od,po,L,T,M,sk,fr,to,q⟩=true) :
 Calls Tryd.prog 27 #[.agg #[.int .u8 5,.int .u32 od,.int .u8 po,.slice lp ln lcp,.slice tp tn tcp,.slice wp wn wcp,.int .u8 sk,.int .u8 fr,.int .u8 to,.int .i64 q]] W (GivesS W (z0k ⟨5,od,po,L,T,M,sk,fr,to,q⟩)):=by
 rw [steps_five od po L T M sk fr to q hg]
 have hzz:=five_ok od po L T M sk fr to q hg
 have hta:=together_any tp tn tcp T
 rw [allT_named hg] at hta
 obtain⟨R,hR⟩:∃ R,(if 1≤T.length then [((1:Int),to,[(sk,z1b T [] sk)]),(8,0,[(sk,z1b T [] sk)])] else [])=R:=⟨_,rfl⟩
 rw [hR]
 have HRR:=hid hR
 clear hR
 obtain⟨W1,hW1,hbx,hb1⟩:∃ W1,W.alloc (.cells #[.int .u8 5,.int .u32 od,.int .u8 po,.slice lp ln lcp,.slice tp tn tcp,.slice wp wn wcp,.int .u8 sk,.int .u8 fr,.int .u8 to,.int .i64 q] 33)=W1∧W1.heap[W.heap.size]?=some (.cells #[.int .u8 5,.int .u32 od,.int .u8 po,.slice lp ln lcp,.slice tp tn tcp,.slice wp wn wcp,.int .u8 sk,.int .u8 fr,.int .u8 to,.int .i64 q] 33 (0,0))∧Below W.heap.size W W1:=⟨_,rfl,z0b W _,(Below.refl _ _).alloc (Nat.le_refl _) _⟩
 have HW1:=hid hW1
 have HB1:=hid hb1
 have HX:=hid hbx
 have HT:=hid (hP.later hb1).t
 have HTOK:=hid hok.takes
 have HLT:=hid hP.t.len
 have HTA:=hid hta
 have hcap:=hP.t.cap
 obtain⟨_,h12,_⟩:=h1
 have HC:=hid fun w' (h:Below W1.heap.size W1 w')=>z0d 5 od po lp ln lcp tp tn tcp wp wn wcp sk fr to q (z0c HX.out h)
 obtain⟨a0,a1,a2,a3,a4,a5,a6,a7,a8,a9⟩:=HC.out W1 (Below.refl _ _)
 clear hW1 hb1 hbx hP hok hta hg
 go_enter Tryd.func27,Tryd.ntmps27
 go_wp2_with fail
 rw [HW1.out]
 refine (single_st 5 to sk q W1).mono ?_
 rintro e w3 ⟨p3,c3,rfl,hl3,hb3,ha3⟩
 simp only [List.length_cons,List.length_nil,Nat.zero_add] at hl3 ⊢
 have HF4:=hid (FillS.lit (m:=1) (cs:=#[.int .u8 5,.int .u8 to,.slice p3 1 c3]) (H:=[hsOf 5 to p3 1 c3]) (S:=[(5,to,[(sk,q)])]) hb3 rfl rfl (by omega) ⟨⟨rfl,rfl,hl3⟩,trivial⟩)
 generalize hw4:w3.alloc (.cells #[.int .u8 5,.int .u8 to,.slice p3 1 c3] 24)=w4 at *
 have HW4:=hid hw4
 clear hl3 hb3 ha3 hw4 a0 a1 a2 a3 a4 a5 a6 a7 a8 a9
 obtain⟨a0,a1,a2,a3,a4,a5,a6,a7,a8,a9⟩:=HC.out w4 HF4.out.below
 by_cases ht:1≤tn
 case neg =>
  obtain rfl:tn=0:=by omega
  have d1:(((0:Nat):Int)==0)=true:=rfl
  have hR:=HRR.out
  rw [if_neg (by rw [HLT.out];exact ht)] at hR
  subst hR
  go_upto_region 2 with (fail)
  rw [HW4.out]
  go_wp2_with fail
  go_ret
  exact (HF4.out.gives).since HB1.out
 have d1:((tn:Int)==0)=false:=by simp;omega
 have hR:=HRR.out
 rw [if_pos (by rw [HLT.out];exact ht)] at hR
 have HR2:=hid hR
 have hta:=HTA.out w4 (HT.out.later HF4.out.below) HTOK.out (by omega)
 rw [val_in _ ((okB_iff _).1 hzz),hzz] at hta
 clear hR HRR ht
 generalize z1b T [] sk=z at *
 go_upto_region 2 with (fail)
 rw [HW4.out]
 go_wp2_with fail
 refine hta.mono ?_
 rintro e w5 ⟨rfl,h5⟩
 have HF5:=hid (HF4.out.later h5)
 clear hta h5 a0 a1 a2 a3 a4 a5 a6 a7 a8 a9
 have hbd:Below W1.heap.size W1 w5.drew:=HF5.out.below.drew
 have HF6:=hid (HF5.out.later (show Below w5.heap.size w5 w5.drew from (Below.refl _ _).drew))
 obtain⟨x4,hx4⟩:∃ x4:Nat,w3.heap.size=x4:=⟨_,rfl⟩
 rw [hx4] at HF5 HF6 ⊢
 clear hx4 HF4 HW4
 go_wp2_with fail
 refine wp_region_held_drew (S:=fun w'=>Hid (Below W1.heap.size W1 w')) (by kernel_rfl) (hid hbd) (fun hHeld=>?_)
 clear hbd
 refine wpAnyH_take (i:=0) (oi:=⟨some 25,_,_,_,_,_⟩) (v:=.slice (some ⟨x4,0,none⟩) 1 1) rfl (by kernel_rfl) (by kernel_rfl) (by kernel_rfl) (fun _ _ _ h=>h) (Or.inl ⟨by rfl,fun w' hw'=>?_⟩) (by assumption) ?_
 · clear hHeld
   go_simp
 simp only [Act.put,sIB,sCZ,sCS]
 refine wpAnyH_take (i:=1) (oi:=⟨some 26,_,_,_,_,_⟩) (v:=.pointer (some ⟨W.heap.size,8,none⟩)) rfl (by kernel_rfl) (by kernel_rfl) (by kernel_rfl) (fun _ _ _ h=>h) (Or.inl ⟨by rfl,fun w' hw'=>?_⟩) (by assumption) ?_
 · clear hHeld
   go_simp
 simp only [Act.put,sIB,sCZ,sCS]
 refine wpAnyH_take (i:=2) (oi:=⟨some 27,_,_,_,_,_⟩) (v:=.int .u8 to) rfl (by kernel_rfl) (by kernel_rfl) (by kernel_rfl) (fun _ _ _ h=>h) (Or.inl ⟨by rfl,fun w' hw'=>?_⟩) (by assumption) ?_
 · obtain⟨g0,g1,g2,g3,g4,g5,g6,g7,g8,g9⟩:=HC.out w' hw'.out
   clear hHeld
   go_simp
 simp only [Act.put,sIB,sCZ,sCS]
 refine wpAnyH_take (i:=3) (oi:=⟨some 28,_,_,_,_,_⟩) (v:=.pointer (some ⟨W.heap.size,6,none⟩)) rfl (by kernel_rfl) (by kernel_rfl) (by kernel_rfl) (fun _ _ _ h=>h) (Or.inl ⟨by rfl,fun w' hw'=>?_⟩) (by assumption) ?_
 · clear hHeld
   go_simp
 simp only [Act.put,sIB,sCZ,sCS]
 refine wpAnyH_take (i:=4) (oi:=⟨some 29,_,_,_,_,_⟩) (v:=.int .u8 sk) rfl (by kernel_rfl) (by kernel_rfl) (by kernel_rfl) (fun _ _ _ h=>h) (Or.inl ⟨by rfl,fun w' hw'=>?_⟩) (by assumption) ?_
 · obtain⟨g0,g1,g2,g3,g4,g5,g6,g7,g8,g9⟩:=HC.out w' hw'.out
   clear hHeld
   go_simp
 simp only [Act.put,sIB,sCZ,sCS]
 refine wpAnyH_take (i:=5) (oi:=⟨some 30,_,_,_,_,_⟩) (v:=.int .i64 z) rfl (by kernel_rfl) (by kernel_rfl) (by kernel_rfl) (fun _ _ _ h=>h) (Or.inl ⟨by rfl,fun w' hw'=>?_⟩) (by assumption) ?_
 · clear hHeld
   go_simp
 simp only [Act.put,sIB,sCZ,sCS]
 refine wpAnyH_take (i:=7) (oi:=⟨some 32,_,_,_,_,_⟩) (v:=.pointer (some ⟨W.heap.size,6,none⟩)) rfl (by kernel_rfl) (by kernel_rfl) (by kernel_rfl) (fun _ _ _ h=>h) (Or.inl ⟨by rfl,fun w' hw'=>?_⟩) (by assumption) ?_
 · clear hHeld
   go_simp
 simp only [Act.put,sIB,sCZ,sCS]
 refine wpAnyH_take (i:=8) (oi:=⟨some 33,_,_,_,_,_⟩) (v:=.int .u8 sk) rfl (by kernel_rfl) (by kernel_rfl) (by kernel_rfl) (fun _ _ _ h=>h) (Or.inl ⟨by rfl,fun w' hw'=>?_⟩) (by assumption) ?_
 · obtain⟨g0,g1,g2,g3,g4,g5,g6,g7,g8,g9⟩:=HC.out w' hw'.out
   clear hHeld
   go_simp
 simp only [Act.put,sIB,sCZ,sCS]
 refine wpAnyH_take (i:=9) (oi:=⟨some 34,_,_,_,_,_⟩) (v:=.int .i64 z) rfl (by kernel_rfl) (by kernel_rfl) (by kernel_rfl) (fun _ _ _ h=>h) (Or.inl ⟨by rfl,fun w' hw'=>?_⟩) (by assumption) ?_
 · clear hHeld
   go_simp
 simp only [Act.put,sIB,sCZ,sCS]
 generalize w5.drew=Wd at *
 refine wpAnyH_ready (rs:=[6]) (by kernel_rfl) (by simp) (AllReadyH.cons rfl (fun K hK=>?_) AllReadyH.nil)
 go_simp
 go_wp2_with fail
 refine (single_st 1 to sk z _).mono ?_
 rintro e x7 ⟨p7,c7,rfl,hl7,hb7,ha7⟩
 have hH7:Hid (Below W1.heap.size W1 x7):=hid (hHeld.out.trans (hb7.mono hHeld.out.size))
 have HL7:=hid hl7
 have HAP7:=hid ha7
 have HBB7:=hid hb7
 clear hl7 hb7 ha7
 go_wp2_with fail
 refine hK.out _ _ hH7 (fun hHeld2=>?_)
 clear hH7
 clear hK K hHeld
 have hHeld:=hHeld2
 clear hHeld2
 try simp only [Act.put,sIB,sCZ,sCS]
 have HF7:=hid (HF6.out.later HBB7.out)
 refine wpAnyH_ready (rs:=[10]) (by kernel_rfl) (by simp) (AllReadyH.cons rfl (fun K hK=>?_) AllReadyH.nil)
 go_simp
 go_wp2_with fail
 refine (single_st 8 0 sk z _).mono ?_
 rintro e x8 ⟨p8,c8,rfl,hl8,hb8,ha8⟩
 have hH8:Hid (Below W1.heap.size W1 x8):=hid (hHeld.out.trans (hb8.mono hHeld.out.size))
 have HL8:=hid hl8
 have HAP8:=hid ha8
 have HBB8:=hid hb8
 clear hl8 hb8 ha8
 go_wp2_with fail
 refine hK.out _ _ hH8 (fun hHeld2=>?_)
 clear hH8
 clear hK K hHeld
 have hHeld:=hHeld2
 clear hHeld2
 try simp only [Act.put,sIB,sCZ,sCS]
 have HF8:=hid (HF7.out.later HBB8.out)
 refine wpAnyH_ready (rs:=[11]) (by kernel_rfl) (by simp) (AllReadyH.cons rfl (fun K hK=>?_) AllReadyH.nil)
 go_simp
 have hba:Below x8.heap.size x8 (x8.alloc (.cells #[.int .u8 1,.int .u8 to,.slice p7 1 c7,.int .u8 8,.int .u8 0,.slice p8 1 c8] 24)):=(Below.refl _ _).alloc (Nat.le_refl _) _
 have hT:TellsAll (x8.alloc (.cells #[.int .u8 1,.int .u8 to,.slice p7 1 c7,.int .u8 8,.int .u8 0,.slice p8 1 c8] 24)) [hsOf 1 to p7 1 c7,hsOf 8 0 p8 1 c8] [(1,to,[(sk,z)]),(8,0,[(sk,z)])]:=⟨⟨rfl,rfl,(HL7.out.later HBB8.out).later hba⟩,⟨rfl,rfl,HL8.out.later hba⟩,trivial⟩
 have HT9:=hid hT
 have HF9:=hid (HF8.out.later hba)
 have HNW:=hid (step_news (H:=[hsOf 1 to p7 1 c7,hsOf 8 0 p8 1 c8]) (z0b x8 (.cells #[.int .u8 1,.int .u8 to,.slice p7 1 c7,.int .u8 8,.int .u8 0,.slice p8 1 c8] 24)) rfl)
 have hH9:Hid (Below W1.heap.size W1 (x8.alloc (.cells #[.int .u8 1,.int .u8 to,.slice p7 1 c7,.int .u8 8,.int .u8 0,.slice p8 1 c8] 24))):=hid (hHeld.out.trans (hba.mono hHeld.out.size))
 have HAA:Hid (∀ h ∈ [hsOf 1 to p7 1 c7,hsOf 8 0 p8 1 c8],0<h.2.2.2.1→∀ ad,h.2.2.1=some ad→(Value.slice (some ⟨x4,0,none⟩) 1 1).ownBlock≠some ad.block):=hid fun h hh h0 ad he hb=>by
  have hlt:=(HF6.out.own.lt ad.block hb).2
  simp only [List.mem_cons,List.not_mem_nil,or_false] at hh
  rcases hh with rfl | rfl
  · have:=HAP7.out ad he
    omega
  · have:=HAP8.out ad he
    have:=HBB7.out.size
    omega
 clear hT hba
 refine hK.out _ _ hH9 (fun hHeld2=>?_)
 clear hH9
 clear hK K hHeld
 have hHeld:=hHeld2
 clear hHeld2
 try simp only [Act.put,sIB,sCZ,sCS]
 refine wpAnyH_ready (rs:=[12]) (by kernel_rfl) (by simp) (AllReadyH.cons rfl (fun K hK=>?_) AllReadyH.nil)
 refine z2f rfl (.tmp 25) (.tmp 36) rfl (.slice (some ⟨x4,0,none⟩) 1 1) _ _ _ (by simp [Act.eval]) HF9.out x8.heap.size 2 [hsOf 1 to p7 1 c7,hsOf 8 0 p8 1 c8] [(1,to,[(sk,z)]),(8,0,[(sk,z)])] (by simp [Act.eval]) rfl HNW.out HT9.out HAA.out (by omega) ?_
 intro p6 n6 c6 x6 h6
 have HFA:=hid h6
 have hH6:Hid (Below W1.heap.size W1 x6):=hid h6.below
 clear h6
 refine hK.out _ _ hH6 (fun hHeld2=>?_)
 clear hH6
 clear hK K hHeld
 have hHeld:=hHeld2
 clear hHeld2
 try simp only [Act.put,sIB,sCZ,sCS]
 refine wpAnyH_take (i:=13) (oi:=⟨some 2,_,_,_,_,_⟩) (v:=.slice p6 n6 c6) rfl (by kernel_rfl) (by kernel_rfl) (by kernel_rfl) (fun _ _ _ h=>h) (Or.inl ⟨by rfl,fun w' hw'=>?_⟩) (by assumption) ?_
 · clear hHeld
   go_simp
 simp only [Act.put,sIB,sCZ,sCS]
 refine wpAnyH_done (by kernel_rfl) ?_ _
 clear hHeld
 go_wp2_with fail
 go_ret
 have hfin:=HFA.out.gives
 rw [HR2.out] at hfin
 have hfin2:=hfin.since HB1.out
 clear hfin
 first | exact hfin2 | (simp only [sCZ,sCS];exact hfin2) | (simp;exact hfin2)
end Go.Proofs.YtclbkfpbdidaiaaDoor
