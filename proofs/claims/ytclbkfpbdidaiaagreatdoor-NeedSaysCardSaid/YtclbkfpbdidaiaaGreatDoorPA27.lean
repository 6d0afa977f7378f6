import Derived.Test.YtclbkfpbdidaiaaGreatDoorPA99
import Derived.Test.YtclbkfpbdidaiaaGreatDoorPA26
import Derived.Test.YtclbkfpbdidaiaaGreatDoorPA25
namespace Go.Proofs.YtclbkfpbdidaiaaGreatDoor
open Go.Lib (hid)
set_option maxHeartbeats 8000000
open Go.RowKit Go.ChangeShapes Go.WideShapes
set_option linter.unusedVariables false
set_option linter.unusedSimpArgs false
set_option maxRecDepth 10000
def hsOf (t w:Int) (p:Option Addr) (n c:Nat):Hs:=(t,w,p,n,c)
theorem gives_none {W w:World} (hb:Below W.heap.size W w):GivesS W [] (.returned (.slice none 0 0)) w:=⟨none,0,[],rfl,⟨SlG.empty _,trivial⟩,hb⟩
theorem steps_no {P:Pg} (h:z0p 4 4 P=false):z0o P=[]:=by unfold z0o;rw [h];rfl
theorem steps_six (od po:Int) (L:List Ln) (T:List Tk) (M:List Ln) (sk fr to q:Int) (h:z0p 4 4 ⟨6,od,po,L,T,M,sk,fr,to,q⟩=true):z0o ⟨6,od,po,L,T,M,sk,fr,to,q⟩=[(6,fr,[(sk,q)]),(5,to,[(sk,q)])]:=by unfold z0o;rw [if_pos h];rfl
theorem rsteps_six (od po:Int) (lp:Option Addr) (ln lcp:Nat) (tp:Option Addr) (tn tcp:Nat) (wp:Option Addr) (wn wcp:Nat) (sk fr to q:Int) (L:List Ln) (T:List Tk) (M:List Ln) (W:World) (hP:PgM W lp ln lcp L tp tn tcp T wp wn wcp M) (hok:Pgok ⟨6,od,po,L,T,M,sk,fr,to,q⟩) (h1:ln≤1000∧tn≤1000∧wn≤1000) (hg:z0p 4 4 ⟨6,od,po,L,T,M,sk,fr,to,q⟩=true) :
 Calls Tryz.prog 13 #[.agg #[.int .u8 6,.int .u32 od,.int .u8 po,.slice lp ln lcp,.slice tp tn tcp,.slice wp wn wcp,.int .u8 sk,.int .u8 fr,.int .u8 to,.int .i64 q]] W (GivesS W (z0o ⟨6,od,po,L,T,M,sk,fr,to,q⟩)):=by
 rw [steps_six od po L T M sk fr to q hg]
 have hb1:Below W.heap.size W (W.alloc (.cells #[.int .u8 6,.int .u32 od,.int .u8 po,.slice lp ln lcp,.slice tp tn tcp,.slice wp wn wcp,.int .u8 sk,.int .u8 fr,.int .u8 to,.int .i64 q] 26)):=(Below.refl _ _).alloc (Nat.le_refl _) _
 have hgd:=rgood_p 4 4 6 od po lp ln lcp tp tn tcp wp wn wcp sk fr to q L T M _ (hP.later hb1) hok h1
 rw [hg] at hgd
 have HB1:=hid hb1
 have HX:=hid (z0c W (.cells #[.int .u8 6,.int .u32 od,.int .u8 po,.slice lp ln lcp,.slice tp tn tcp,.slice wp wn wcp,.int .u8 sk,.int .u8 fr,.int .u8 to,.int .i64 q] 26))
 clear hP hok h1 hg hb1
 go_enter Tryz.func13,Tryz.ntmps13
 go_wp2_with fail
 generalize W.alloc (.cells #[.int .u8 6,.int .u32 od,.int .u8 po,.slice lp ln lcp,.slice tp tn tcp,.slice wp wn wcp,.int .u8 sk,.int .u8 fr,.int .u8 to,.int .i64 q] 26)=W1 at *
 refine hgd.mono ?_
 rintro e w2 ⟨rfl,h2⟩
 have HB2:=hid h2
 have HC:=hid fun w' (h:Below W1.heap.size W1 w')=>z0e 6 od po lp ln lcp tp tn tcp wp wn wcp sk fr to q (z0b HX.out h)
 obtain⟨a0,a1,a2,a3,a4,a5,a6,a7,a8,a9⟩:=HC.out w2 h2
 have hbd:Below W1.heap.size W1 w2.drew:=h2.drew
 clear hgd h2
 go_wp2_with fail
 refine wp_region_held_drew (S:=fun w'=>Hid (Below W1.heap.size W1 w')) (by kernel_rfl) (hid hbd) (fun hHeld=>?_)
 clear hbd
 refine wpAnyH_take (i:=0) (oi:=⟨some 54,_,_,_,_,_⟩) (v:=.slice none 0 0) rfl (by kernel_rfl) (by kernel_rfl) (by kernel_rfl) (fun _ _ _ h=>h) (Or.inl ⟨by rfl,fun w' hw'=>?_⟩) (by assumption) ?_
 · clear hHeld
   go_simp
 simp only [Act.put,sIB,sCZ,sCS]
 refine wpAnyH_take (i:=1) (oi:=⟨some 55,_,_,_,_,_⟩) (v:=.pointer (some ⟨W.heap.size,7,none⟩)) rfl (by kernel_rfl) (by kernel_rfl) (by kernel_rfl) (fun _ _ _ h=>h) (Or.inl ⟨by rfl,fun w' hw'=>?_⟩) (by assumption) ?_
 · clear hHeld
   go_simp
 simp only [Act.put,sIB,sCZ,sCS]
 refine wpAnyH_take (i:=2) (oi:=⟨some 56,_,_,_,_,_⟩) (v:=.int .u8 fr) rfl (by kernel_rfl) (by kernel_rfl) (by kernel_rfl) (fun _ _ _ h=>h) (Or.inl ⟨by rfl,fun w' hw'=>?_⟩) (by assumption) ?_
 · obtain⟨g0,g1,g2,g3,g4,g5,g6,g7,g8,g9⟩:=HC.out w' hw'.out
   clear hHeld
   go_simp
 simp only [Act.put,sIB,sCZ,sCS]
 refine wpAnyH_take (i:=3) (oi:=⟨some 57,_,_,_,_,_⟩) (v:=.pointer (some ⟨W.heap.size,6,none⟩)) rfl (by kernel_rfl) (by kernel_rfl) (by kernel_rfl) (fun _ _ _ h=>h) (Or.inl ⟨by rfl,fun w' hw'=>?_⟩) (by assumption) ?_
 · clear hHeld
   go_simp
 simp only [Act.put,sIB,sCZ,sCS]
 refine wpAnyH_take (i:=4) (oi:=⟨some 58,_,_,_,_,_⟩) (v:=.int .u8 sk) rfl (by kernel_rfl) (by kernel_rfl) (by kernel_rfl) (fun _ _ _ h=>h) (Or.inl ⟨by rfl,fun w' hw'=>?_⟩) (by assumption) ?_
 · obtain⟨g0,g1,g2,g3,g4,g5,g6,g7,g8,g9⟩:=HC.out w' hw'.out
   clear hHeld
   go_simp
 simp only [Act.put,sIB,sCZ,sCS]
 refine wpAnyH_take (i:=5) (oi:=⟨some 59,_,_,_,_,_⟩) (v:=.pointer (some ⟨W.heap.size,9,none⟩)) rfl (by kernel_rfl) (by kernel_rfl) (by kernel_rfl) (fun _ _ _ h=>h) (Or.inl ⟨by rfl,fun w' hw'=>?_⟩) (by assumption) ?_
 · clear hHeld
   go_simp
 simp only [Act.put,sIB,sCZ,sCS]
 refine wpAnyH_take (i:=6) (oi:=⟨some 60,_,_,_,_,_⟩) (v:=.int .i64 q) rfl (by kernel_rfl) (by kernel_rfl) (by kernel_rfl) (fun _ _ _ h=>h) (Or.inl ⟨by rfl,fun w' hw'=>?_⟩) (by assumption) ?_
 · obtain⟨g0,g1,g2,g3,g4,g5,g6,g7,g8,g9⟩:=HC.out w' hw'.out
   clear hHeld
   go_simp
 simp only [Act.put,sIB,sCZ,sCS]
 refine wpAnyH_take (i:=8) (oi:=⟨some 62,_,_,_,_,_⟩) (v:=.pointer (some ⟨W.heap.size,8,none⟩)) rfl (by kernel_rfl) (by kernel_rfl) (by kernel_rfl) (fun _ _ _ h=>h) (Or.inl ⟨by rfl,fun w' hw'=>?_⟩) (by assumption) ?_
 · clear hHeld
   go_simp
 simp only [Act.put,sIB,sCZ,sCS]
 refine wpAnyH_take (i:=9) (oi:=⟨some 63,_,_,_,_,_⟩) (v:=.int .u8 to) rfl (by kernel_rfl) (by kernel_rfl) (by kernel_rfl) (fun _ _ _ h=>h) (Or.inl ⟨by rfl,fun w' hw'=>?_⟩) (by assumption) ?_
 · obtain⟨g0,g1,g2,g3,g4,g5,g6,g7,g8,g9⟩:=HC.out w' hw'.out
   clear hHeld
   go_simp
 simp only [Act.put,sIB,sCZ,sCS]
 refine wpAnyH_take (i:=10) (oi:=⟨some 64,_,_,_,_,_⟩) (v:=.pointer (some ⟨W.heap.size,6,none⟩)) rfl (by kernel_rfl) (by kernel_rfl) (by kernel_rfl) (fun _ _ _ h=>h) (Or.inl ⟨by rfl,fun w' hw'=>?_⟩) (by assumption) ?_
 · clear hHeld
   go_simp
 simp only [Act.put,sIB,sCZ,sCS]
 refine wpAnyH_take (i:=11) (oi:=⟨some 65,_,_,_,_,_⟩) (v:=.int .u8 sk) rfl (by kernel_rfl) (by kernel_rfl) (by kernel_rfl) (fun _ _ _ h=>h) (Or.inl ⟨by rfl,fun w' hw'=>?_⟩) (by assumption) ?_
 · obtain⟨g0,g1,g2,g3,g4,g5,g6,g7,g8,g9⟩:=HC.out w' hw'.out
   clear hHeld
   go_simp
 simp only [Act.put,sIB,sCZ,sCS]
 refine wpAnyH_take (i:=12) (oi:=⟨some 66,_,_,_,_,_⟩) (v:=.pointer (some ⟨W.heap.size,9,none⟩)) rfl (by kernel_rfl) (by kernel_rfl) (by kernel_rfl) (fun _ _ _ h=>h) (Or.inl ⟨by rfl,fun w' hw'=>?_⟩) (by assumption) ?_
 · clear hHeld
   go_simp
 simp only [Act.put,sIB,sCZ,sCS]
 refine wpAnyH_take (i:=13) (oi:=⟨some 67,_,_,_,_,_⟩) (v:=.int .i64 q) rfl (by kernel_rfl) (by kernel_rfl) (by kernel_rfl) (fun _ _ _ h=>h) (Or.inl ⟨by rfl,fun w' hw'=>?_⟩) (by assumption) ?_
 · obtain⟨g0,g1,g2,g3,g4,g5,g6,g7,g8,g9⟩:=HC.out w' hw'.out
   clear hHeld
   go_simp
 simp only [Act.put,sIB,sCZ,sCS]
 clear a0 a1 a2 a3 a4 a5 a6 a7 a8 a9
 refine wpAnyH_ready (rs:=[7]) (by kernel_rfl) (by simp) (AllReadyH.cons rfl (fun K hK=>?_) AllReadyH.nil)
 go_simp
 go_wp2_with fail
 refine (rone_st 6 fr sk q _).mono ?_
 rintro e x3 ⟨p3,c3,rfl,hl3,hb3,ha3⟩
 have hH3:Hid (Below W1.heap.size W1 x3):=hid (hHeld.out.trans (hb3.mono hHeld.out.size))
 have HL3:=hid hl3
 have HAP3:=hid ha3
 have HBB3:=hid hb3
 clear hl3 hb3 ha3
 go_wp2_with fail
 refine hK.out _ _ hH3 (fun hHeld2=>?_)
 clear hK K hHeld
 have hHeld:=hHeld2
 clear hHeld2
 try simp only [Act.put,sIB,sCZ,sCS]
 refine wpAnyH_ready (rs:=[14]) (by kernel_rfl) (by simp) (AllReadyH.cons rfl (fun K hK=>?_) AllReadyH.nil)
 go_simp
 go_wp2_with fail
 refine (rone_st 5 to sk q _).mono ?_
 rintro e x4 ⟨p4,c4,rfl,hl4,hb4,ha4⟩
 have hH4:Hid (Below W1.heap.size W1 x4):=hid (hHeld.out.trans (hb4.mono hHeld.out.size))
 have HL4:=hid hl4
 have HAP4:=hid ha4
 have HBB4:=hid hb4
 clear hl4 hb4 ha4
 go_wp2_with fail
 refine hK.out _ _ hH4 (fun hHeld2=>?_)
 clear hK K hHeld
 have hHeld:=hHeld2
 clear hHeld2
 try simp only [Act.put,sIB,sCZ,sCS]
 refine wpAnyH_ready (rs:=[15]) (by kernel_rfl) (by simp) (AllReadyH.cons rfl (fun K hK=>?_) AllReadyH.nil)
 go_simp
 have hba:Below x4.heap.size x4 (x4.alloc (.cells #[.int .u8 6,.int .u8 fr,.slice p3 1 c3,.int .u8 5,.int .u8 to,.slice p4 1 c4] 52)):=(Below.refl _ _).alloc (Nat.le_refl _) _
 have hT:TellsAll (x4.alloc (.cells #[.int .u8 6,.int .u8 fr,.slice p3 1 c3,.int .u8 5,.int .u8 to,.slice p4 1 c4] 52)) [hsOf 6 fr p3 1 c3,hsOf 5 to p4 1 c4] [(6,fr,[(sk,q)]),(5,to,[(sk,q)])]:=⟨⟨rfl,rfl,(HL3.out.later HBB4.out).later hba⟩,⟨rfl,rfl,HL4.out.later hba⟩,trivial⟩
 have HT5:=hid hT
 have hF:FillS W1 (x4.alloc (.cells #[.int .u8 6,.int .u8 fr,.slice p3 1 c3,.int .u8 5,.int .u8 to,.slice p4 1 c4] 52)) (.slice none 0 0) [] [] 0:=(FillS.nil W1).later (hHeld.out.trans (hba.mono hHeld.out.size))
 have HF:=hid hF
 have HNW:=hid (step_news (H:=[hsOf 6 fr p3 1 c3,hsOf 5 to p4 1 c4]) (z0c x4 (.cells #[.int .u8 6,.int .u8 fr,.slice p3 1 c3,.int .u8 5,.int .u8 to,.slice p4 1 c4] 52)) rfl)
 have hH5:Hid (Below W1.heap.size W1 (x4.alloc (.cells #[.int .u8 6,.int .u8 fr,.slice p3 1 c3,.int .u8 5,.int .u8 to,.slice p4 1 c4] 52))):=hid (hHeld.out.trans (hba.mono hHeld.out.size))
 clear hT hF hba
 refine hK.out _ _ hH5 (fun hHeld2=>?_)
 clear hH5
 clear hK K hHeld
 have hHeld:=hHeld2
 clear hHeld2
 try simp only [Act.put,sIB,sCZ,sCS]
 refine wpAnyH_ready (rs:=[16]) (by kernel_rfl) (by simp) (AllReadyH.cons rfl (fun K hK=>?_) AllReadyH.nil)
 refine z2h rfl (.tmp 54) (.tmp 69) rfl (.slice none 0 0) [] [] 0 (by simp [Act.eval]) HF.out x4.heap.size 2 [hsOf 6 fr p3 1 c3,hsOf 5 to p4 1 c4] [(6,fr,[(sk,q)]),(5,to,[(sk,q)])] (by simp [Act.eval]) rfl HNW.out HT5.out (fun h hh h0 ad he hb=>by cases hb) (by omega) ?_
 intro p6 n6 c6 x6 h6
 have HF6:=hid h6
 have hH6:Hid (Below W1.heap.size W1 x6):=hid h6.below
 clear h6
 refine hK.out _ _ hH6 (fun hHeld2=>?_)
 clear hH6
 clear hK K hHeld
 have hHeld:=hHeld2
 clear hHeld2
 try simp only [Act.put,sIB,sCZ,sCS]
 refine wpAnyH_take (i:=17) (oi:=⟨some 2,_,_,_,_,_⟩) (v:=.slice p6 n6 c6) rfl (by kernel_rfl) (by kernel_rfl) (by kernel_rfl) (fun _ _ _ h=>h) (Or.inl ⟨by rfl,fun w' hw'=>?_⟩) (by assumption) ?_
 · clear hHeld
   go_simp
 simp only [Act.put,sIB,sCZ,sCS]
 refine wpAnyH_done (by kernel_rfl) ?_ _
 clear hHeld
 go_wp2_with fail
 go_ret
 have hfin:=HF6.out.gives
 rw [List.nil_append] at hfin
 have hfin2:=hfin.since HB1.out
 clear hfin
 first | exact hfin2 | (simp only [sCZ,sCS];exact hfin2) | (simp;exact hfin2)
theorem steps_five (od po:Int) (L:List Ln) (T:List Tk) (M:List Ln) (sk fr to q:Int) (h:z0p 4 4 ⟨5,od,po,L,T,M,sk,fr,to,q⟩=true):z0o ⟨5,od,po,L,T,M,sk,fr,to,q⟩=[((5:Int),to,[(sk,q)])]++(if 1≤T.length then [(1,to,[(sk,z1a T [] sk)]),(8,0,[(sk,z1a T [] sk)])] else []):=by unfold z0o;rw [if_pos h];rfl
theorem five_ok (od po:Int) (L:List Ln) (T:List Tk) (M:List Ln) (sk fr to q:Int) (h:z0p 4 4 ⟨5,od,po,L,T,M,sk,fr,to,q⟩=true):okB (z1a T [] sk)=true:=by
 have h2:(z0q 4 4 && askP 4 4 ⟨5,od,po,L,T,M,sk,fr,to,q⟩ && decide ((⟨5,od,po,L,T,M,sk,fr,to,q⟩:Pg)=qofP ⟨5,od,po,L,T,M,sk,fr,to,q⟩))=true:=h
 rw [ask5] at h2
 unfold fillsB at h2
 simp only [Bool.and_eq_true] at h2
 exact h2.1.2.2.2.1.2
theorem rsteps_five (od po:Int) (lp:Option Addr) (ln lcp:Nat) (tp:Option Addr) (tn tcp:Nat) (wp:Option Addr) (wn wcp:Nat) (sk fr to q:Int) (L:List Ln) (T:List Tk) (M:List Ln) (W:World) (hP:PgM W lp ln lcp L tp tn tcp T wp wn wcp M) (hok:Pgok ⟨5,od,po,L,T,M,sk,fr,to,q⟩) (h1:ln≤1000∧tn≤1000∧wn≤1000) (hg:z0p 4 4 ⟨5,od,po,L,T,M,sk,fr,to,q⟩=true) :
 Calls Tryz.prog 13 #[.agg #[.int .u8 5,.int .u32 od,.int .u8 po,.slice lp ln lcp,.slice tp tn tcp,.slice wp wn wcp,.int .u8 sk,.int .u8 fr,.int .u8 to,.int .i64 q]] W (GivesS W (z0o ⟨5,od,po,L,T,M,sk,fr,to,q⟩)):=by
 rw [steps_five od po L T M sk fr to q hg]
 obtain⟨R,hR⟩:∃ R,(if 1≤T.length then [((1:Int),to,[(sk,z1a T [] sk)]),(8,0,[(sk,z1a T [] sk)])] else [])=R:=⟨_,rfl⟩
 rw [hR]
 have HRR:=hid hR
 clear hR
 have hzz:=five_ok od po L T M sk fr to q hg
 have hb1:Below W.heap.size W (W.alloc (.cells #[.int .u8 5,.int .u32 od,.int .u8 po,.slice lp ln lcp,.slice tp tn tcp,.slice wp wn wcp,.int .u8 sk,.int .u8 fr,.int .u8 to,.int .i64 q] 26)):=(Below.refl _ _).alloc (Nat.le_refl _) _
 have hgd:=rgood_p 4 4 5 od po lp ln lcp tp tn tcp wp wn wcp sk fr to q L T M _ (hP.later hb1) hok h1
 rw [hg] at hgd
 have HB1:=hid hb1
 have HP:=hid (hP.later hb1)
 have HX:=hid (z0c W (.cells #[.int .u8 5,.int .u32 od,.int .u8 po,.slice lp ln lcp,.slice tp tn tcp,.slice wp wn wcp,.int .u8 sk,.int .u8 fr,.int .u8 to,.int .i64 q] 26))
 have HTOK:=hid hok.takes
 have HLT:=hid hP.t.len
 have H1:=hid h1
 clear hP hok h1 hg hb1
 go_enter Tryz.func13,Tryz.ntmps13
 go_wp2_with fail
 generalize W.alloc (.cells #[.int .u8 5,.int .u32 od,.int .u8 po,.slice lp ln lcp,.slice tp tn tcp,.slice wp wn wcp,.int .u8 sk,.int .u8 fr,.int .u8 to,.int .i64 q] 26)=W1 at *
 refine hgd.mono ?_
 rintro e w2 ⟨rfl,h2⟩
 have HB2:=hid h2
 have HC:=hid fun w' (h:Below W1.heap.size W1 w')=>z0e 5 od po lp ln lcp tp tn tcp wp wn wcp sk fr to q (z0b HX.out h)
 obtain⟨a0,a1,a2,a3,a4,a5,a6,a7,a8,a9⟩:=HC.out w2 h2
 clear hgd h2
 go_wp2_with fail
 refine (rone_st 5 to sk q _).mono ?_
 rintro e w3 ⟨p3,c3,rfl,hl3,hb3,ha3⟩
 have HB3:=hid (HB2.out.trans (hb3.mono HB2.out.size))
 have hba:Below w3.heap.size w3 (w3.alloc (.cells #[.int .u8 5,.int .u8 to,.slice p3 1 c3] 52)):=(Below.refl _ _).alloc (Nat.le_refl _) _
 have HT:=hid (show TellsAll (w3.alloc (.cells #[.int .u8 5,.int .u8 to,.slice p3 1 c3] 52)) [hsOf 5 to p3 1 c3] [(5,to,[(sk,q)])] from ⟨⟨rfl,rfl,hl3.later hba⟩,trivial⟩)
 have HF:=hid ((FillS.nil W1).later (HB3.out.trans (hba.mono HB3.out.size)))
 have HNW:=hid (step_news (H:=[hsOf 5 to p3 1 c3]) (z0c w3 (.cells #[.int .u8 5,.int .u8 to,.slice p3 1 c3] 52)) rfl)
 clear hl3 hb3 ha3 hba a0 a1 a2 a3 a4 a5 a6 a7 a8 a9
 simp only [List.length_cons,List.length_nil,Nat.zero_add]
 go_wp2_with (at_builtin;refine wpList_append_steps rfl _ _ rfl (.slice none 0 0) [] [] 0 rfl HF.out w3.heap.size 1 [hsOf 5 to p3 1 c3] [(5,to,[(sk,q)])] rfl rfl HNW.out HT.out (fun h hh h0 ad he hb=>by cases hb) (by omega) ?_;intro p4 n4 c4 w4 h4;have HF4:=hid h4;clear h4;obtain⟨a0,a1,a2,a3,a4,a5,a6,a7,a8,a9⟩:=HC.out w4 HF4.out.below)
 have hnm:=rnamed_any tp tn tcp T none 0 0 [] sk w4 (HP.out.later HF4.out.below).t (SlG.empty _) HTOK.out (fun x hx=>by cases hx) H1.out.2.1 (by omega)
 rw [val_in _ ((okB_iff _).1 hzz),hzz] at hnm
 have HZ:=hid hzz
 clear hzz HF HT HNW
 refine hnm.mono ?_
 rintro e w5 ⟨rfl,h5⟩
 have HF5:=hid (HF4.out.later h5)
 clear hnm h5 a0 a1 a2 a3 a4 a5 a6 a7 a8 a9
 obtain⟨a0,a1,a2,a3,a4,a5,a6,a7,a8,a9⟩:=HC.out w5 HF5.out.below
 by_cases ht:1≤tn
 case neg =>
  have d1:decide (0<(tn:Int))=false:=decide_eq_false (by omega)
  have d1n:decide (0<tn)=false:=decide_eq_false (by omega)
  have hR:=HRR.out
  rw [if_neg (by rw [HLT.out];exact ht)] at hR
  subst hR
  go_wp2_with fail
  go_ret
  have hfin:=HF5.out.gives
  rw [List.nil_append] at hfin
  exact hfin.since HB1.out
 have d1:decide (0<(tn:Int))=true:=decide_eq_true (by omega)
 have d1n:decide (0<tn)=true:=decide_eq_true (by omega)
 have hR:=HRR.out
 rw [if_pos (by rw [HLT.out];exact ht)] at hR
 have HR2:=hid hR
 clear hR HRR
 have hbd:Below W1.heap.size W1 w5.drew:=HF5.out.below.drew
 have HF6:=hid (HF5.out.later (show Below w5.heap.size w5 w5.drew from (Below.refl _ _).drew))
 generalize z1a T [] sk=z at *
 go_wp2_with fail
 refine wp_region_held_drew (S:=fun w'=>Hid (Below W1.heap.size W1 w')) (by kernel_rfl) (hid hbd) (fun hHeld=>?_)
 clear hbd
 refine wpAnyH_take (i:=0) (oi:=⟨some 37,_,_,_,_,_⟩) (v:=.slice p4 n4 c4) rfl (by kernel_rfl) (by kernel_rfl) (by kernel_rfl) (fun _ _ _ h=>h) (Or.inl ⟨by rfl,fun w' hw'=>?_⟩) (by assumption) ?_
 · clear hHeld
   go_simp
 simp only [Act.put,sIB,sCZ,sCS]
 refine wpAnyH_take (i:=1) (oi:=⟨some 38,_,_,_,_,_⟩) (v:=.pointer (some ⟨W.heap.size,8,none⟩)) rfl (by kernel_rfl) (by kernel_rfl) (by kernel_rfl) (fun _ _ _ h=>h) (Or.inl ⟨by rfl,fun w' hw'=>?_⟩) (by assumption) ?_
 · clear hHeld
   go_simp
 simp only [Act.put,sIB,sCZ,sCS]
 refine wpAnyH_take (i:=2) (oi:=⟨some 39,_,_,_,_,_⟩) (v:=.int .u8 to) rfl (by kernel_rfl) (by kernel_rfl) (by kernel_rfl) (fun _ _ _ h=>h) (Or.inl ⟨by rfl,fun w' hw'=>?_⟩) (by assumption) ?_
 · obtain⟨g0,g1,g2,g3,g4,g5,g6,g7,g8,g9⟩:=HC.out w' hw'.out
   clear hHeld
   go_simp
 simp only [Act.put,sIB,sCZ,sCS]
 refine wpAnyH_take (i:=3) (oi:=⟨some 40,_,_,_,_,_⟩) (v:=.pointer (some ⟨W.heap.size,6,none⟩)) rfl (by kernel_rfl) (by kernel_rfl) (by kernel_rfl) (fun _ _ _ h=>h) (Or.inl ⟨by rfl,fun w' hw'=>?_⟩) (by assumption) ?_
 · clear hHeld
   go_simp
 simp only [Act.put,sIB,sCZ,sCS]
 refine wpAnyH_take (i:=4) (oi:=⟨some 41,_,_,_,_,_⟩) (v:=.int .u8 sk) rfl (by kernel_rfl) (by kernel_rfl) (by kernel_rfl) (fun _ _ _ h=>h) (Or.inl ⟨by rfl,fun w' hw'=>?_⟩) (by assumption) ?_
 · obtain⟨g0,g1,g2,g3,g4,g5,g6,g7,g8,g9⟩:=HC.out w' hw'.out
   clear hHeld
   go_simp
 simp only [Act.put,sIB,sCZ,sCS]
 refine wpAnyH_take (i:=5) (oi:=⟨some 42,_,_,_,_,_⟩) (v:=.int .i64 z) rfl (by kernel_rfl) (by kernel_rfl) (by kernel_rfl) (fun _ _ _ h=>h) (Or.inl ⟨by rfl,fun w' hw'=>?_⟩) (by assumption) ?_
 · clear hHeld
   go_simp
 simp only [Act.put,sIB,sCZ,sCS]
 refine wpAnyH_take (i:=7) (oi:=⟨some 44,_,_,_,_,_⟩) (v:=.pointer (some ⟨W.heap.size,6,none⟩)) rfl (by kernel_rfl) (by kernel_rfl) (by kernel_rfl) (fun _ _ _ h=>h) (Or.inl ⟨by rfl,fun w' hw'=>?_⟩) (by assumption) ?_
 · clear hHeld
   go_simp
 simp only [Act.put,sIB,sCZ,sCS]
 refine wpAnyH_take (i:=8) (oi:=⟨some 45,_,_,_,_,_⟩) (v:=.int .u8 sk) rfl (by kernel_rfl) (by kernel_rfl) (by kernel_rfl) (fun _ _ _ h=>h) (Or.inl ⟨by rfl,fun w' hw'=>?_⟩) (by assumption) ?_
 · obtain⟨g0,g1,g2,g3,g4,g5,g6,g7,g8,g9⟩:=HC.out w' hw'.out
   clear hHeld
   go_simp
 simp only [Act.put,sIB,sCZ,sCS]
 refine wpAnyH_take (i:=9) (oi:=⟨some 46,_,_,_,_,_⟩) (v:=.int .i64 z) rfl (by kernel_rfl) (by kernel_rfl) (by kernel_rfl) (fun _ _ _ h=>h) (Or.inl ⟨by rfl,fun w' hw'=>?_⟩) (by assumption) ?_
 · clear hHeld
   go_simp
 simp only [Act.put,sIB,sCZ,sCS]
 clear a0 a1 a2 a3 a4 a5 a6 a7 a8 a9
 generalize w5.drew=Wd at *
 refine wpAnyH_ready (rs:=[6]) (by kernel_rfl) (by simp) (AllReadyH.cons rfl (fun K hK=>?_) AllReadyH.nil)
 go_simp
 go_wp2_with fail
 refine (rone_st 1 to sk z _).mono ?_
 rintro e x7 ⟨p7,c7,rfl,hl7,hb7,ha7⟩
 have hH7:Hid (Below W1.heap.size W1 x7):=hid (hHeld.out.trans (hb7.mono hHeld.out.size))
 have HL7:=hid hl7
 have HAP7:=hid ha7
 have HBB7:=hid hb7
 clear hl7 hb7 ha7
 go_wp2_with fail
 refine hK.out _ _ hH7 (fun hHeld2=>?_)
 clear hH7
 clear hK K hHeld
 have hHeld:=hHeld2
 clear hHeld2
 try simp only [Act.put,sIB,sCZ,sCS]
 have HF7:=hid (HF6.out.later HBB7.out)
 refine wpAnyH_ready (rs:=[10]) (by kernel_rfl) (by simp) (AllReadyH.cons rfl (fun K hK=>?_) AllReadyH.nil)
 go_simp
 go_wp2_with fail
 refine (rone_st 8 0 sk z _).mono ?_
 rintro e x8 ⟨p8,c8,rfl,hl8,hb8,ha8⟩
 have hH8:Hid (Below W1.heap.size W1 x8):=hid (hHeld.out.trans (hb8.mono hHeld.out.size))
 have HL8:=hid hl8
 have HAP8:=hid ha8
 have HBB8:=hid hb8
 clear hl8 hb8 ha8
 go_wp2_with fail
 refine hK.out _ _ hH8 (fun hHeld2=>?_)
 clear hH8
 clear hK K hHeld
 have hHeld:=hHeld2
 clear hHeld2
 try simp only [Act.put,sIB,sCZ,sCS]
 have HF8:=hid (HF7.out.later HBB8.out)
 refine wpAnyH_ready (rs:=[11]) (by kernel_rfl) (by simp) (AllReadyH.cons rfl (fun K hK=>?_) AllReadyH.nil)
 go_simp
 have hba:Below x8.heap.size x8 (x8.alloc (.cells #[.int .u8 1,.int .u8 to,.slice p7 1 c7,.int .u8 8,.int .u8 0,.slice p8 1 c8] 52)):=(Below.refl _ _).alloc (Nat.le_refl _) _
 have hT:TellsAll (x8.alloc (.cells #[.int .u8 1,.int .u8 to,.slice p7 1 c7,.int .u8 8,.int .u8 0,.slice p8 1 c8] 52)) [hsOf 1 to p7 1 c7,hsOf 8 0 p8 1 c8] [(1,to,[(sk,z)]),(8,0,[(sk,z)])]:=⟨⟨rfl,rfl,(HL7.out.later HBB8.out).later hba⟩,⟨rfl,rfl,HL8.out.later hba⟩,trivial⟩
 have HT9:=hid hT
 have HF9:=hid (HF8.out.later hba)
 have HNW:=hid (step_news (H:=[hsOf 1 to p7 1 c7,hsOf 8 0 p8 1 c8]) (z0c x8 (.cells #[.int .u8 1,.int .u8 to,.slice p7 1 c7,.int .u8 8,.int .u8 0,.slice p8 1 c8] 52)) rfl)
 have hH9:Hid (Below W1.heap.size W1 (x8.alloc (.cells #[.int .u8 1,.int .u8 to,.slice p7 1 c7,.int .u8 8,.int .u8 0,.slice p8 1 c8] 52))):=hid (hHeld.out.trans (hba.mono hHeld.out.size))
 have HAA:Hid (∀ h ∈ [hsOf 1 to p7 1 c7,hsOf 8 0 p8 1 c8],0<h.2.2.2.1→∀ ad,h.2.2.1=some ad→(Value.slice p4 n4 c4).ownBlock≠some ad.block):=hid fun h hh h0 ad he hb=>by
  have hlt:=(HF6.out.own.lt ad.block hb).2
  simp only [List.mem_cons,List.not_mem_nil,or_false] at hh
  rcases hh with rfl | rfl
  · have:=HAP7.out ad he
    omega
  · have:=HAP8.out ad he
    have:=HBB7.out.size
    omega
 clear hT hba
 refine hK.out _ _ hH9 (fun hHeld2=>?_)
 clear hH9
 clear hK K hHeld
 have hHeld:=hHeld2
 clear hHeld2
 try simp only [Act.put,sIB,sCZ,sCS]
 refine wpAnyH_ready (rs:=[12]) (by kernel_rfl) (by simp) (AllReadyH.cons rfl (fun K hK=>?_) AllReadyH.nil)
 refine z2h rfl (.tmp 37) (.tmp 48) rfl (.slice p4 n4 c4) _ _ _ (by simp [Act.eval]) HF9.out x8.heap.size 2 [hsOf 1 to p7 1 c7,hsOf 8 0 p8 1 c8] [(1,to,[(sk,z)]),(8,0,[(sk,z)])] (by simp [Act.eval]) rfl HNW.out HT9.out HAA.out (by omega) ?_
 intro p6 n6 c6 x6 h6
 have HFA:=hid h6
 have hH6:Hid (Below W1.heap.size W1 x6):=hid h6.below
 clear h6
 refine hK.out _ _ hH6 (fun hHeld2=>?_)
 clear hH6
 clear hK K hHeld
 have hHeld:=hHeld2
 clear hHeld2
 try simp only [Act.put,sIB,sCZ,sCS]
 refine wpAnyH_take (i:=13) (oi:=⟨some 3,_,_,_,_,_⟩) (v:=.slice p6 n6 c6) rfl (by kernel_rfl) (by kernel_rfl) (by kernel_rfl) (fun _ _ _ h=>h) (Or.inl ⟨by rfl,fun w' hw'=>?_⟩) (by assumption) ?_
 · clear hHeld
   go_simp
 simp only [Act.put,sIB,sCZ,sCS]
 refine wpAnyH_done (by kernel_rfl) ?_ _
 clear hHeld
 go_wp2_with fail
 go_ret
 have hfin:=HFA.out.gives
 rw [List.nil_append] at hfin
 rw [HR2.out] at hfin
 have hfin2:=hfin.since HB1.out
 clear hfin
 first | exact hfin2 | (simp only [sCZ,sCS];exact hfin2) | (simp;exact hfin2)
def waresS (k:Int) (T:List Tk) (j:Nat):List Stp:=(List.range j).flatMap fun w:Nat=>atS k (w:Int) T
theorem waresS_step (k:Int) (T:List Tk) (j:Nat):waresS k T (j+1)=waresS k T j++atS k (j:Int) T:=by
 unfold waresS
 rw [List.range_succ,List.flatMap_append]
 simp
theorem steps_four {P:Pg} (h:z0p 4 4 P=true) (h5:P.kind≠5) (h6:P.kind≠6):z0o P=waresS P.kind P.takes 4++owesS P.kind P.owes:=by
 unfold z0o
 rw [if_pos h,if_neg h5,if_neg h6];rfl
theorem rsteps_four (k od po:Int) (lp:Option Addr) (ln lcp:Nat) (tp:Option Addr) (tn tcp:Nat) (wp:Option Addr) (wn wcp:Nat) (sk fr to q:Int) (L:List Ln) (T:List Tk) (M:List Ln) (W:World) (hP:PgM W lp ln lcp L tp tn tcp T wp wn wcp M) (hok:Pgok ⟨k,od,po,L,T,M,sk,fr,to,q⟩) (h1:ln≤1000∧tn≤1000∧wn≤1000) (hg:z0p 4 4 ⟨k,od,po,L,T,M,sk,fr,to,q⟩=true) (h5:k≠5) (h6:k≠6) :
 Calls Tryz.prog 13 #[.agg #[.int .u8 k,.int .u32 od,.int .u8 po,.slice lp ln lcp,.slice tp tn tcp,.slice wp wn wcp,.int .u8 sk,.int .u8 fr,.int .u8 to,.int .i64 q]] W (GivesS W (z0o ⟨k,od,po,L,T,M,sk,fr,to,q⟩)):=by
 rw [steps_four (P:=⟨k,od,po,L,T,M,sk,fr,to,q⟩) hg h5 h6]
 have hb1:Below W.heap.size W (W.alloc (.cells #[.int .u8 k,.int .u32 od,.int .u8 po,.slice lp ln lcp,.slice tp tn tcp,.slice wp wn wcp,.int .u8 sk,.int .u8 fr,.int .u8 to,.int .i64 q] 26)):=(Below.refl _ _).alloc (Nat.le_refl _) _
 have hgd:=rgood_p 4 4 k od po lp ln lcp tp tn tcp wp wn wcp sk fr to q L T M _ (hP.later hb1) hok h1
 rw [hg] at hgd
 have HB1:=hid hb1
 have HP:=hid (hP.later hb1)
 have HX:=hid (z0c W (.cells #[.int .u8 k,.int .u32 od,.int .u8 po,.slice lp ln lcp,.slice tp tn tcp,.slice wp wn wcp,.int .u8 sk,.int .u8 fr,.int .u8 to,.int .i64 q] 26))
 have HTOK:=hid hok.takes
 have HLM:=hid hP.o.len
 have H1:=hid h1
 have e5:(k==5)=false:=by simpa using h5
 have e6:(k==6)=false:=by simpa using h6
 dsimp only
 generalize hR:waresS k T 4++owesS k M=R
 have HRR:=hid hR
 clear hP hok h1 hg hb1 hR h5 h6
 go_enter Tryz.func13,Tryz.ntmps13
 go_wp2_with fail
 generalize W.alloc (.cells #[.int .u8 k,.int .u32 od,.int .u8 po,.slice lp ln lcp,.slice tp tn tcp,.slice wp wn wcp,.int .u8 sk,.int .u8 fr,.int .u8 to,.int .i64 q] 26)=W1 at *
 refine hgd.mono ?_
 rintro e w2 ⟨rfl,h2⟩
 have HB2:=hid h2
 have HC:=hid fun w' (h:Below W1.heap.size W1 w')=>z0e k od po lp ln lcp tp tn tcp wp wn wcp sk fr to q (z0b HX.out h)
 obtain⟨a0,a1,a2,a3,a4,a5,a6,a7,a8,a9⟩:=HC.out w2 h2
 clear hgd h2
 go_wp2_with fail
 clear a0 a1 a2 a3 a4 a5 a6 a7 a8 a9
 go_loopw [3,6] (fun v i wr=>∃ (j:Nat) (H:List Hs),j≤4∧i=.int .i64 j∧Hid (FillS W1 wr v H (waresS k T j) j)) (fun _ i _=>4-(Go.RowKit.intOf i).toNat)
 case atStart=>exact⟨0,[],Nat.zero_le _,rfl,hid ((FillS.nil W1).later HB2.out)⟩
 case round =>
  obtain⟨j,H,hj,rfl,HF⟩:=hrel
  obtain⟨a0,a1,a2,a3,a4,a5,a6,a7,a8,a9⟩:=HC.out wr HF.out.below
  by_cases hlt:j<4
  case pos =>
   have hlt':(j:Int)<4:=by omega
   have hat:=rat_st k (j:Int) tp tn tcp T wr (HP.out.later HF.out.below).t HTOK.out H1.out.2.1 (by omega)
   have hst:=waresS_step k T j
   have hats:atS k (j:Int) T=if 1≤(atP (j:Int) T).length then [(k,(j:Int),atP (j:Int) T)] else []:=rfl
   rw [hats] at hst
   generalize atP (j:Int) T=A at *
   have HS:=hid hst
   clear hst hats
   go_wp2_with fail
   refine hat.mono ?_
   rintro e w3 ⟨p3,c3,rfl,hl3,hb3,ha3⟩
   have hbx:Below w3.heap.size w3 (w3.alloc (.cells #[.int .u8 k,.int .u8 (j:Int),.slice p3 A.length c3] 52)):=(Below.refl _ _).alloc (Nat.le_refl _) _
   have HFX:=hid ((HF.out.later hb3).later hbx)
   have HLX:=hid (hl3.later hbx)
   have HAP:=hid ha3
   have HSZ:=hid hb3.size
   have hbl:=z0c w3 (.cells #[.int .u8 k,.int .u8 (j:Int),.slice p3 A.length c3] 52)
   obtain⟨s0,s1,s2⟩:=z1m hbl
   have HLA:=hid (rfl:A.length=A.length)
   clear hat hl3 hb3 ha3 hbx hbl a0 a1 a2 a3 a4 a5 a6 a7 a8 a9
   generalize hm:A.length=m at *
   have HMA:=hid hm
   clear hm HLA
   by_cases h0:1≤m
   case neg =>
    have d1:decide (0<(m:Int))=false:=decide_eq_false (by omega)
    have d1n:decide (0<m)=false:=decide_eq_false (by omega)
    have HN:Hid (waresS k T (j+1)=waresS k T j):=hid (by rw [HS.out,if_neg h0,List.append_nil])
    go_wp2_with fail
    go_roundw
    case rel=>exact⟨j+1,H,by omega,by go_num,hid (by rw [HN.out];exact HFX.out.mono (by omega))⟩
    case measure=>simp [Go.RowKit.intOf];omega
   have d1:decide (0<(m:Int))=true:=decide_eq_true (by omega)
   have d1n:decide (0<m)=true:=decide_eq_true (by omega)
   have HN:Hid (waresS k T (j+1)=waresS k T j ++ [(k,(j:Int),A)]):=hid (by rw [HS.out,if_pos h0])
   have hba:Below (w3.alloc (.cells #[.int .u8 k,.int .u8 (j:Int),.slice p3 m c3] 52)).heap.size (w3.alloc (.cells #[.int .u8 k,.int .u8 (j:Int),.slice p3 m c3] 52)) ((w3.alloc (.cells #[.int .u8 k,.int .u8 (j:Int),.slice p3 m c3] 52)).alloc (.cells #[.int .u8 k,.int .u8 (j:Int),.slice p3 m c3] 52)):=(Below.refl _ _).alloc (Nat.le_refl _) _
   have HT:=hid (show TellsAll ((w3.alloc (.cells #[.int .u8 k,.int .u8 (j:Int),.slice p3 m c3] 52)).alloc (.cells #[.int .u8 k,.int .u8 (j:Int),.slice p3 m c3] 52)) [hsOf k (j:Int) p3 m c3] [(k,(j:Int),A)] from ⟨⟨rfl,rfl,HLX.out.later hba⟩,trivial⟩)
   have HFA:=hid (HFX.out.later hba)
   have hbl2:=z0c (w3.alloc (.cells #[.int .u8 k,.int .u8 (j:Int),.slice p3 m c3] 52)) (.cells #[.int .u8 k,.int .u8 (j:Int),.slice p3 m c3] 52)
   rw [World.size_alloc] at hbl2
   have HNW:=hid (step_news (H:=[hsOf k (j:Int) p3 m c3]) hbl2 rfl)
   have HAA:Hid (∀ h ∈ [hsOf k (j:Int) p3 m c3],0<h.2.2.2.1→∀ ad,h.2.2.1=some ad→u3.ownBlock≠some ad.block):=hid fun h hh h0 ad he hb=>by
    simp only [List.mem_cons,List.not_mem_nil,or_false] at hh
    subst hh
    have h8:=HAP.out ad he
    have h9:=(HF.out.own.lt _ hb).2
    omega
   clear hba hbl2
   go_wp2_with (at_builtin;refine wpList_append_steps rfl _ _ rfl u3 _ _ _ rfl HFA.out (w3.heap.size+1) 1 [hsOf k (j:Int) p3 m c3] [(k,(j:Int),A)] rfl rfl HNW.out HT.out HAA.out (by omega) ?_;intro p5 n5 c5 w5 h5;have HF5:=hid h5;clear h5)
   clear s0 s1 s2
   go_wp2_with fail
   go_roundw
   case rel=>exact⟨j+1,_,by omega,by go_num,hid (by rw [HN.out];exact HF5.out.mono (by omega))⟩
   case measure=>simp [Go.RowKit.intOf];omega
  obtain rfl:j=4:=by omega
  by_cases h0:1≤wn
  case neg =>
   have d1:decide (0<(wn:Int))=false:=decide_eq_false (by omega)
   have d1n:decide (0<wn)=false:=decide_eq_false (by omega)
   have HOW:Hid (waresS k T 4=R):=hid (by rw [← HRR.out];unfold owesS;rw [if_neg (by rw [HLM.out];omega),if_neg (by rw [HLM.out];omega),List.append_nil])
   go_wp2_with fail
   go_ret
   have hfin:=HF.out.gives.since HB1.out
   rw [← HOW.out]
   exact hfin
  have d1:decide (0<(wn:Int))=true:=decide_eq_true (by omega)
  have d1n:decide (0<wn)=true:=decide_eq_true (by omega)
  by_cases k1:k=1
  case pos =>
   subst k1
   have HOW:Hid (waresS 1 T 4 ++ [((7:Int),(0:Int),M)]=R):=hid (by rw [← HRR.out];unfold owesS;rw [if_pos (by rw [HLM.out];omega)])
   have hba:Below wr.heap.size wr (wr.alloc (.cells #[.int .u8 7,.int .u8 0,.slice wp wn wcp] 52)):=(Below.refl _ _).alloc (Nat.le_refl _) _
   have HT:=hid (show TellsAll (wr.alloc (.cells #[.int .u8 7,.int .u8 0,.slice wp wn wcp] 52)) [hsOf 7 0 wp wn wcp] [(7,0,M)] from ⟨⟨rfl,rfl,(HP.out.later (HF.out.below.trans (hba.mono HF.out.below.size))).o⟩,trivial⟩)
   have HFA:=hid (HF.out.later hba)
   have HNW:=hid (step_news (H:=[hsOf 7 0 wp wn wcp]) (z0c wr (.cells #[.int .u8 7,.int .u8 0,.slice wp wn wcp] 52)) rfl)
   have HAA:Hid (∀ h ∈ [hsOf 7 0 wp wn wcp],0<h.2.2.2.1→∀ ad,h.2.2.1=some ad→u3.ownBlock≠some ad.block):=hid fun h hh h0 ad he hb=>by
    simp only [List.mem_cons,List.not_mem_nil,or_false] at hh
    subst hh
    obtain⟨b,off,hp,hlt,_⟩:=HP.out.o.cell h0
    have he':wp=some ad:=he
    rw [hp] at he'
    cases he'
    have:W1.heap.size≤b:=(HF.out.own.lt _ hb).1
    omega
   clear hba
   go_wp2_with (at_builtin;refine wpList_append_steps rfl _ _ rfl u3 _ _ _ rfl HFA.out wr.heap.size 1 [hsOf 7 0 wp wn wcp] [(7,0,M)] rfl rfl HNW.out HT.out HAA.out (by omega) ?_;intro p4 n4 c4 w4 h4;have HF4:=hid h4;clear h4;obtain⟨a0,a1,a2,a3,a4,a5,a6,a7,a8,a9⟩:=HC.out w4 HF4.out.below)
   (try go_wp2_with fail)
   go_ret
   have hfin:=HF4.out.gives.since HB1.out
   rw [← HOW.out]
   exact hfin
  have e1:(k==1)=false:=by simpa using k1
  by_cases k2:k=2
  case pos =>
   subst k2
   have HOW:Hid (waresS 2 T 4 ++ [((8:Int),(0:Int),M)]=R):=hid (by rw [← HRR.out];unfold owesS;rw [if_neg (by omega),if_pos (by rw [HLM.out];omega)])
   have hba:Below wr.heap.size wr (wr.alloc (.cells #[.int .u8 8,.int .u8 0,.slice wp wn wcp] 52)):=(Below.refl _ _).alloc (Nat.le_refl _) _
   have HT:=hid (show TellsAll (wr.alloc (.cells #[.int .u8 8,.int .u8 0,.slice wp wn wcp] 52)) [hsOf 8 0 wp wn wcp] [(8,0,M)] from ⟨⟨rfl,rfl,(HP.out.later (HF.out.below.trans (hba.mono HF.out.below.size))).o⟩,trivial⟩)
   have HFA:=hid (HF.out.later hba)
   have HNW:=hid (step_news (H:=[hsOf 8 0 wp wn wcp]) (z0c wr (.cells #[.int .u8 8,.int .u8 0,.slice wp wn wcp] 52)) rfl)
   have HAA:Hid (∀ h ∈ [hsOf 8 0 wp wn wcp],0<h.2.2.2.1→∀ ad,h.2.2.1=some ad→u3.ownBlock≠some ad.block):=hid fun h hh h0 ad he hb=>by
    simp only [List.mem_cons,List.not_mem_nil,or_false] at hh
    subst hh
    obtain⟨b,off,hp,hlt,_⟩:=HP.out.o.cell h0
    have he':wp=some ad:=he
    rw [hp] at he'
    cases he'
    have:W1.heap.size≤b:=(HF.out.own.lt _ hb).1
    omega
   clear hba
   go_wp2_with (at_builtin;refine wpList_append_steps rfl _ _ rfl u3 _ _ _ rfl HFA.out wr.heap.size 1 [hsOf 8 0 wp wn wcp] [(8,0,M)] rfl rfl HNW.out HT.out HAA.out (by omega) ?_;intro p4 n4 c4 w4 h4;have HF4:=hid h4;clear h4;obtain⟨a0,a1,a2,a3,a4,a5,a6,a7,a8,a9⟩:=HC.out w4 HF4.out.below)
   (try go_wp2_with fail)
   go_ret
   have hfin:=HF4.out.gives.since HB1.out
   rw [← HOW.out]
   exact hfin
  have e2:(k==2)=false:=by simpa using k2
  have HOW:Hid (waresS k T 4=R):=hid (by rw [← HRR.out];unfold owesS;rw [if_neg (by omega),if_neg (by omega),List.append_nil])
  go_wp2_with fail
  go_ret
  have hfin:=HF.out.gives.since HB1.out
  rw [← HOW.out]
  exact hfin
theorem rsteps_p (k od po:Int) (lp:Option Addr) (ln lcp:Nat) (tp:Option Addr) (tn tcp:Nat) (wp:Option Addr) (wn wcp:Nat) (sk fr to q:Int) (L:List Ln) (T:List Tk) (M:List Ln) (W:World) (hP:PgM W lp ln lcp L tp tn tcp T wp wn wcp M) (hok:Pgok ⟨k,od,po,L,T,M,sk,fr,to,q⟩) (h1:ln≤1000∧tn≤1000∧wn≤1000) :
 Calls Tryz.prog 13 #[.agg #[.int .u8 k,.int .u32 od,.int .u8 po,.slice lp ln lcp,.slice tp tn tcp,.slice wp wn wcp,.int .u8 sk,.int .u8 fr,.int .u8 to,.int .i64 q]] W (GivesS W (z0o ⟨k,od,po,L,T,M,sk,fr,to,q⟩)):=by
 cases hg:z0p 4 4 ⟨k,od,po,L,T,M,sk,fr,to,q⟩ with
 | false =>
  rw [steps_no hg]
  have hb1:Below W.heap.size W (W.alloc (.cells #[.int .u8 k,.int .u32 od,.int .u8 po,.slice lp ln lcp,.slice tp tn tcp,.slice wp wn wcp,.int .u8 sk,.int .u8 fr,.int .u8 to,.int .i64 q] 26)):=(Below.refl _ _).alloc (Nat.le_refl _) _
  have hgd:=rgood_p 4 4 k od po lp ln lcp tp tn tcp wp wn wcp sk fr to q L T M _ (hP.later hb1) hok h1
  rw [hg] at hgd
  have HB1:=hid hb1
  clear hP hok h1 hg hb1
  go_enter Tryz.func13,Tryz.ntmps13
  go_wp2_with fail
  refine hgd.mono ?_
  rintro e w2 ⟨rfl,h2⟩
  have HB2:=hid (HB1.out.trans (h2.mono HB1.out.size))
  clear hgd h2
  go_wp2_with fail
  go_ret
  exact gives_none HB2.out
 | true =>
  by_cases h5:k=5
  · subst h5
    exact rsteps_five od po lp ln lcp tp tn tcp wp wn wcp sk fr to q L T M W hP hok h1 hg
  by_cases h6:k=6
  · subst h6
    exact rsteps_six od po lp ln lcp tp tn tcp wp wn wcp sk fr to q L T M W hP hok h1 hg
  exact rsteps_four k od po lp ln lcp tp tn tcp wp wn wcp sk fr to q L T M W hP hok h1 hg h5 h6
end Go.Proofs.YtclbkfpbdidaiaaGreatDoor
