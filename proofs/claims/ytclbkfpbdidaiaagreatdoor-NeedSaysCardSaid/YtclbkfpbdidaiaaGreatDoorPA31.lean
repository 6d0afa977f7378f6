import Derived.Test.YtclbkfpbdidaiaaGreatDoorPA99
import Derived.Test.YtclbkfpbdidaiaaGreatDoorPA30
namespace Go.Proofs.YtclbkfpbdidaiaaGreatDoor
open Go.Lib (hid)
set_option maxHeartbeats 8000000
open Go.RowKit Go.ChangeShapes Go.WideShapes
set_option linter.unusedVariables false
set_option linter.unusedSimpArgs false
set_option maxRecDepth 10000
theorem takes_of {K od po:Int} {L:List Ln} {T:List Tk} {M:List Ln} {sk fr to q:Int} (hK:K=1∨K=2∨K=3∨K=4) (h:z0p 4 4 ⟨K,od,po,L,T,M,sk,fr,to,q⟩=true):z0t 4 4 od T=true:=by
 have h2:(z0q 4 4 && askP 4 4 ⟨K,od,po,L,T,M,sk,fr,to,q⟩ && decide ((⟨K,od,po,L,T,M,sk,fr,to,q⟩:Pg)=qofP ⟨K,od,po,L,T,M,sk,fr,to,q⟩))=true:=h
 rcases hK with rfl | rfl | rfl | rfl
 · rw [ask1] at h2;simp only [Bool.and_eq_true] at h2;exact h2.1.2.1.1.1.2
 · rw [ask2] at h2;simp only [Bool.and_eq_true] at h2;exact h2.1.2.1.1.2
 · rw [ask3] at h2;simp only [Bool.and_eq_true] at h2;exact h2.1.2.1.2
 · rw [ask4] at h2;simp only [Bool.and_eq_true] at h2;exact h2.1.2.1.2
theorem steps_house {K od po:Int} {L:List Ln} {T:List Tk} {M:List Ln} {sk fr to q:Int} (hK:K=1∨K=2∨K=3∨K=4) (hT:∀ x∈T,Tkok x) (h:z0p 4 4 ⟨K,od,po,L,T,M,sk,fr,to,q⟩=true):z0o ⟨K,od,po,L,T,M,sk,fr,to,q⟩=z1c K T++owesS K M:=by
 have ht:=takes_of hK h
 have hh:=house_at K od T (fun x hx=>(hT x hx).2.2.1.1) ht T.length (Nat.le_refl _)
 rw [List.take_length] at hh
 unfold z0o
 rw [if_pos h,hh]
 dsimp only
 rw [if_neg (by omega),if_neg (by omega)]
theorem owes_34 {K:Int} {M:List Ln} (hK:K=3∨K=4):owesS K M=[]:=by
 unfold owesS
 rw [if_neg (by omega),if_neg (by omega)]
theorem owes_0 {K:Int}:owesS K []=[]:=by
 unfold owesS
 rw [if_neg (by simp),if_neg (by simp)]
theorem owes_1 {M:List Ln} (h:1≤M.length):owesS 1 M=[(7,0,M)]:=by
 unfold owesS
 rw [if_pos ⟨h,rfl⟩]
theorem owes_2 {M:List Ln} (h:1≤M.length):owesS 2 M=[(8,0,M)]:=by
 unfold owesS
 rw [if_neg (by omega),if_pos ⟨h,rfl⟩]
theorem steps1_p (od po:Int) (lp:Option Addr) (ln lcp:Nat) (tp:Option Addr) (tn tcp:Nat) (wp:Option Addr) (wn wcp:Nat) (sk fr to q:Int) (L:List Ln) (T:List Tk) (M:List Ln) (W:World) (hw:Words W) (hP:PgM W lp ln lcp L tp tn tcp T wp wn wcp M) (hok:Pgok ⟨1,od,po,L,T,M,sk,fr,to,q⟩) (h1:ln≤400∧tn≤400∧wn≤400) (hg:z0p 4 4 ⟨1,od,po,L,T,M,sk,fr,to,q⟩=true) :
 Calls Tryz.prog 48 #[.agg #[.int .u8 1,.int .u32 od,.int .u8 po,.slice lp ln lcp,.slice tp tn tcp,.slice wp wn wcp,.int .u8 sk,.int .u8 fr,.int .u8 to,.int .i64 q]] W (GivesS W (z0o ⟨1,od,po,L,T,M,sk,fr,to,q⟩)):=by
 rw [steps_house (.inl rfl) hok.takes hg]
 obtain⟨W1,hW1,hbx,hb1⟩:∃ W1,W.alloc (.cells #[.int .u8 1,.int .u32 od,.int .u8 po,.slice lp ln lcp,.slice tp tn tcp,.slice wp wn wcp,.int .u8 sk,.int .u8 fr,.int .u8 to,.int .i64 q] 26)=W1∧W1.heap[W.heap.size]?=some (.cells #[.int .u8 1,.int .u32 od,.int .u8 po,.slice lp ln lcp,.slice tp tn tcp,.slice wp wn wcp,.int .u8 sk,.int .u8 fr,.int .u8 to,.int .i64 q] 26 (0,0))∧Below W.heap.size W W1:=⟨_,rfl,z0c W _,(Below.refl _ _).alloc (Nat.le_refl _) _⟩
 have hgd:=good_p 4 4 1 od po lp ln lcp tp tn tcp wp wn wcp sk fr to q L T M W1 (hw.later hb1) (hP.later hb1) hok h1
 rw [hg] at hgd
 have HW1:=hid hW1
 have HB1:=hid hb1
 have HX:=hid hbx
 have HP:=hid (hP.later hb1)
 have HOK:=hid hok
 have HGG:=hid hg
 have H1:=hid h1
 have HLM:=hid hP.o.len
 have HC:=hid fun w' (h:Below W1.heap.size W1 w')=>z0e 1 od po lp ln lcp tp tn tcp wp wn wcp sk fr to q (z0b HX.out h)
 obtain⟨a0,a1,a2,a3,a4,a5,a6,a7,a8,a9⟩:=HC.out W1 (Below.refl _ _)
 clear hW1 hb1 hbx hP hok hg hw h1
 go_enter Tryz.func48,Tryz.ntmps48
 go_wp2_with fail
 rw [HW1.out]
 refine hgd.mono ?_
 rintro e w2 ⟨rfl,h2⟩
 have HB2:=hid h2
 clear hgd h2 a0 a1 a2 a3 a4 a5 a6 a7 a8 a9
 obtain⟨a0,a1,a2,a3,a4,a5,a6,a7,a8,a9⟩:=HC.out w2 HB2.out
 have hbd:Below W1.heap.size W1 w2.drew:=HB2.out.drew
 go_wp2_with fail
 refine wp_region_held_drew (S:=fun w'=>Hid (Below W1.heap.size W1 w')) (by kernel_rfl) (hid hbd) (fun hHeld=>?_)
 clear hbd
 refine wpAnyH_take (i:=0) (oi:=⟨some 10,_,_,_,_,_⟩) (v:=.pointer (some ⟨W.heap.size,4,none⟩)) rfl (by kernel_rfl) (by kernel_rfl) (by kernel_rfl) (fun _ _ _ h=>h) (Or.inl ⟨by rfl,fun w' hw'=>?_⟩) (by assumption) ?_
 · clear hHeld
   go_simp
 simp only [Act.put,sIB,sCZ,sCS]
 refine wpAnyH_take (i:=1) (oi:=⟨some 11,_,_,_,_,_⟩) (v:=.slice tp tn tcp) rfl (by kernel_rfl) (by kernel_rfl) (by kernel_rfl) (fun _ _ _ h=>h) (Or.inl ⟨by rfl,fun w' hw'=>?_⟩) (by assumption) ?_
 · obtain⟨g0,g1,g2,g3,g4,g5,g6,g7,g8,g9⟩:=HC.out w' hw'.out
   clear hHeld
   go_simp
 simp only [Act.put,sIB,sCZ,sCS]
 refine wpAnyH_take (i:=3) (oi:=⟨some 13,_,_,_,_,_⟩) (v:=.pointer (some ⟨W.heap.size,5,none⟩)) rfl (by kernel_rfl) (by kernel_rfl) (by kernel_rfl) (fun _ _ _ h=>h) (Or.inl ⟨by rfl,fun w' hw'=>?_⟩) (by assumption) ?_
 · clear hHeld
   go_simp
 simp only [Act.put,sIB,sCZ,sCS]
 refine wpAnyH_take (i:=4) (oi:=⟨some 14,_,_,_,_,_⟩) (v:=.slice wp wn wcp) rfl (by kernel_rfl) (by kernel_rfl) (by kernel_rfl) (fun _ _ _ h=>h) (Or.inl ⟨by rfl,fun w' hw'=>?_⟩) (by assumption) ?_
 · obtain⟨g0,g1,g2,g3,g4,g5,g6,g7,g8,g9⟩:=HC.out w' hw'.out
   clear hHeld
   go_simp
 simp only [Act.put,sIB,sCZ,sCS]
 clear a0 a1 a2 a3 a4 a5 a6 a7 a8 a9
 generalize w2.drew=Wd at *
 have HBD:Hid (Below W1.heap.size W1 Wd):=hHeld
 refine wpAnyH_ready (rs:=[2]) (by kernel_rfl) (by simp) (AllReadyH.cons rfl (fun K hK=>?_) AllReadyH.nil)
 go_simp
 go_wp2_with fail
 refine (houses_any 1 tp tn tcp T _ (HP.out.later HBD.out).t (by have:=H1.out;omega)).mono ?_
 rintro e x7 ⟨v7,H7,rfl,hf7⟩
 have hH7:Hid (Below W1.heap.size W1 x7):=hid (HBD.out.trans (hf7.below.mono HBD.out.size))
 have HH7:=hH7
 have HF7:=hid hf7
 clear hf7
 go_wp2_with fail
 refine hK.out _ _ hH7 (fun hHeld2=>?_)
 clear hH7
 clear hK K hHeld
 have hHeld:=hHeld2
 clear hHeld2
 try simp only [Act.put,sIB,sCZ,sCS]
 by_cases hwn:1≤wn
 case pos =>
  refine wpAnyH_ready (rs:=[5]) (by kernel_rfl) (by simp) (AllReadyH.cons rfl (fun K hK=>?_) AllReadyH.nil)
  go_simp
  go_wp2_with fail
  refine (owing_some 7 wp wn wcp M x7 (HP.out.later HH7.out).o hwn (by have:=H1.out;omega)).mono ?_
  rintro e x8 ⟨B8,p8,c8,rfl,hx8,hl8,hb8,ha8⟩
  have hH8:Hid (Below W1.heap.size W1 x8):=hid (HH7.out.trans (hb8.mono HH7.out.size))
  have HF8:=hid (HF7.out.later hb8)
  have HNW:=hid (step_news (H:=[hsOf 7 0 p8 wn c8]) hx8 rfl)
  have HT8:=hid (show TellsAll x8 [hsOf 7 0 p8 wn c8] [(7,0,M)] from ⟨⟨rfl,rfl,hl8⟩,trivial⟩)
  have HAA:Hid (∀ h ∈ [hsOf 7 0 p8 wn c8],0<h.2.2.2.1→∀ ad,h.2.2.1=some ad→v7.ownBlock≠some ad.block):=hid fun h hh h0 ad he hb=>by
   have hlt:=(HF7.out.own.lt ad.block hb).2
   obtain rfl:=List.mem_singleton.1 hh
   have:=ha8 ad he
   omega
  clear hx8 hl8 hb8 ha8
  go_wp2_with fail
  refine hK.out _ _ hH8 (fun hHeld2=>?_)
  clear hH8
  clear hK K hHeld
  have hHeld:=hHeld2
  clear hHeld2
  try simp only [Act.put,sIB,sCZ,sCS]
  refine wpAnyH_ready (rs:=[6]) (by kernel_rfl) (by simp) (AllReadyH.cons rfl (fun K hK=>?_) AllReadyH.nil)
  refine z2h rfl (.tmp 12) (.tmp 15) rfl v7 _ _ _ (by simp [Act.eval]) HF8.out B8 1 [hsOf 7 0 p8 wn c8] [(7,0,M)] (by simp [Act.eval]) rfl HNW.out HT8.out HAA.out (by have:=H1.out;omega) ?_
  intro p6 n6 c6 x6 h6
  have HFA:=hid h6
  have hH6:Hid (Below W1.heap.size W1 x6):=hid (HBD.out.trans (h6.below.mono HBD.out.size))
  clear h6
  refine hK.out _ _ hH6 (fun hHeld2=>?_)
  clear hH6
  clear hK K hHeld
  have hHeld:=hHeld2
  clear hHeld2
  try simp only [Act.put,sIB,sCZ,sCS]
  refine wpAnyH_take (i:=7) (oi:=⟨some 2,_,_,_,_,_⟩) (v:=.slice p6 n6 c6) rfl (by kernel_rfl) (by kernel_rfl) (by kernel_rfl) (fun _ _ _ h=>h) (Or.inl ⟨by rfl,fun w' hw'=>?_⟩) (by assumption) ?_
  · clear hHeld
    go_simp
  simp only [Act.put,sIB,sCZ,sCS]
  refine wpAnyH_done (by kernel_rfl) ?_ _
  clear hHeld
  go_wp2_with fail
  go_ret
  rw [owes_1 (by rw [HLM.out];exact hwn)]
  have hfin:=((HFA.out.gives).since HBD.out).since HB1.out
  first | exact hfin | (simp only [sCZ,sCS];exact hfin) | (simp;exact hfin)
 case neg =>
  obtain rfl:wn=0:=by omega
  refine wpAnyH_ready (rs:=[5]) (by kernel_rfl) (by simp) (AllReadyH.cons rfl (fun K hK=>?_) AllReadyH.nil)
  go_simp
  go_wp2_with fail
  refine (owing_none 7 wp wcp x7).mono ?_
  rintro e x8 ⟨rfl,hb8⟩
  have hH8:Hid (Below W1.heap.size W1 x8):=hid (HH7.out.trans (hb8.mono HH7.out.size))
  have HF8:=hid (HF7.out.later hb8)
  clear hb8
  go_wp2_with fail
  refine hK.out _ _ hH8 (fun hHeld2=>?_)
  clear hH8
  clear hK K hHeld
  have hHeld:=hHeld2
  clear hHeld2
  try simp only [Act.put,sIB,sCZ,sCS]
  refine wpAnyH_ready (rs:=[6]) (by kernel_rfl) (by simp) (AllReadyH.cons rfl (fun K hK=>?_) AllReadyH.nil)
  refine z0u (k:=3) (by decide) Tryz.underlying48 info_step rfl (by omega) rfl (.tmp 12) (.tmp 15) rfl v7 H7.length (z0v sc H7) (by simp [Act.eval]) (z2a HF8.out.own) none 0 0 (z0v sc []) (by simp [Act.eval]) rfl (fun _=>⟨rfl,rfl⟩) (fun ad he=>by cases he) (z1r sc_one _) (by have:=HF8.out.most;have:=H1.out;omega) ?_
  intro p6 c6 x6 g1 g2 g3
  have h6:=HF8.out.app (m:=0) (H':=[]) (S':=[]) rfl trivial (fun h hh=>by cases hh) g1 g2 g3
  have HFA:=hid h6
  have hH6:Hid (Below W1.heap.size W1 x6):=hid (HBD.out.trans (h6.below.mono HBD.out.size))
  clear h6 g1 g2 g3
  refine hK.out _ _ hH6 (fun hHeld2=>?_)
  clear hH6
  clear hK K hHeld
  have hHeld:=hHeld2
  clear hHeld2
  try simp only [Act.put,sIB,sCZ,sCS]
  refine wpAnyH_take (i:=7) (oi:=⟨some 2,_,_,_,_,_⟩) (v:=.slice p6 (H7.length+0) c6) rfl (by kernel_rfl) (by kernel_rfl) (by kernel_rfl) (fun _ _ _ h=>h) (Or.inl ⟨by rfl,fun w' hw'=>?_⟩) (by assumption) ?_
  · clear hHeld
    go_simp
  simp only [Act.put,sIB,sCZ,sCS]
  refine wpAnyH_done (by kernel_rfl) ?_ _
  clear hHeld
  go_wp2_with fail
  go_ret
  obtain rfl:M=[]:=List.eq_nil_of_length_eq_zero HLM.out
  rw [owes_0]
  have hfin:=((HFA.out.gives).since HBD.out).since HB1.out
  first | exact hfin | (simp only [sCZ,sCS];exact hfin) | (simp only [List.append_nil,Nat.add_zero] at hfin ⊢;exact hfin) | (simp only [List.append_nil,Nat.add_zero,sCZ,sCS] at hfin ⊢;exact hfin) | (simp at hfin ⊢;exact hfin)
theorem steps2_p (od po:Int) (lp:Option Addr) (ln lcp:Nat) (tp:Option Addr) (tn tcp:Nat) (wp:Option Addr) (wn wcp:Nat) (sk fr to q:Int) (L:List Ln) (T:List Tk) (M:List Ln) (W:World) (hw:Words W) (hP:PgM W lp ln lcp L tp tn tcp T wp wn wcp M) (hok:Pgok ⟨2,od,po,L,T,M,sk,fr,to,q⟩) (h1:ln≤400∧tn≤400∧wn≤400) (hg:z0p 4 4 ⟨2,od,po,L,T,M,sk,fr,to,q⟩=true) :
 Calls Tryz.prog 48 #[.agg #[.int .u8 2,.int .u32 od,.int .u8 po,.slice lp ln lcp,.slice tp tn tcp,.slice wp wn wcp,.int .u8 sk,.int .u8 fr,.int .u8 to,.int .i64 q]] W (GivesS W (z0o ⟨2,od,po,L,T,M,sk,fr,to,q⟩)):=by
 rw [steps_house (.inr (.inl rfl)) hok.takes hg]
 obtain⟨W1,hW1,hbx,hb1⟩:∃ W1,W.alloc (.cells #[.int .u8 2,.int .u32 od,.int .u8 po,.slice lp ln lcp,.slice tp tn tcp,.slice wp wn wcp,.int .u8 sk,.int .u8 fr,.int .u8 to,.int .i64 q] 26)=W1∧W1.heap[W.heap.size]?=some (.cells #[.int .u8 2,.int .u32 od,.int .u8 po,.slice lp ln lcp,.slice tp tn tcp,.slice wp wn wcp,.int .u8 sk,.int .u8 fr,.int .u8 to,.int .i64 q] 26 (0,0))∧Below W.heap.size W W1:=⟨_,rfl,z0c W _,(Below.refl _ _).alloc (Nat.le_refl _) _⟩
 have hgd:=good_p 4 4 2 od po lp ln lcp tp tn tcp wp wn wcp sk fr to q L T M W1 (hw.later hb1) (hP.later hb1) hok h1
 rw [hg] at hgd
 have HW1:=hid hW1
 have HB1:=hid hb1
 have HX:=hid hbx
 have HP:=hid (hP.later hb1)
 have HOK:=hid hok
 have HGG:=hid hg
 have H1:=hid h1
 have HLM:=hid hP.o.len
 have HC:=hid fun w' (h:Below W1.heap.size W1 w')=>z0e 2 od po lp ln lcp tp tn tcp wp wn wcp sk fr to q (z0b HX.out h)
 obtain⟨a0,a1,a2,a3,a4,a5,a6,a7,a8,a9⟩:=HC.out W1 (Below.refl _ _)
 clear hW1 hb1 hbx hP hok hg hw h1
 go_enter Tryz.func48,Tryz.ntmps48
 go_wp2_with fail
 rw [HW1.out]
 refine hgd.mono ?_
 rintro e w2 ⟨rfl,h2⟩
 have HB2:=hid h2
 clear hgd h2 a0 a1 a2 a3 a4 a5 a6 a7 a8 a9
 obtain⟨a0,a1,a2,a3,a4,a5,a6,a7,a8,a9⟩:=HC.out w2 HB2.out
 have hbd:Below W1.heap.size W1 w2.drew:=HB2.out.drew
 go_wp2_with fail
 refine wp_region_held_drew (S:=fun w'=>Hid (Below W1.heap.size W1 w')) (by kernel_rfl) (hid hbd) (fun hHeld=>?_)
 clear hbd
 refine wpAnyH_take (i:=0) (oi:=⟨some 19,_,_,_,_,_⟩) (v:=.pointer (some ⟨W.heap.size,4,none⟩)) rfl (by kernel_rfl) (by kernel_rfl) (by kernel_rfl) (fun _ _ _ h=>h) (Or.inl ⟨by rfl,fun w' hw'=>?_⟩) (by assumption) ?_
 · clear hHeld
   go_simp
 simp only [Act.put,sIB,sCZ,sCS]
 refine wpAnyH_take (i:=1) (oi:=⟨some 20,_,_,_,_,_⟩) (v:=.slice tp tn tcp) rfl (by kernel_rfl) (by kernel_rfl) (by kernel_rfl) (fun _ _ _ h=>h) (Or.inl ⟨by rfl,fun w' hw'=>?_⟩) (by assumption) ?_
 · obtain⟨g0,g1,g2,g3,g4,g5,g6,g7,g8,g9⟩:=HC.out w' hw'.out
   clear hHeld
   go_simp
 simp only [Act.put,sIB,sCZ,sCS]
 refine wpAnyH_take (i:=3) (oi:=⟨some 22,_,_,_,_,_⟩) (v:=.pointer (some ⟨W.heap.size,5,none⟩)) rfl (by kernel_rfl) (by kernel_rfl) (by kernel_rfl) (fun _ _ _ h=>h) (Or.inl ⟨by rfl,fun w' hw'=>?_⟩) (by assumption) ?_
 · clear hHeld
   go_simp
 simp only [Act.put,sIB,sCZ,sCS]
 refine wpAnyH_take (i:=4) (oi:=⟨some 23,_,_,_,_,_⟩) (v:=.slice wp wn wcp) rfl (by kernel_rfl) (by kernel_rfl) (by kernel_rfl) (fun _ _ _ h=>h) (Or.inl ⟨by rfl,fun w' hw'=>?_⟩) (by assumption) ?_
 · obtain⟨g0,g1,g2,g3,g4,g5,g6,g7,g8,g9⟩:=HC.out w' hw'.out
   clear hHeld
   go_simp
 simp only [Act.put,sIB,sCZ,sCS]
 clear a0 a1 a2 a3 a4 a5 a6 a7 a8 a9
 generalize w2.drew=Wd at *
 have HBD:Hid (Below W1.heap.size W1 Wd):=hHeld
 refine wpAnyH_ready (rs:=[2]) (by kernel_rfl) (by simp) (AllReadyH.cons rfl (fun K hK=>?_) AllReadyH.nil)
 go_simp
 go_wp2_with fail
 refine (houses_any 2 tp tn tcp T _ (HP.out.later HBD.out).t (by have:=H1.out;omega)).mono ?_
 rintro e x7 ⟨v7,H7,rfl,hf7⟩
 have hH7:Hid (Below W1.heap.size W1 x7):=hid (HBD.out.trans (hf7.below.mono HBD.out.size))
 have HH7:=hH7
 have HF7:=hid hf7
 clear hf7
 go_wp2_with fail
 refine hK.out _ _ hH7 (fun hHeld2=>?_)
 clear hH7
 clear hK K hHeld
 have hHeld:=hHeld2
 clear hHeld2
 try simp only [Act.put,sIB,sCZ,sCS]
 by_cases hwn:1≤wn
 case pos =>
  refine wpAnyH_ready (rs:=[5]) (by kernel_rfl) (by simp) (AllReadyH.cons rfl (fun K hK=>?_) AllReadyH.nil)
  go_simp
  go_wp2_with fail
  refine (owing_some 8 wp wn wcp M x7 (HP.out.later HH7.out).o hwn (by have:=H1.out;omega)).mono ?_
  rintro e x8 ⟨B8,p8,c8,rfl,hx8,hl8,hb8,ha8⟩
  have hH8:Hid (Below W1.heap.size W1 x8):=hid (HH7.out.trans (hb8.mono HH7.out.size))
  have HF8:=hid (HF7.out.later hb8)
  have HNW:=hid (step_news (H:=[hsOf 8 0 p8 wn c8]) hx8 rfl)
  have HT8:=hid (show TellsAll x8 [hsOf 8 0 p8 wn c8] [(8,0,M)] from ⟨⟨rfl,rfl,hl8⟩,trivial⟩)
  have HAA:Hid (∀ h ∈ [hsOf 8 0 p8 wn c8],0<h.2.2.2.1→∀ ad,h.2.2.1=some ad→v7.ownBlock≠some ad.block):=hid fun h hh h0 ad he hb=>by
   have hlt:=(HF7.out.own.lt ad.block hb).2
   obtain rfl:=List.mem_singleton.1 hh
   have:=ha8 ad he
   omega
  clear hx8 hl8 hb8 ha8
  go_wp2_with fail
  refine hK.out _ _ hH8 (fun hHeld2=>?_)
  clear hH8
  clear hK K hHeld
  have hHeld:=hHeld2
  clear hHeld2
  try simp only [Act.put,sIB,sCZ,sCS]
  refine wpAnyH_ready (rs:=[6]) (by kernel_rfl) (by simp) (AllReadyH.cons rfl (fun K hK=>?_) AllReadyH.nil)
  refine z2h rfl (.tmp 21) (.tmp 24) rfl v7 _ _ _ (by simp [Act.eval]) HF8.out B8 1 [hsOf 8 0 p8 wn c8] [(8,0,M)] (by simp [Act.eval]) rfl HNW.out HT8.out HAA.out (by have:=H1.out;omega) ?_
  intro p6 n6 c6 x6 h6
  have HFA:=hid h6
  have hH6:Hid (Below W1.heap.size W1 x6):=hid (HBD.out.trans (h6.below.mono HBD.out.size))
  clear h6
  refine hK.out _ _ hH6 (fun hHeld2=>?_)
  clear hH6
  clear hK K hHeld
  have hHeld:=hHeld2
  clear hHeld2
  try simp only [Act.put,sIB,sCZ,sCS]
  refine wpAnyH_take (i:=7) (oi:=⟨some 2,_,_,_,_,_⟩) (v:=.slice p6 n6 c6) rfl (by kernel_rfl) (by kernel_rfl) (by kernel_rfl) (fun _ _ _ h=>h) (Or.inl ⟨by rfl,fun w' hw'=>?_⟩) (by assumption) ?_
  · clear hHeld
    go_simp
  simp only [Act.put,sIB,sCZ,sCS]
  refine wpAnyH_done (by kernel_rfl) ?_ _
  clear hHeld
  go_wp2_with fail
  go_ret
  rw [owes_2 (by rw [HLM.out];exact hwn)]
  have hfin:=((HFA.out.gives).since HBD.out).since HB1.out
  first | exact hfin | (simp only [sCZ,sCS];exact hfin) | (simp;exact hfin)
 case neg =>
  obtain rfl:wn=0:=by omega
  refine wpAnyH_ready (rs:=[5]) (by kernel_rfl) (by simp) (AllReadyH.cons rfl (fun K hK=>?_) AllReadyH.nil)
  go_simp
  go_wp2_with fail
  refine (owing_none 8 wp wcp x7).mono ?_
  rintro e x8 ⟨rfl,hb8⟩
  have hH8:Hid (Below W1.heap.size W1 x8):=hid (HH7.out.trans (hb8.mono HH7.out.size))
  have HF8:=hid (HF7.out.later hb8)
  clear hb8
  go_wp2_with fail
  refine hK.out _ _ hH8 (fun hHeld2=>?_)
  clear hH8
  clear hK K hHeld
  have hHeld:=hHeld2
  clear hHeld2
  try simp only [Act.put,sIB,sCZ,sCS]
  refine wpAnyH_ready (rs:=[6]) (by kernel_rfl) (by simp) (AllReadyH.cons rfl (fun K hK=>?_) AllReadyH.nil)
  refine z0u (k:=3) (by decide) Tryz.underlying48 info_step rfl (by omega) rfl (.tmp 21) (.tmp 24) rfl v7 H7.length (z0v sc H7) (by simp [Act.eval]) (z2a HF8.out.own) none 0 0 (z0v sc []) (by simp [Act.eval]) rfl (fun _=>⟨rfl,rfl⟩) (fun ad he=>by cases he) (z1r sc_one _) (by have:=HF8.out.most;have:=H1.out;omega) ?_
  intro p6 c6 x6 g1 g2 g3
  have h6:=HF8.out.app (m:=0) (H':=[]) (S':=[]) rfl trivial (fun h hh=>by cases hh) g1 g2 g3
  have HFA:=hid h6
  have hH6:Hid (Below W1.heap.size W1 x6):=hid (HBD.out.trans (h6.below.mono HBD.out.size))
  clear h6 g1 g2 g3
  refine hK.out _ _ hH6 (fun hHeld2=>?_)
  clear hH6
  clear hK K hHeld
  have hHeld:=hHeld2
  clear hHeld2
  try simp only [Act.put,sIB,sCZ,sCS]
  refine wpAnyH_take (i:=7) (oi:=⟨some 2,_,_,_,_,_⟩) (v:=.slice p6 (H7.length+0) c6) rfl (by kernel_rfl) (by kernel_rfl) (by kernel_rfl) (fun _ _ _ h=>h) (Or.inl ⟨by rfl,fun w' hw'=>?_⟩) (by assumption) ?_
  · clear hHeld
    go_simp
  simp only [Act.put,sIB,sCZ,sCS]
  refine wpAnyH_done (by kernel_rfl) ?_ _
  clear hHeld
  go_wp2_with fail
  go_ret
  obtain rfl:M=[]:=List.eq_nil_of_length_eq_zero HLM.out
  rw [owes_0]
  have hfin:=((HFA.out.gives).since HBD.out).since HB1.out
  first | exact hfin | (simp only [sCZ,sCS];exact hfin) | (simp only [List.append_nil,Nat.add_zero] at hfin ⊢;exact hfin) | (simp only [List.append_nil,Nat.add_zero,sCZ,sCS] at hfin ⊢;exact hfin) | (simp at hfin ⊢;exact hfin)
theorem steps3_p (od po:Int) (lp:Option Addr) (ln lcp:Nat) (tp:Option Addr) (tn tcp:Nat) (wp:Option Addr) (wn wcp:Nat) (sk fr to q:Int) (L:List Ln) (T:List Tk) (M:List Ln) (W:World) (hw:Words W) (hP:PgM W lp ln lcp L tp tn tcp T wp wn wcp M) (hok:Pgok ⟨3,od,po,L,T,M,sk,fr,to,q⟩) (h1:ln≤400∧tn≤400∧wn≤400) (hg:z0p 4 4 ⟨3,od,po,L,T,M,sk,fr,to,q⟩=true) :
 Calls Tryz.prog 48 #[.agg #[.int .u8 3,.int .u32 od,.int .u8 po,.slice lp ln lcp,.slice tp tn tcp,.slice wp wn wcp,.int .u8 sk,.int .u8 fr,.int .u8 to,.int .i64 q]] W (GivesS W (z0o ⟨3,od,po,L,T,M,sk,fr,to,q⟩)):=by
 rw [steps_house (.inr (.inr (.inl rfl))) hok.takes hg,owes_34 (.inl rfl),List.append_nil]
 obtain⟨W1,hW1,hbx,hb1⟩:∃ W1,W.alloc (.cells #[.int .u8 3,.int .u32 od,.int .u8 po,.slice lp ln lcp,.slice tp tn tcp,.slice wp wn wcp,.int .u8 sk,.int .u8 fr,.int .u8 to,.int .i64 q] 26)=W1∧W1.heap[W.heap.size]?=some (.cells #[.int .u8 3,.int .u32 od,.int .u8 po,.slice lp ln lcp,.slice tp tn tcp,.slice wp wn wcp,.int .u8 sk,.int .u8 fr,.int .u8 to,.int .i64 q] 26 (0,0))∧Below W.heap.size W W1:=⟨_,rfl,z0c W _,(Below.refl _ _).alloc (Nat.le_refl _) _⟩
 have hgd:=good_p 4 4 3 od po lp ln lcp tp tn tcp wp wn wcp sk fr to q L T M W1 (hw.later hb1) (hP.later hb1) hok h1
 rw [hg] at hgd
 have HW1:=hid hW1
 have HB1:=hid hb1
 have HX:=hid hbx
 have HP:=hid (hP.later hb1)
 have HOK:=hid hok
 have HGG:=hid hg
 have H1:=hid h1
 have HLM:=hid hP.o.len
 have HC:=hid fun w' (h:Below W1.heap.size W1 w')=>z0e 3 od po lp ln lcp tp tn tcp wp wn wcp sk fr to q (z0b HX.out h)
 obtain⟨a0,a1,a2,a3,a4,a5,a6,a7,a8,a9⟩:=HC.out W1 (Below.refl _ _)
 clear hW1 hb1 hbx hP hok hg hw h1
 go_enter Tryz.func48,Tryz.ntmps48
 go_wp2_with fail
 rw [HW1.out]
 refine hgd.mono ?_
 rintro e w2 ⟨rfl,h2⟩
 have HB2:=hid h2
 clear hgd h2 a0 a1 a2 a3 a4 a5 a6 a7 a8 a9
 obtain⟨a0,a1,a2,a3,a4,a5,a6,a7,a8,a9⟩:=HC.out w2 HB2.out
 go_wp2_with fail
 refine (houses_any 3 tp tn tcp T w2 (HP.out.later HB2.out).t (by have:=H1.out;omega)).mono ?_
 rintro e w3 ⟨v,H,rfl,hf⟩
 have HF:=hid (hf.gives)
 clear hf a0 a1 a2 a3 a4 a5 a6 a7 a8 a9
 go_wp2_with fail
 go_ret
 exact (HF.out.since HB2.out).since HB1.out
theorem steps4_p (od po:Int) (lp:Option Addr) (ln lcp:Nat) (tp:Option Addr) (tn tcp:Nat) (wp:Option Addr) (wn wcp:Nat) (sk fr to q:Int) (L:List Ln) (T:List Tk) (M:List Ln) (W:World) (hw:Words W) (hP:PgM W lp ln lcp L tp tn tcp T wp wn wcp M) (hok:Pgok ⟨4,od,po,L,T,M,sk,fr,to,q⟩) (h1:ln≤400∧tn≤400∧wn≤400) (hg:z0p 4 4 ⟨4,od,po,L,T,M,sk,fr,to,q⟩=true) :
 Calls Tryz.prog 48 #[.agg #[.int .u8 4,.int .u32 od,.int .u8 po,.slice lp ln lcp,.slice tp tn tcp,.slice wp wn wcp,.int .u8 sk,.int .u8 fr,.int .u8 to,.int .i64 q]] W (GivesS W (z0o ⟨4,od,po,L,T,M,sk,fr,to,q⟩)):=by
 rw [steps_house (.inr (.inr (.inr rfl))) hok.takes hg,owes_34 (.inr rfl),List.append_nil]
 obtain⟨W1,hW1,hbx,hb1⟩:∃ W1,W.alloc (.cells #[.int .u8 4,.int .u32 od,.int .u8 po,.slice lp ln lcp,.slice tp tn tcp,.slice wp wn wcp,.int .u8 sk,.int .u8 fr,.int .u8 to,.int .i64 q] 26)=W1∧W1.heap[W.heap.size]?=some (.cells #[.int .u8 4,.int .u32 od,.int .u8 po,.slice lp ln lcp,.slice tp tn tcp,.slice wp wn wcp,.int .u8 sk,.int .u8 fr,.int .u8 to,.int .i64 q] 26 (0,0))∧Below W.heap.size W W1:=⟨_,rfl,z0c W _,(Below.refl _ _).alloc (Nat.le_refl _) _⟩
 have hgd:=good_p 4 4 4 od po lp ln lcp tp tn tcp wp wn wcp sk fr to q L T M W1 (hw.later hb1) (hP.later hb1) hok h1
 rw [hg] at hgd
 have HW1:=hid hW1
 have HB1:=hid hb1
 have HX:=hid hbx
 have HP:=hid (hP.later hb1)
 have HOK:=hid hok
 have HGG:=hid hg
 have H1:=hid h1
 have HLM:=hid hP.o.len
 have HC:=hid fun w' (h:Below W1.heap.size W1 w')=>z0e 4 od po lp ln lcp tp tn tcp wp wn wcp sk fr to q (z0b HX.out h)
 obtain⟨a0,a1,a2,a3,a4,a5,a6,a7,a8,a9⟩:=HC.out W1 (Below.refl _ _)
 clear hW1 hb1 hbx hP hok hg hw h1
 go_enter Tryz.func48,Tryz.ntmps48
 go_wp2_with fail
 rw [HW1.out]
 refine hgd.mono ?_
 rintro e w2 ⟨rfl,h2⟩
 have HB2:=hid h2
 clear hgd h2 a0 a1 a2 a3 a4 a5 a6 a7 a8 a9
 obtain⟨a0,a1,a2,a3,a4,a5,a6,a7,a8,a9⟩:=HC.out w2 HB2.out
 go_wp2_with fail
 refine (houses_any 4 tp tn tcp T w2 (HP.out.later HB2.out).t (by have:=H1.out;omega)).mono ?_
 rintro e w3 ⟨v,H,rfl,hf⟩
 have HF:=hid (hf.gives)
 clear hf a0 a1 a2 a3 a4 a5 a6 a7 a8 a9
 go_wp2_with fail
 go_ret
 exact (HF.out.since HB2.out).since HB1.out
theorem steps5_p (od po:Int) (lp:Option Addr) (ln lcp:Nat) (tp:Option Addr) (tn tcp:Nat) (wp:Option Addr) (wn wcp:Nat) (sk fr to q:Int) (L:List Ln) (T:List Tk) (M:List Ln) (W:World) (hw:Words W) (hP:PgM W lp ln lcp L tp tn tcp T wp wn wcp M) (hok:Pgok ⟨5,od,po,L,T,M,sk,fr,to,q⟩) (h1:ln≤400∧tn≤400∧wn≤400) (hg:z0p 4 4 ⟨5,od,po,L,T,M,sk,fr,to,q⟩=true) :
 Calls Tryz.prog 48 #[.agg #[.int .u8 5,.int .u32 od,.int .u8 po,.slice lp ln lcp,.slice tp tn tcp,.slice wp wn wcp,.int .u8 sk,.int .u8 fr,.int .u8 to,.int .i64 q]] W (GivesS W (z0o ⟨5,od,po,L,T,M,sk,fr,to,q⟩)):=by
 obtain⟨W1,hW1,hbx,hb1⟩:∃ W1,W.alloc (.cells #[.int .u8 5,.int .u32 od,.int .u8 po,.slice lp ln lcp,.slice tp tn tcp,.slice wp wn wcp,.int .u8 sk,.int .u8 fr,.int .u8 to,.int .i64 q] 26)=W1∧W1.heap[W.heap.size]?=some (.cells #[.int .u8 5,.int .u32 od,.int .u8 po,.slice lp ln lcp,.slice tp tn tcp,.slice wp wn wcp,.int .u8 sk,.int .u8 fr,.int .u8 to,.int .i64 q] 26 (0,0))∧Below W.heap.size W W1:=⟨_,rfl,z0c W _,(Below.refl _ _).alloc (Nat.le_refl _) _⟩
 have hgd:=good_p 4 4 5 od po lp ln lcp tp tn tcp wp wn wcp sk fr to q L T M W1 (hw.later hb1) (hP.later hb1) hok h1
 rw [hg] at hgd
 have HW1:=hid hW1
 have HB1:=hid hb1
 have HX:=hid hbx
 have HP:=hid (hP.later hb1)
 have HOK:=hid hok
 have HGG:=hid hg
 have H1:=hid h1
 have HLM:=hid hP.o.len
 have HC:=hid fun w' (h:Below W1.heap.size W1 w')=>z0e 5 od po lp ln lcp tp tn tcp wp wn wcp sk fr to q (z0b HX.out h)
 obtain⟨a0,a1,a2,a3,a4,a5,a6,a7,a8,a9⟩:=HC.out W1 (Below.refl _ _)
 clear hW1 hb1 hbx hP hok hg hw h1
 go_enter Tryz.func48,Tryz.ntmps48
 go_wp2_with fail
 rw [HW1.out]
 refine hgd.mono ?_
 rintro e w2 ⟨rfl,h2⟩
 have HB2:=hid h2
 clear hgd h2 a0 a1 a2 a3 a4 a5 a6 a7 a8 a9
 obtain⟨a0,a1,a2,a3,a4,a5,a6,a7,a8,a9⟩:=HC.out w2 HB2.out
 have hrs:=restock_any od po lp ln lcp tp tn tcp wp wn wcp sk fr to q L T M w2 (HP.out.later HB2.out) HOK.out H1.out HGG.out
 go_wp2_with fail
 refine hrs.mono ?_
 rintro e w3 h3
 obtain⟨p,c,H,rfl,hs,hb⟩:=h3
 have HF:Hid (GivesS w2 (z0o ⟨5,od,po,L,T,M,sk,fr,to,q⟩) (.returned (.slice p (z0o ⟨5,od,po,L,T,M,sk,fr,to,q⟩).length c)) w3):=hid ⟨p,c,H,rfl,hs,hb⟩
 clear hrs hs hb a0 a1 a2 a3 a4 a5 a6 a7 a8 a9
 generalize z0o ⟨5,od,po,L,T,M,sk,fr,to,q⟩=SS at *
 go_wp2_with fail
 go_ret
 exact (HF.out.since HB2.out).since HB1.out
theorem steps6_p (od po:Int) (lp:Option Addr) (ln lcp:Nat) (tp:Option Addr) (tn tcp:Nat) (wp:Option Addr) (wn wcp:Nat) (sk fr to q:Int) (L:List Ln) (T:List Tk) (M:List Ln) (W:World) (hw:Words W) (hP:PgM W lp ln lcp L tp tn tcp T wp wn wcp M) (hok:Pgok ⟨6,od,po,L,T,M,sk,fr,to,q⟩) (h1:ln≤400∧tn≤400∧wn≤400) (hg:z0p 4 4 ⟨6,od,po,L,T,M,sk,fr,to,q⟩=true) :
 Calls Tryz.prog 48 #[.agg #[.int .u8 6,.int .u32 od,.int .u8 po,.slice lp ln lcp,.slice tp tn tcp,.slice wp wn wcp,.int .u8 sk,.int .u8 fr,.int .u8 to,.int .i64 q]] W (GivesS W (z0o ⟨6,od,po,L,T,M,sk,fr,to,q⟩)):=by
 rw [steps_six od po L T M sk fr to q hg]
 obtain⟨W1,hW1,hbx,hb1⟩:∃ W1,W.alloc (.cells #[.int .u8 6,.int .u32 od,.int .u8 po,.slice lp ln lcp,.slice tp tn tcp,.slice wp wn wcp,.int .u8 sk,.int .u8 fr,.int .u8 to,.int .i64 q] 26)=W1∧W1.heap[W.heap.size]?=some (.cells #[.int .u8 6,.int .u32 od,.int .u8 po,.slice lp ln lcp,.slice tp tn tcp,.slice wp wn wcp,.int .u8 sk,.int .u8 fr,.int .u8 to,.int .i64 q] 26 (0,0))∧Below W.heap.size W W1:=⟨_,rfl,z0c W _,(Below.refl _ _).alloc (Nat.le_refl _) _⟩
 have hgd:=good_p 4 4 6 od po lp ln lcp tp tn tcp wp wn wcp sk fr to q L T M W1 (hw.later hb1) (hP.later hb1) hok h1
 rw [hg] at hgd
 have HW1:=hid hW1
 have HB1:=hid hb1
 have HX:=hid hbx
 have HP:=hid (hP.later hb1)
 have HOK:=hid hok
 have HGG:=hid hg
 have H1:=hid h1
 have HLM:=hid hP.o.len
 have HC:=hid fun w' (h:Below W1.heap.size W1 w')=>z0e 6 od po lp ln lcp tp tn tcp wp wn wcp sk fr to q (z0b HX.out h)
 obtain⟨a0,a1,a2,a3,a4,a5,a6,a7,a8,a9⟩:=HC.out W1 (Below.refl _ _)
 clear hW1 hb1 hbx hP hok hg hw h1
 go_enter Tryz.func48,Tryz.ntmps48
 go_wp2_with fail
 rw [HW1.out]
 refine hgd.mono ?_
 rintro e w2 ⟨rfl,h2⟩
 have HB2:=hid h2
 clear hgd h2 a0 a1 a2 a3 a4 a5 a6 a7 a8 a9
 obtain⟨a0,a1,a2,a3,a4,a5,a6,a7,a8,a9⟩:=HC.out w2 HB2.out
 have hbd:Below W1.heap.size W1 w2.drew:=HB2.out.drew
 go_wp2_with fail
 refine wp_region_held_drew (S:=fun w'=>Hid (Below W1.heap.size W1 w')) (by kernel_rfl) (hid hbd) (fun hHeld=>?_)
 clear hbd
 refine wpAnyH_take (i:=0) (oi:=⟨some 40,_,_,_,_,_⟩) (v:=.pointer (some ⟨W.heap.size,7,none⟩)) rfl (by kernel_rfl) (by kernel_rfl) (by kernel_rfl) (fun _ _ _ h=>h) (Or.inl ⟨by rfl,fun w' hw'=>?_⟩) (by assumption) ?_
 · clear hHeld
   go_simp
 simp only [Act.put,sIB,sCZ,sCS]
 refine wpAnyH_take (i:=1) (oi:=⟨some 41,_,_,_,_,_⟩) (v:=.int .u8 fr) rfl (by kernel_rfl) (by kernel_rfl) (by kernel_rfl) (fun _ _ _ h=>h) (Or.inl ⟨by rfl,fun w' hw'=>?_⟩) (by assumption) ?_
 · obtain⟨g0,g1,g2,g3,g4,g5,g6,g7,g8,g9⟩:=HC.out w' hw'.out
   clear hHeld
   go_simp
 simp only [Act.put,sIB,sCZ,sCS]
 refine wpAnyH_take (i:=2) (oi:=⟨some 42,_,_,_,_,_⟩) (v:=.pointer (some ⟨W.heap.size,6,none⟩)) rfl (by kernel_rfl) (by kernel_rfl) (by kernel_rfl) (fun _ _ _ h=>h) (Or.inl ⟨by rfl,fun w' hw'=>?_⟩) (by assumption) ?_
 · clear hHeld
   go_simp
 simp only [Act.put,sIB,sCZ,sCS]
 refine wpAnyH_take (i:=3) (oi:=⟨some 43,_,_,_,_,_⟩) (v:=.int .u8 sk) rfl (by kernel_rfl) (by kernel_rfl) (by kernel_rfl) (fun _ _ _ h=>h) (Or.inl ⟨by rfl,fun w' hw'=>?_⟩) (by assumption) ?_
 · obtain⟨g0,g1,g2,g3,g4,g5,g6,g7,g8,g9⟩:=HC.out w' hw'.out
   clear hHeld
   go_simp
 simp only [Act.put,sIB,sCZ,sCS]
 refine wpAnyH_take (i:=4) (oi:=⟨some 44,_,_,_,_,_⟩) (v:=.pointer (some ⟨W.heap.size,9,none⟩)) rfl (by kernel_rfl) (by kernel_rfl) (by kernel_rfl) (fun _ _ _ h=>h) (Or.inl ⟨by rfl,fun w' hw'=>?_⟩) (by assumption) ?_
 · clear hHeld
   go_simp
 simp only [Act.put,sIB,sCZ,sCS]
 refine wpAnyH_take (i:=5) (oi:=⟨some 45,_,_,_,_,_⟩) (v:=.int .i64 q) rfl (by kernel_rfl) (by kernel_rfl) (by kernel_rfl) (fun _ _ _ h=>h) (Or.inl ⟨by rfl,fun w' hw'=>?_⟩) (by assumption) ?_
 · obtain⟨g0,g1,g2,g3,g4,g5,g6,g7,g8,g9⟩:=HC.out w' hw'.out
   clear hHeld
   go_simp
 simp only [Act.put,sIB,sCZ,sCS]
 refine wpAnyH_take (i:=7) (oi:=⟨some 47,_,_,_,_,_⟩) (v:=.pointer (some ⟨W.heap.size,8,none⟩)) rfl (by kernel_rfl) (by kernel_rfl) (by kernel_rfl) (fun _ _ _ h=>h) (Or.inl ⟨by rfl,fun w' hw'=>?_⟩) (by assumption) ?_
 · clear hHeld
   go_simp
 simp only [Act.put,sIB,sCZ,sCS]
 refine wpAnyH_take (i:=8) (oi:=⟨some 48,_,_,_,_,_⟩) (v:=.int .u8 to) rfl (by kernel_rfl) (by kernel_rfl) (by kernel_rfl) (fun _ _ _ h=>h) (Or.inl ⟨by rfl,fun w' hw'=>?_⟩) (by assumption) ?_
 · obtain⟨g0,g1,g2,g3,g4,g5,g6,g7,g8,g9⟩:=HC.out w' hw'.out
   clear hHeld
   go_simp
 simp only [Act.put,sIB,sCZ,sCS]
 refine wpAnyH_take (i:=9) (oi:=⟨some 49,_,_,_,_,_⟩) (v:=.pointer (some ⟨W.heap.size,6,none⟩)) rfl (by kernel_rfl) (by kernel_rfl) (by kernel_rfl) (fun _ _ _ h=>h) (Or.inl ⟨by rfl,fun w' hw'=>?_⟩) (by assumption) ?_
 · clear hHeld
   go_simp
 simp only [Act.put,sIB,sCZ,sCS]
 refine wpAnyH_take (i:=10) (oi:=⟨some 50,_,_,_,_,_⟩) (v:=.int .u8 sk) rfl (by kernel_rfl) (by kernel_rfl) (by kernel_rfl) (fun _ _ _ h=>h) (Or.inl ⟨by rfl,fun w' hw'=>?_⟩) (by assumption) ?_
 · obtain⟨g0,g1,g2,g3,g4,g5,g6,g7,g8,g9⟩:=HC.out w' hw'.out
   clear hHeld
   go_simp
 simp only [Act.put,sIB,sCZ,sCS]
 refine wpAnyH_take (i:=11) (oi:=⟨some 51,_,_,_,_,_⟩) (v:=.pointer (some ⟨W.heap.size,9,none⟩)) rfl (by kernel_rfl) (by kernel_rfl) (by kernel_rfl) (fun _ _ _ h=>h) (Or.inl ⟨by rfl,fun w' hw'=>?_⟩) (by assumption) ?_
 · clear hHeld
   go_simp
 simp only [Act.put,sIB,sCZ,sCS]
 refine wpAnyH_take (i:=12) (oi:=⟨some 52,_,_,_,_,_⟩) (v:=.int .i64 q) rfl (by kernel_rfl) (by kernel_rfl) (by kernel_rfl) (fun _ _ _ h=>h) (Or.inl ⟨by rfl,fun w' hw'=>?_⟩) (by assumption) ?_
 · obtain⟨g0,g1,g2,g3,g4,g5,g6,g7,g8,g9⟩:=HC.out w' hw'.out
   clear hHeld
   go_simp
 simp only [Act.put,sIB,sCZ,sCS]
 clear a0 a1 a2 a3 a4 a5 a6 a7 a8 a9
 generalize w2.drew=Wd at *
 refine wpAnyH_ready (rs:=[6]) (by kernel_rfl) (by simp) (AllReadyH.cons rfl (fun K hK=>?_) AllReadyH.nil)
 go_simp
 go_wp2_with fail
 refine (single_st 6 fr sk q _).mono ?_
 rintro e x7 ⟨p7,c7,rfl,hl7,hb7,ha7⟩
 have hH7:Hid (Below W1.heap.size W1 x7):=hid (hHeld.out.trans (hb7.mono hHeld.out.size))
 have HL7:=hid hl7
 have HAP7:=hid ha7
 have HBB7:=hid hb7
 clear hl7 hb7 ha7
 go_wp2_with fail
 refine hK.out _ _ hH7 (fun hHeld2=>?_)
 clear hH7
 clear hK K hHeld
 have hHeld:=hHeld2
 clear hHeld2
 try simp only [Act.put,sIB,sCZ,sCS]
 have HQ7:Hid (Below W1.heap.size W1 x7):=hHeld
 refine wpAnyH_ready (rs:=[13]) (by kernel_rfl) (by simp) (AllReadyH.cons rfl (fun K hK=>?_) AllReadyH.nil)
 go_simp
 go_wp2_with fail
 refine (single_st 5 to sk q _).mono ?_
 rintro e x8 ⟨p8,c8,rfl,hl8,hb8,ha8⟩
 have hH8:Hid (Below W1.heap.size W1 x8):=hid (hHeld.out.trans (hb8.mono hHeld.out.size))
 have HL8:=hid hl8
 have HAP8:=hid ha8
 have HBB8:=hid hb8
 clear hl8 hb8 ha8
 go_wp2_with fail
 refine hK.out _ _ hH8 (fun hHeld2=>?_)
 clear hH8
 clear hK K hHeld
 have hHeld:=hHeld2
 clear hHeld2
 try simp only [Act.put,sIB,sCZ,sCS]
 have HQ8:Hid (Below W1.heap.size W1 x8):=hHeld
 refine wpAnyH_ready (rs:=[14]) (by kernel_rfl) (by simp) (AllReadyH.cons rfl (fun K hK=>?_) AllReadyH.nil)
 go_simp
 have hFA:FillS W1 (x8.alloc (.cells #[.int .u8 6,.int .u8 fr,.slice p7 1 c7,.int .u8 5,.int .u8 to,.slice p8 1 c8] 52)) (.slice (some ⟨x8.heap.size,0,none⟩) 2 2) [hsOf 6 fr p7 1 c7,hsOf 5 to p8 1 c8] [(6,fr,[(sk,q)]),(5,to,[(sk,q)])] 2:=FillS.lit (m:=2) HQ8.out rfl rfl (by omega) ⟨⟨rfl,rfl,HL7.out.later HBB8.out⟩,⟨rfl,rfl,HL8.out⟩,trivial⟩
 have HFA:=hid hFA
 have hH9:=hid hFA.below
 clear hFA
 refine hK.out _ _ hH9 (fun hHeld2=>?_)
 clear hH9
 clear hK K hHeld
 have hHeld:=hHeld2
 clear hHeld2
 try simp only [Act.put,sIB,sCZ,sCS]
 refine wpAnyH_take (i:=15) (oi:=⟨some 2,_,_,_,_,_⟩) (v:=.slice (some ⟨x8.heap.size,0,none⟩) 2 2) rfl (by kernel_rfl) (by kernel_rfl) (by kernel_rfl) (fun _ _ _ h=>h) (Or.inl ⟨by rfl,fun w' hw'=>?_⟩) (by assumption) ?_
 · clear hHeld
   go_simp
 simp only [Act.put,sIB,sCZ,sCS]
 refine wpAnyH_done (by kernel_rfl) ?_ _
 clear hHeld
 go_wp2_with fail
 go_ret
 have hfin:=(HFA.out.gives).since HB1.out
 first | exact hfin | (simp only [sCZ,sCS];exact hfin) | (simp;exact hfin)
theorem steps_p (k od po:Int) (lp:Option Addr) (ln lcp:Nat) (tp:Option Addr) (tn tcp:Nat) (wp:Option Addr) (wn wcp:Nat) (sk fr to q:Int) (L:List Ln) (T:List Tk) (M:List Ln) (W:World) (hw:Words W) (hP:PgM W lp ln lcp L tp tn tcp T wp wn wcp M) (hok:Pgok ⟨k,od,po,L,T,M,sk,fr,to,q⟩) (h1:ln≤400∧tn≤400∧wn≤400) :
 Calls Tryz.prog 48 #[.agg #[.int .u8 k,.int .u32 od,.int .u8 po,.slice lp ln lcp,.slice tp tn tcp,.slice wp wn wcp,.int .u8 sk,.int .u8 fr,.int .u8 to,.int .i64 q]] W (GivesS W (z0o ⟨k,od,po,L,T,M,sk,fr,to,q⟩)):=by
 cases hg:z0p 4 4 ⟨k,od,po,L,T,M,sk,fr,to,q⟩ with
 | false =>
  rw [steps_no hg]
  obtain⟨W1,hW1,hbx,hb1⟩:∃ W1,W.alloc (.cells #[.int .u8 k,.int .u32 od,.int .u8 po,.slice lp ln lcp,.slice tp tn tcp,.slice wp wn wcp,.int .u8 sk,.int .u8 fr,.int .u8 to,.int .i64 q] 26)=W1∧W1.heap[W.heap.size]?=some (.cells #[.int .u8 k,.int .u32 od,.int .u8 po,.slice lp ln lcp,.slice tp tn tcp,.slice wp wn wcp,.int .u8 sk,.int .u8 fr,.int .u8 to,.int .i64 q] 26 (0,0))∧Below W.heap.size W W1:=⟨_,rfl,z0c W _,(Below.refl _ _).alloc (Nat.le_refl _) _⟩
  have hgd:=good_p 4 4 k od po lp ln lcp tp tn tcp wp wn wcp sk fr to q L T M W1 (hw.later hb1) (hP.later hb1) hok h1
  rw [hg] at hgd
  have HW1:=hid hW1
  have HB1:=hid hb1
  obtain⟨a0,a1,a2,a3,a4,a5,a6,a7,a8,a9⟩:=z0e k od po lp ln lcp tp tn tcp wp wn wcp sk fr to q hbx
  clear hW1 hb1 hbx hP hok hg hw h1
  go_enter Tryz.func48,Tryz.ntmps48
  go_wp2_with fail
  rw [HW1.out]
  refine hgd.mono ?_
  rintro e w2 ⟨rfl,h2⟩
  have HB2:=hid h2
  clear hgd h2 a0 a1 a2 a3 a4 a5 a6 a7 a8 a9
  go_wp2_with fail
  go_ret
  exact gives_none (HB1.out.trans (HB2.out.mono HB1.out.size))
 | true =>
  by_cases k1:k=1
  · subst k1
    exact steps1_p od po lp ln lcp tp tn tcp wp wn wcp sk fr to q L T M W hw hP hok h1 hg
  by_cases k2:k=2
  · subst k2
    exact steps2_p od po lp ln lcp tp tn tcp wp wn wcp sk fr to q L T M W hw hP hok h1 hg
  by_cases k3:k=3
  · subst k3
    exact steps3_p od po lp ln lcp tp tn tcp wp wn wcp sk fr to q L T M W hw hP hok h1 hg
  by_cases k4:k=4
  · subst k4
    exact steps4_p od po lp ln lcp tp tn tcp wp wn wcp sk fr to q L T M W hw hP hok h1 hg
  by_cases k5:k=5
  · subst k5
    exact steps5_p od po lp ln lcp tp tn tcp wp wn wcp sk fr to q L T M W hw hP hok h1 hg
  by_cases k6:k=6
  · subst k6
    exact steps6_p od po lp ln lcp tp tn tcp wp wn wcp sk fr to q L T M W hw hP hok h1 hg
  have:=goodP_kind (s:=4) (w:=4) (P:=⟨k,od,po,L,T,M,sk,fr,to,q⟩) ⟨k1,k2,k3,k4,k5,k6⟩
  rw [hg] at this
  cases this
end Go.Proofs.YtclbkfpbdidaiaaGreatDoor
