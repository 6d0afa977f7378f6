import Derived.Test.YtclbkfpbdidaiaaGreatDoorPA99
import Derived.Test.YtclbkfpbdidaiaaGreatDoorPA42
import Derived.Test.YtclbkfpbdidaiaaGreatDoorPA23
import Derived.Deep.RegionHeld
namespace Go.Proofs.YtclbkfpbdidaiaaGreatDoor
open Go.Lib (hid)
set_option maxHeartbeats 16000000
open Go.RowKit Go.ChangeShapes Go.WideShapes
set_option linter.unusedVariables false
set_option linter.unusedSimpArgs false
set_option maxRecDepth 10000
theorem rlinesbytes (p:Option Addr) (n c:Nat) (L:List Ln) (W:World) (hL:LL W p n c L) (hok:∀ x∈L,Lnok x) (hn:n≤20) :
 Calls Tryz.prog 139 #[.slice p n c] W (Copied W (9*n+1) (lnsB L)):=by
 have HL:=hid hL
 have HST:=hid fun j (hj:j<n)=>flat_take lnB L l0 j (by rw [hL.len];exact hj)
 have HET:Hid (le n 1++(L.take n).flatMap lnB=lnsB L):=hid (by unfold lnsB;rw [hL.len,← hL.len,List.take_length])
 have HLN:Hid ((lnsB L).length=9*n+1):=hid (by rw [lnsB_len,hL.len])
 have HFL:Hid (∀ j,j≤n→(le n 1++(L.take j).flatMap lnB).length=9*j+1):=hid fun j hj=>by rw [List.length_append,z0m,lnf_len,List.length_take,hL.len];omega
 have HOK:=hid fun j (hj:j<n)=>lnok_mem hok (show j<L.length by rw [hL.len];exact hj)
 have hcap:=hL.cap
 have cn:IntKind.u8.wrap (n:Int)=n:=u8_small _ (by omega)
 have H0:Hid (FB W (W.alloc (.cells #[.int .u8 (n:Nat)] 5)) (.slice (some ⟨W.heap.size,0,none⟩) 1 1) (le n 1)):=hid (by
  rw [le_one (by omega)]
  exact FB.lit (m:=1) (Below.refl _ _) rfl rfl (by omega) (fun x hx=>by obtain rfl:=List.mem_singleton.1 hx;omega))
 clear hL hok
 go_enter Tryz.func139,Tryz.ntmps139
 go_wp2_with fail
 go_loopw [3,4] (fun v i wr=>∃ j:Nat,j≤n∧i=.int .i64 j∧Hid (FB W wr v (le n 1++(L.take j).flatMap lnB))) (fun _ i _=>n-(Go.RowKit.intOf i).toNat)
 case atStart=>exact⟨0,Nat.zero_le _,rfl,hid (by rw [List.take_zero,List.flatMap_nil,List.append_nil];exact H0.out)⟩
 case round =>
  obtain⟨j,hj,rfl,HF⟩:=hrel
  by_cases hlt:j<n
  case neg =>
   obtain rfl:n=j:=by omega
   have hf:=HF.out
   rw [HET.out] at hf
   have HFF:=hid hf
   clear hf
   go_wp2_with fail
   go_ret
   exact⟨_,rfl,by have:=HFF.out.row;rwa [HLN.out] at this,HFF.out.below,HFF.out.own⟩
  have hlt':(j:Int)<n:=by omega
  obtain⟨b,off,rfl,_,k0,_⟩:=z1j (HL.out.later HF.out.below) hlt
  have HLC:Hid (∀ w',Below W.heap.size W w'→w'.cell? ⟨b,off+j*2+1,none⟩=some (.int .i64 (L.getD j l0).2)):=hid fun w' h=>by
   obtain⟨b',off',he,_,d0,d1⟩:=z1j (HL.out.later h) hlt
   cases he
   exact d1
  have hst:=HST.out j hlt
  have hok:=HOK.out j hlt
  generalize L.getD j l0=x at *
  obtain⟨a,q⟩:=x
  dsimp only at k0 hst HLC
  obtain⟨na,rfl⟩:∃ na:Nat,a=(na:Int):=⟨a.toNat,by have:=hok.1;dsimp only at this;omega⟩
  have hna:na<256:=by have:=hok.1;dsimp only at this;omega
  have HQ:Hid (In64 q):=hid hok.2
  have HS:Hid (le n 1++(L.take (j+1)).flatMap lnB=le n 1++(L.take j).flatMap lnB ++ [na]++le (u64 q) 8):=hid (by
   rw [hst]
   unfold lnB
   dsimp only
   rw [Int.toNat_natCast,le_one hna]
   simp only [List.append_assoc])
  have HFA:=hid (HF.out.later (show Below wr.heap.size wr (wr.alloc (.cells #[.int .u8 (na:Nat)] 5)) from (Below.refl _ _).alloc (Nat.le_refl _) _))
  have hln:=HFL.out j hj
  obtain⟨m,hm⟩:∃ m,(le n 1++(L.take j).flatMap lnB).length=m:=⟨_,rfl⟩
  have HM:=hid hm
  have hm2:m≤400:=by omega
  clear hst hok hln hm
  go_upto_region 6 with (at_builtin;refine z0h (k:=1) (by decide) Tryz.underlying96 z1f rfl (by omega) rfl _ _ rfl _ m (vL (le n 1++(L.take j).flatMap lnB)) rfl (by rw [← HM.out];exact HFA.out.row.own) (some ⟨wr.heap.size,0,none⟩) 1 1 (vL [na]) rfl (by rw [z1p];rfl) (fun h=>by cases h) (byte_news wr #[.int .u8 (na:Nat)] [na] rfl) (z1u _) (by omega) ?_;intro p3 c3 w3 h1 h2 h3)
  have HF3:=hid (HFA.out.app (M:=[na]) (fun x hx=>by obtain rfl:=List.mem_singleton.1 hx;exact hna) h1 h2 h3)
  clear h1 h2 h3
  have k1:=HLC.out w3 HF3.out.below
  go_wp2_with fail
  refine (rint_q q w3 HQ.out).mono ?_
  rintro e w4 ⟨vv,rfl,hrow,hb4,_⟩
  obtain⟨p4,c4,hv,_,hsl,_⟩:=hrow.sl
  subst hv
  have HF4:=hid (HF3.out.later hb4)
  have HSL:=hid hsl
  clear hrow hb4 hsl k0 k1
  go_wp2_with (at_builtin;refine z0h (k:=1) (by decide) Tryz.underlying96 z1f rfl (by omega) rfl _ _ rfl (.slice p3 (m+1) c3) (m+1) (vL (le n 1++(L.take j).flatMap lnB ++ [na])) rfl (by have:=HF4.out.row.own;rwa [List.length_append,HM.out] at this) p4 8 c4 (vL (le (u64 q) 8)) rfl (by rw [z1p,z0m]) (z2d HSL.out) (z2e HSL.out) (z1u _) (by omega) ?_;intro p5 c5 w5 h1 h2 h3)
  have HF5:=hid (HF4.out.app (M:=le (u64 q) 8) (fun x hx=>le_lt 8 _ x hx) h1 h2 h3)
  clear h1 h2 h3
  go_roundw
  case rel=>exact⟨j+1,by omega,by go_num,hid (by rw [HS.out];exact HF5.out)⟩
  case measure=>simp [Go.RowKit.intOf];omega
theorem rbytes_p (k od po:Int) (lp:Option Addr) (ln lcp:Nat) (tp:Option Addr) (tn tcp:Nat) (wp:Option Addr) (wn wcp:Nat) (sk fr to q:Int) (L:List Ln) (T:List Tk) (M:List Ln) (W:World) (hP:PgM W lp ln lcp L tp tn tcp T wp wn wcp M) (hok:Pgok ⟨k,od,po,L,T,M,sk,fr,to,q⟩) (h1:ln≤20∧tn≤30∧wn≤20) :
 Calls Tryz.prog 118 #[.agg #[.int .u8 k,.int .u32 od,.int .u8 po,.slice lp ln lcp,.slice tp tn tcp,.slice wp wn wcp,.int .u8 sk,.int .u8 fr,.int .u8 to,.int .i64 q]] W (Copied W (z2f ⟨k,od,po,L,T,M,sk,fr,to,q⟩).length (z2f ⟨k,od,po,L,T,M,sk,fr,to,q⟩)):=by
 obtain⟨hn1,hn2,hn3⟩:=h1
 obtain⟨nk,ek⟩:∃ nk:Nat,k=(nk:Int):=⟨k.toNat,by have:=hok.kind;dsimp only at this;omega⟩
 have bk:nk<256:=by have:=hok.kind;dsimp only at this;omega
 obtain⟨nod,eod⟩:∃ nod:Nat,od=(nod:Int):=⟨od.toNat,by have:=hok.order;dsimp only at this;omega⟩
 have bod:nod<4294967296:=by have:=hok.order;dsimp only at this;omega
 obtain⟨npo,epo⟩:∃ npo:Nat,po=(npo:Int):=⟨po.toNat,by have:=hok.policy;dsimp only at this;omega⟩
 have bpo:npo<256:=by have:=hok.policy;dsimp only at this;omega
 obtain⟨nsk,esk⟩:∃ nsk:Nat,sk=(nsk:Int):=⟨sk.toNat,by have:=hok.sku;dsimp only at this;omega⟩
 have bsk:nsk<256:=by have:=hok.sku;dsimp only at this;omega
 obtain⟨nfr,efr⟩:∃ nfr:Nat,fr=(nfr:Int):=⟨fr.toNat,by have:=hok.frm;dsimp only at this;omega⟩
 have bfr:nfr<256:=by have:=hok.frm;dsimp only at this;omega
 obtain⟨nto,eto⟩:∃ nto:Nat,to=(nto:Int):=⟨to.toNat,by have:=hok.to;dsimp only at this;omega⟩
 have bto:nto<256:=by have:=hok.to;dsimp only at this;omega
 have co:IntKind.u64.wrap od=nod:=by rw [eod];simp [IntKind.wrap,IntKind.bits,IntKind.signed];omega
 have cn:IntKind.u8.wrap (tn:Int)=tn:=u8_small _ (by omega)
 have HBY:Hid (z2f ⟨k,od,po,L,T,M,sk,fr,to,q⟩=[nk]++le nod 4 ++ [npo]++lnsB L ++ [tn]++T.flatMap tkBy++lnsB M ++ [nsk,nfr,nto]++le (u64 q) 8):=hid (by
  unfold z2f tksB
  dsimp only
  rw [ek,eod,epo,esk,efr,eto,hP.t.len]
  simp only [Int.toNat_natCast]
  rw [le_one bk,le_one bpo,le_one bsk,le_one bfr,le_one bto,le_one (x:=tn) (by omega)]
  simp only [List.append_assoc,List.cons_append,List.nil_append])
 have EK:=hid ek
 have EPO:=hid epo
 have ESK:=hid esk
 have EFR:=hid efr
 have ETO:=hid eto
 have HQ:Hid (In64 q):=hid hok.qty
 have HLL:Hid ((lnsB L).length=9*ln+1):=hid (by rw [lnsB_len,hP.l.len])
 have HLM:Hid ((lnsB M).length=9*wn+1):=hid (by rw [lnsB_len,hP.o.len])
 have HFL:Hid (∀ j,j≤tn→((T.take j).flatMap tkBy).length=14*j):=hid fun j hj=>by rw [tkf_len,List.length_take,hP.t.len];omega
 have HST:=hid fun j (hj:j<tn)=>flat_take tkBy T tk0 j (by rw [hP.t.len];exact hj)
 have HET:Hid ((T.take tn).flatMap tkBy=T.flatMap tkBy):=hid (by rw [← hP.t.len,List.take_length])
 have HTOK:=hid fun j (hj:j<tn)=>tkok_at hok.takes (show j<T.length by rw [hP.t.len];exact hj)
 obtain⟨W1,hW1,hbx,hb1⟩:∃ W1,W.alloc (.cells #[.int .u8 k,.int .u32 od,.int .u8 po,.slice lp ln lcp,.slice tp tn tcp,.slice wp wn wcp,.int .u8 sk,.int .u8 fr,.int .u8 to,.int .i64 q] 26)=W1∧W1.heap[W.heap.size]?=some (.cells #[.int .u8 k,.int .u32 od,.int .u8 po,.slice lp ln lcp,.slice tp tn tcp,.slice wp wn wcp,.int .u8 sk,.int .u8 fr,.int .u8 to,.int .i64 q] 26 (0,0))∧Below W.heap.size W W1:=⟨_,rfl,z0c W _,(Below.refl _ _).alloc (Nat.le_refl _) _⟩
 have HW1:=hid hW1
 have HB1:=hid hb1
 have HP:=hid (hP.later hb1)
 have HX:=hid hbx
 have HOK:=hid hok
 have hct:=hP.t.cap
 have HC:=hid fun w' (h:Below W1.heap.size W1 w')=>z0e k od po lp ln lcp tp tn tcp wp wn wcp sk fr to q (z0b HX.out h)
 have h0:FB W1 (W1.alloc (.cells #[.int .u8 k] 5)) (.slice (some ⟨W1.heap.size,0,none⟩) 1 1) [nk]:=FB.lit (m:=1) (Below.refl _ _) (by rw [ek];rfl) rfl (by omega) (fun x hx=>by obtain rfl:=List.mem_singleton.1 hx;exact bk)
 obtain⟨w1,hw1⟩:∃ w1,W1.alloc (.cells #[.int .u8 k] 5)=w1:=⟨_,rfl⟩
 rw [hw1] at h0
 have Hw1:=hid hw1
 have H1:=hid h0
 obtain⟨a0,a1,a2,a3,a4,a5,a6,a7,a8,a9⟩:=HC.out W1 (Below.refl _ _)
 clear hW1 hb1 hbx hP hok h0 hw1 ek eod epo esk efr eto
 go_enter Tryz.func118,Tryz.ntmps118
 go_upto_region 1 with (fail)
 rw [HW1.out]
 go_upto_region 2 with (fail)
 rw [Hw1.out]
 obtain⟨v1,hv1⟩:∃ v1,Value.slice (some ⟨W1.heap.size,0,none⟩) 1 1=v1:=⟨_,rfl⟩
 rw [hv1] at H1 ⊢
 clear hv1
 obtain⟨B1,hB1⟩:∃ B1,[nk]=B1:=⟨_,rfl⟩
 obtain⟨m1,hm1⟩:∃ m1,1=m1:=⟨_,rfl⟩
 have hq1:m1≤1:=by omega
 have HL1:Hid (B1.length=m1):=hid (by rw [← hB1,← hm1];rfl)
 clear hm1
 rw [hB1] at H1
 have HB1':=hid hB1
 clear hB1
 clear a0 a1 a2 a3 a4 a5 a6 a7 a8 a9
 obtain⟨a0,a1,a2,a3,a4,a5,a6,a7,a8,a9⟩:=HC.out w1 H1.out.below
 go_wp2_with fail
 refine (rnum_any nod 4 w1 (by omega) (by omega)).mono ?_
 rintro e x1 ⟨vv,rfl,hrow,hb4,_⟩
 obtain⟨p4,c4,hv,_,hsl,_⟩:=hrow.sl
 subst hv
 have HFA:=hid (H1.out.later hb4)
 have HSL:=hid hsl
 clear hrow hb4 hsl a0 a1 a2 a3 a4 a5 a6 a7 a8 a9
 obtain⟨a0,a1,a2,a3,a4,a5,a6,a7,a8,a9⟩:=HC.out x1 HFA.out.below
 go_upto_region 3 with (at_builtin;refine z0h (k:=1) (by decide) Tryz.underlying96 z1f rfl (by omega) rfl _ _ rfl v1 m1 (vL B1) rfl (by rw [← HL1.out];exact HFA.out.row.own) p4 4 c4 (vL (le nod 4)) rfl (by rw [z1p,Nat.mul_one];exact HSL.out.len) (z2d HSL.out) (z2e HSL.out) (z1u _) (by omega) ?_;intro p3 c3 w3 h1 h2 h3)
 have hf:=HFA.out.app (M:=(le nod 4)) (fun x hx=>le_lt 4 _ x hx) h1 h2 h3
 clear h1 h2 h3 a0 a1 a2 a3 a4 a5 a6 a7 a8 a9
 generalize hB2:B1++(le nod 4)=B2 at hf
 have HB2':=hid hB2
 have HL2:Hid (B2.length=m1+4):=hid (by rw [← hB2,List.length_append,HL1.out];first | rfl | (simp only [z0m,HLL.out,HLM.out];try omega))
 generalize Value.slice p3 (m1+4) c3=v2 at *
 have H2:=hid hf
 clear hf hB2
 obtain⟨m2,hm2⟩:∃ m2,m1+4=m2:=⟨_,rfl⟩
 have hq2:m2≤m1+4:=by omega
 rw [hm2] at HL2
 clear hm2
 obtain⟨w2,hw2x⟩:∃ x,x=w3:=⟨_,rfl⟩
 subst hw2x
 obtain⟨a0,a1,a2,a3,a4,a5,a6,a7,a8,a9⟩:=HC.out w2 H2.out.below
 have HFA:=hid (H2.out.later (show Below w2.heap.size w2 (w2.alloc (.cells #[.int .u8 po] 5)) from (Below.refl _ _).alloc (Nat.le_refl _) _))
 go_upto_region 4 with (at_builtin;refine z0h (k:=1) (by decide) Tryz.underlying96 z1f rfl (by omega) rfl _ _ rfl v2 m2 (vL B2) rfl (by rw [← HL2.out];exact HFA.out.row.own) (some ⟨w2.heap.size,0,none⟩) 1 1 (vL [npo]) rfl (by rw [z1p];rfl) (fun h=>by cases h) (byte_news w2 #[.int .u8 po] [npo] (by rw [EPO.out];rfl)) (z1u _) (by omega) ?_;intro p3 c3 w3 h1 h2 h3)
 have hf:=HFA.out.app (M:=[npo]) (fun x hx=>by obtain rfl:=List.mem_singleton.1 hx;exact bpo) h1 h2 h3
 clear h1 h2 h3 a0 a1 a2 a3 a4 a5 a6 a7 a8 a9
 generalize hB3:B2 ++ [npo]=B3 at hf
 have HB3':=hid hB3
 have HL3:Hid (B3.length=m2+1):=hid (by rw [← hB3,List.length_append,HL2.out];first | rfl | (simp only [z0m,HLL.out,HLM.out];try omega))
 generalize Value.slice p3 (m2+1) c3=v3 at *
 have H3:=hid hf
 clear hf hB3
 obtain⟨m3,hm3⟩:∃ m3,m2+1=m3:=⟨_,rfl⟩
 have hq3:m3≤m2+1:=by omega
 rw [hm3] at HL3
 clear hm3
 obtain⟨w3,hw3x⟩:∃ x,x=w3:=⟨_,rfl⟩
 subst hw3x
 obtain⟨a0,a1,a2,a3,a4,a5,a6,a7,a8,a9⟩:=HC.out w3 H3.out.below
 go_wp2_with fail
 refine (rlinesbytes lp ln lcp L w3 (HP.out.later H3.out.below).l HOK.out.lines hn1).mono ?_
 rintro e x3 ⟨vv,rfl,hrow,hb4,_⟩
 obtain⟨p4,c4,hv,_,hsl,_⟩:=hrow.sl
 subst hv
 have HFA:=hid (H3.out.later hb4)
 have HSL:=hid hsl
 clear hrow hb4 hsl a0 a1 a2 a3 a4 a5 a6 a7 a8 a9
 obtain⟨a0,a1,a2,a3,a4,a5,a6,a7,a8,a9⟩:=HC.out x3 HFA.out.below
 go_upto_region 5 with (at_builtin;refine z0h (k:=1) (by decide) Tryz.underlying96 z1f rfl (by omega) rfl _ _ rfl v3 m3 (vL B3) rfl (by rw [← HL3.out];exact HFA.out.row.own) p4 (9*ln+1) c4 (vL (lnsB L)) rfl (by rw [z1p,Nat.mul_one];exact HSL.out.len) (z2d HSL.out) (z2e HSL.out) (z1u _) (by omega) ?_;intro p3 c3 w3 h1 h2 h3)
 have hf:=HFA.out.app (M:=(lnsB L)) HSL.out.lt h1 h2 h3
 clear h1 h2 h3 a0 a1 a2 a3 a4 a5 a6 a7 a8 a9
 generalize hB4:B3++(lnsB L)=B4 at hf
 have HB4':=hid hB4
 have HL4:Hid (B4.length=m3+(9*ln+1)):=hid (by rw [← hB4,List.length_append,HL3.out];first | rfl | (simp only [z0m,HLL.out,HLM.out];try omega))
 generalize Value.slice p3 (m3+(9*ln+1)) c3=v4 at *
 have H4:=hid hf
 clear hf hB4
 obtain⟨m4,hm4⟩:∃ m4,m3+(9*ln+1)=m4:=⟨_,rfl⟩
 have hq4:m4≤m3+(9*ln+1):=by omega
 rw [hm4] at HL4
 clear hm4
 obtain⟨w4,hw4x⟩:∃ x,x=w3:=⟨_,rfl⟩
 subst hw4x
 obtain⟨a0,a1,a2,a3,a4,a5,a6,a7,a8,a9⟩:=HC.out w4 H4.out.below
 have HFA:=hid (H4.out.later (show Below w4.heap.size w4 (w4.alloc (.cells #[.int .u8 (tn:Nat)] 5)) from (Below.refl _ _).alloc (Nat.le_refl _) _))
 go_upto_region 6 with (at_builtin;refine z0h (k:=1) (by decide) Tryz.underlying96 z1f rfl (by omega) rfl _ _ rfl v4 m4 (vL B4) rfl (by rw [← HL4.out];exact HFA.out.row.own) (some ⟨w4.heap.size,0,none⟩) 1 1 (vL [tn]) rfl (by rw [z1p];rfl) (fun h=>by cases h) (byte_news w4 #[.int .u8 (tn:Nat)] [tn] rfl) (z1u _) (by omega) ?_;intro p3 c3 w3 h1 h2 h3)
 have hf:=HFA.out.app (M:=[tn]) (fun x hx=>by obtain rfl:=List.mem_singleton.1 hx;exact (by omega)) h1 h2 h3
 clear h1 h2 h3 a0 a1 a2 a3 a4 a5 a6 a7 a8 a9
 generalize hB5:B4 ++ [tn]=B5 at hf
 have HB5':=hid hB5
 have HL5:Hid (B5.length=m4+1):=hid (by rw [← hB5,List.length_append,HL4.out];first | rfl | (simp only [z0m,HLL.out,HLM.out];try omega))
 generalize Value.slice p3 (m4+1) c3=v5 at *
 have H5:=hid hf
 clear hf hB5
 obtain⟨m5,hm5⟩:∃ m5,m4+1=m5:=⟨_,rfl⟩
 have hq5:m5≤m4+1:=by omega
 rw [hm5] at HL5
 clear hm5
 obtain⟨w5,hw5x⟩:∃ x,x=w3:=⟨_,rfl⟩
 subst hw5x
 go_upto_region 6 with (fail)
 go_wp2_with fail
 go_loopw [3,4] (fun v i wr=>∃ j:Nat,j≤tn∧i=.int .i64 j∧Hid (FB W1 wr v (B5++(T.take j).flatMap tkBy))) (fun _ i _=>tn-(Go.RowKit.intOf i).toNat)
 case atStart=>exact⟨0,Nat.zero_le _,rfl,hid (by rw [List.take_zero,List.flatMap_nil,List.append_nil];exact H5.out)⟩
 case round =>
  obtain⟨j,hj,rfl,HF⟩:=hrel
  obtain⟨v20,hv20⟩:∃ x,x=u3:=⟨_,rfl⟩
  subst hv20
  obtain⟨w20,hw20⟩:∃ x,x=wr:=⟨_,rfl⟩
  subst hw20
  obtain⟨B20,hB20⟩:∃ x,B5++(T.take j).flatMap tkBy=x:=⟨_,rfl⟩
  have HB20':=hid hB20
  have HL20:Hid (B20.length=m5+14*j):=hid (by rw [← hB20,List.length_append,HL5.out,HFL.out j hj])
  rw [hB20] at HF
  have H20:=HF
  clear hB20 HF
  obtain⟨m20,hm20⟩:∃ x,m5+14*j=x:=⟨_,rfl⟩
  rw [hm20] at HL20
  have hq20:m20≤1000:=by omega
  clear hm20
  by_cases hlt:j<tn
  case pos =>
   have hlt':(j:Int)<tn:=by omega
   obtain⟨b,off,rfl,_,_⟩:=z0z (HP.out.later H20.out.below).t hlt
   have HTC:Hid (∀ w',Below W1.heap.size W1 w'→w'.cell? ⟨b,off+j*4,none⟩=some (.int .u32 (T.getD j tk0).1)∧w'.cell? ⟨b,off+j*4+1,none⟩=some (.int .u8 (T.getD j tk0).2.1)∧w'.cell? ⟨b,off+j*4+2,none⟩=some (.int .u8 (T.getD j tk0).2.2.1)∧w'.cell? ⟨b,off+j*4+3,none⟩=some (.int .i64 (T.getD j tk0).2.2.2)):=hid fun w' h=>by
    obtain⟨b',off',he,_,d0,d1,d2,d3⟩:=z0z (HP.out.later h).t hlt
    cases he
    exact⟨d0,d1,d2,d3⟩
   have hst:=HST.out j hlt
   have htk:=HTOK.out j hlt
   generalize T.getD j tk0=x at *
   obtain⟨xo,xa,xr,xq⟩:=x
   dsimp only at hst HTC
   obtain⟨no,eno⟩:∃ n:Nat,xo=(n:Int):=⟨xo.toNat,by have:=htk.1;dsimp only at this;omega⟩
   obtain⟨na,ena⟩:∃ n:Nat,xa=(n:Int):=⟨xa.toNat,by have:=htk.2.1;dsimp only at this;omega⟩
   obtain⟨nr,enr⟩:∃ n:Nat,xr=(n:Int):=⟨xr.toNat,by have:=htk.2.2.1;dsimp only at this;omega⟩
   have bno:no<4294967296:=by have:=htk.1;dsimp only at this;omega
   have bna:na<256:=by have:=htk.2.1;dsimp only at this;omega
   have bnr:nr<256:=by have:=htk.2.2.1;dsimp only at this;omega
   have HXQ:Hid (In64 xq):=hid htk.2.2.2
   have cxo:IntKind.u64.wrap xo=no:=by rw [eno];simp [IntKind.wrap,IntKind.bits,IntKind.signed];omega
   have HS:Hid (B5++(T.take (j+1)).flatMap tkBy=B20++le no 4 ++ [na,nr]++le (Go.Proofs.YtclbkfpbdidaiaaGreatDoor.u64 xq) 8):=hid (by
    rw [hst,← HB20'.out]
    unfold tkBy
    dsimp only
    rw [eno,ena,enr]
    simp only [Int.toNat_natCast]
    rw [le_one bna,le_one bnr]
    simp only [List.append_assoc,List.cons_append,List.nil_append])
   have ENA:=hid ena
   have ENR:=hid enr
   clear hst htk eno ena enr
   obtain⟨k0,k1,k2,k3⟩:=HTC.out w20 H20.out.below
   obtain⟨a0,a1,a2,a3,a4,a5,a6,a7,a8,a9⟩:=HC.out w20 H20.out.below
   go_wp2_with fail
   refine (rnum_any no 4 w20 (by omega) (by omega)).mono ?_
   rintro e x20 ⟨vv,rfl,hrow,hb4,_⟩
   obtain⟨p4,c4,hv,_,hsl,_⟩:=hrow.sl
   subst hv
   have HFA:=hid (H20.out.later hb4)
   have HSL:=hid hsl
   clear hrow hb4 hsl a0 a1 a2 a3 a4 a5 a6 a7 a8 a9
   obtain⟨a0,a1,a2,a3,a4,a5,a6,a7,a8,a9⟩:=HC.out x20 HFA.out.below
   go_upto_region 10 with (at_builtin;refine z0h (k:=1) (by decide) Tryz.underlying96 z1f rfl (by omega) rfl _ _ rfl v20 m20 (vL B20) rfl (by rw [← HL20.out];exact HFA.out.row.own) p4 4 c4 (vL (le no 4)) rfl (by rw [z1p,Nat.mul_one];exact HSL.out.len) (z2d HSL.out) (z2e HSL.out) (z1u _) (by omega) ?_;intro p3 c3 w3 h1 h2 h3)
   have hf:=HFA.out.app (M:=(le no 4)) (fun x hx=>le_lt 4 _ x hx) h1 h2 h3
   clear h1 h2 h3 a0 a1 a2 a3 a4 a5 a6 a7 a8 a9
   generalize hB21:B20++(le no 4)=B21 at hf
   have HB21':=hid hB21
   have HL21:Hid (B21.length=m20+4):=hid (by rw [← hB21,List.length_append,HL20.out];first | rfl | (simp only [z0m,HLL.out,HLM.out];try omega))
   generalize Value.slice p3 (m20+4) c3=v21 at *
   have H21:=hid hf
   clear hf hB21
   obtain⟨m21,hm21⟩:∃ m21,m20+4=m21:=⟨_,rfl⟩
   have hq21:m21≤m20+4:=by omega
   rw [hm21] at HL21
   clear hm21
   obtain⟨w21,hw21x⟩:∃ x,x=w3:=⟨_,rfl⟩
   subst hw21x
   clear k0 k1 k2 k3
   have hbd:Below W1.heap.size W1 w21.drew:=H21.out.below.drew
   have HD:=hid (H21.out.later (show Below w21.heap.size w21 w21.drew from (Below.refl _ _).drew))
   refine wp_region_held_drew (S:=fun w'=>Hid (Below W1.heap.size W1 w')) (by kernel_rfl) (hid hbd) (fun hHeld=>?_)
   clear hbd
   refine wpAnyH_take (i:=0) (oi:=⟨some 48,_,_,_,_,_⟩) (v:=v21) rfl (by kernel_rfl) (by kernel_rfl) (by kernel_rfl) (fun _ _ _ h=>h) (Or.inl ⟨by rfl,fun w' hw'=>?_⟩) (by assumption) ?_
   · clear hHeld
     go_simp
   simp only [Act.put,sIB,sCZ,sCS]
   refine wpAnyH_take (i:=1) (oi:=⟨some 49,_,_,_,_,_⟩) (v:=.pointer (some ⟨W.heap.size,4,none⟩)) rfl (by kernel_rfl) (by kernel_rfl) (by kernel_rfl) (fun _ _ _ h=>h) (Or.inl ⟨by rfl,fun w' hw'=>?_⟩) (by assumption) ?_
   · clear hHeld
     go_simp
   simp only [Act.put,sIB,sCZ,sCS]
   refine wpAnyH_take (i:=2) (oi:=⟨some 50,_,_,_,_,_⟩) (v:=.slice (some ⟨b,off,none⟩) tn tcp) rfl (by kernel_rfl) (by kernel_rfl) (by kernel_rfl) (fun _ _ _ h=>h) (Or.inl ⟨by rfl,fun w' hw'=>?_⟩) (by assumption) ?_
   · obtain⟨g0,g1,g2,g3,g4,g5,g6,g7,g8,g9⟩:=HC.out w' hw'.out
     clear hHeld
     go_simp
   simp only [Act.put,sIB,sCZ,sCS]
   refine wpAnyH_take (i:=3) (oi:=⟨some 51,_,_,_,_,_⟩) (v:=.int .i64 (j:Nat)) rfl (by kernel_rfl) (by kernel_rfl) (by kernel_rfl) (fun _ _ _ h=>h) (Or.inl ⟨by rfl,fun w' hw'=>?_⟩) (by assumption) ?_
   · clear hHeld
     go_simp
   simp only [Act.put,sIB,sCZ,sCS]
   refine wpAnyH_take (i:=4) (oi:=⟨some 52,_,_,_,_,_⟩) (v:=.pointer (some ⟨b,off+j*4,none⟩)) rfl (by kernel_rfl) (by kernel_rfl) (by kernel_rfl) (fun _ _ _ h=>h) (Or.inl ⟨by rfl,fun w' hw'=>?_⟩) (by assumption) ?_
   · clear hHeld
     go_simp
   simp only [Act.put,sIB,sCZ,sCS]
   refine wpAnyH_take (i:=5) (oi:=⟨some 53,_,_,_,_,_⟩) (v:=.pointer (some ⟨b,off+j*4+1,none⟩)) rfl (by kernel_rfl) (by kernel_rfl) (by kernel_rfl) (fun _ _ _ h=>h) (Or.inl ⟨by rfl,fun w' hw'=>?_⟩) (by assumption) ?_
   · clear hHeld
     go_simp
   simp only [Act.put,sIB,sCZ,sCS]
   refine wpAnyH_take (i:=6) (oi:=⟨some 54,_,_,_,_,_⟩) (v:=.int .u8 xa) rfl (by kernel_rfl) (by kernel_rfl) (by kernel_rfl) (fun _ _ _ h=>h) (Or.inl ⟨by rfl,fun w' hw'=>?_⟩) (by assumption) ?_
   · obtain⟨g0,g1,g2,g3⟩:=HTC.out w' hw'.out
     clear hHeld
     go_simp
   simp only [Act.put,sIB,sCZ,sCS]
   refine wpAnyH_take (i:=7) (oi:=⟨some 55,_,_,_,_,_⟩) (v:=.pointer (some ⟨W.heap.size,4,none⟩)) rfl (by kernel_rfl) (by kernel_rfl) (by kernel_rfl) (fun _ _ _ h=>h) (Or.inl ⟨by rfl,fun w' hw'=>?_⟩) (by assumption) ?_
   · clear hHeld
     go_simp
   simp only [Act.put,sIB,sCZ,sCS]
   refine wpAnyH_take (i:=8) (oi:=⟨some 56,_,_,_,_,_⟩) (v:=.slice (some ⟨b,off,none⟩) tn tcp) rfl (by kernel_rfl) (by kernel_rfl) (by kernel_rfl) (fun _ _ _ h=>h) (Or.inl ⟨by rfl,fun w' hw'=>?_⟩) (by assumption) ?_
   · obtain⟨g0,g1,g2,g3,g4,g5,g6,g7,g8,g9⟩:=HC.out w' hw'.out
     clear hHeld
     go_simp
   simp only [Act.put,sIB,sCZ,sCS]
   refine wpAnyH_take (i:=9) (oi:=⟨some 57,_,_,_,_,_⟩) (v:=.int .i64 (j:Nat)) rfl (by kernel_rfl) (by kernel_rfl) (by kernel_rfl) (fun _ _ _ h=>h) (Or.inl ⟨by rfl,fun w' hw'=>?_⟩) (by assumption) ?_
   · clear hHeld
     go_simp
   simp only [Act.put,sIB,sCZ,sCS]
   refine wpAnyH_take (i:=10) (oi:=⟨some 58,_,_,_,_,_⟩) (v:=.pointer (some ⟨b,off+j*4,none⟩)) rfl (by kernel_rfl) (by kernel_rfl) (by kernel_rfl) (fun _ _ _ h=>h) (Or.inl ⟨by rfl,fun w' hw'=>?_⟩) (by assumption) ?_
   · clear hHeld
     go_simp
   simp only [Act.put,sIB,sCZ,sCS]
   refine wpAnyH_take (i:=11) (oi:=⟨some 59,_,_,_,_,_⟩) (v:=.pointer (some ⟨b,off+j*4+2,none⟩)) rfl (by kernel_rfl) (by kernel_rfl) (by kernel_rfl) (fun _ _ _ h=>h) (Or.inl ⟨by rfl,fun w' hw'=>?_⟩) (by assumption) ?_
   · clear hHeld
     go_simp
   simp only [Act.put,sIB,sCZ,sCS]
   refine wpAnyH_take (i:=12) (oi:=⟨some 60,_,_,_,_,_⟩) (v:=.int .u8 xr) rfl (by kernel_rfl) (by kernel_rfl) (by kernel_rfl) (fun _ _ _ h=>h) (Or.inl ⟨by rfl,fun w' hw'=>?_⟩) (by assumption) ?_
   · obtain⟨g0,g1,g2,g3⟩:=HTC.out w' hw'.out
     clear hHeld
     go_simp
   simp only [Act.put,sIB,sCZ,sCS]
   generalize w21.drew=Wd at *
   refine wpAnyH_ready (rs:=[13]) (by kernel_rfl) (by simp) (AllReadyH.cons rfl (fun K hK=>?_) AllReadyH.nil)
   go_simp
   have HFA:=hid (HD.out.later (show Below Wd.heap.size Wd (Wd.alloc (.cells #[.int .u8 xa,.int .u8 xr] 5)) from (Below.refl _ _).alloc (Nat.le_refl _) _))
   have hH9:=hid HFA.out.below
   refine hK.out _ _ hH9 (fun hHeld2=>?_)
   clear hH9
   clear hK K hHeld
   have hHeld:=hHeld2
   clear hHeld2
   try simp only [Act.put,sIB,sCZ,sCS]
   refine wpAnyH_ready (rs:=[14]) (by kernel_rfl) (by simp) (AllReadyH.cons rfl (fun K hK=>?_) AllReadyH.nil)
   refine z0u (k:=1) (by decide) Tryz.underlying96 z1f rfl (by omega) rfl (.tmp 48) (.tmp 61) rfl v21 m21 (vL B21) (by simp [Act.eval]) (by rw [← HL21.out];exact HFA.out.row.own) (some ⟨Wd.heap.size,0,none⟩) 2 2 (vL [na,nr]) (by simp [Act.eval]) (by rw [z1p];rfl) (fun h=>by cases h) (byte_news Wd #[.int .u8 xa,.int .u8 xr] [na,nr] (by rw [ENA.out,ENR.out];rfl)) (z1u _) (by omega) ?_
   intro p3 c3 w3 h1 h2 h3
   have hf0:=HFA.out.app (M:=[na,nr]) (fun x hx=>by
    simp only [List.mem_cons,List.not_mem_nil,or_false] at hx
    rcases hx with rfl | rfl
    · exact bna
    · exact bnr) h1 h2 h3
   have hH6:=hid hf0.below
   refine hK.out _ _ hH6 (fun hHeld2=>?_)
   clear hH6
   clear hK K hHeld
   have hHeld:=hHeld2
   clear hHeld2
   try simp only [Act.put,sIB,sCZ,sCS]
   refine wpAnyH_take (i:=15) (oi:=⟨some 3,_,_,_,_,_⟩) (v:=.slice p3 (m21+2) c3) rfl (by kernel_rfl) (by kernel_rfl) (by kernel_rfl) (fun _ _ _ h=>h) (Or.inl ⟨by rfl,fun w' hw'=>?_⟩) (by assumption) ?_
   · clear hHeld
     go_simp
   simp only [Act.put,sIB,sCZ,sCS]
   refine wpAnyH_done (by kernel_rfl) ?_ _
   clear hHeld
   have hf:=hf0
   clear h1 h2 h3 hf0
   generalize hB22:B21 ++ [na,nr]=B22 at hf
   have HB22':=hid hB22
   have HL22:Hid (B22.length=m21+2):=hid (by rw [← hB22,List.length_append,HL21.out];first | rfl | (simp only [z0m,HLL.out,HLM.out];try omega))
   generalize Value.slice p3 (m21+2) c3=v22 at *
   have H22:=hid hf
   clear hf hB22
   obtain⟨m22,hm22⟩:∃ m22,m21+2=m22:=⟨_,rfl⟩
   have hq22:m22≤m21+2:=by omega
   rw [hm22] at HL22
   clear hm22
   obtain⟨w22,hw22x⟩:∃ x,x=w3:=⟨_,rfl⟩
   subst hw22x
   obtain⟨k0,k1,k2,k3⟩:=HTC.out w22 H22.out.below
   obtain⟨a0,a1,a2,a3,a4,a5,a6,a7,a8,a9⟩:=HC.out w22 H22.out.below
   go_wp2_with fail
   refine (rint_q xq w22 HXQ.out).mono ?_
   rintro e x22 ⟨vv,rfl,hrow,hb4,_⟩
   obtain⟨p4,c4,hv,_,hsl,_⟩:=hrow.sl
   subst hv
   have HFA:=hid (H22.out.later hb4)
   have HSL:=hid hsl
   clear hrow hb4 hsl a0 a1 a2 a3 a4 a5 a6 a7 a8 a9
   obtain⟨a0,a1,a2,a3,a4,a5,a6,a7,a8,a9⟩:=HC.out x22 HFA.out.below
   go_upto_region 8 with (at_builtin;refine z0h (k:=1) (by decide) Tryz.underlying96 z1f rfl (by omega) rfl _ _ rfl v22 m22 (vL B22) rfl (by rw [← HL22.out];exact HFA.out.row.own) p4 8 c4 (vL (le (Go.Proofs.YtclbkfpbdidaiaaGreatDoor.u64 xq) 8)) rfl (by rw [z1p,Nat.mul_one];exact HSL.out.len) (z2d HSL.out) (z2e HSL.out) (z1u _) (by omega) ?_;intro p3 c3 w3 h1 h2 h3)
   have hf:=HFA.out.app (M:=(le (Go.Proofs.YtclbkfpbdidaiaaGreatDoor.u64 xq) 8)) (fun x hx=>le_lt 8 _ x hx) h1 h2 h3
   clear h1 h2 h3 a0 a1 a2 a3 a4 a5 a6 a7 a8 a9
   generalize hB23:B22++(le (Go.Proofs.YtclbkfpbdidaiaaGreatDoor.u64 xq) 8)=B23 at hf
   have HB23':=hid hB23
   have HL23:Hid (B23.length=m22+8):=hid (by rw [← hB23,List.length_append,HL22.out];first | rfl | (simp only [z0m,HLL.out,HLM.out];try omega))
   generalize Value.slice p3 (m22+8) c3=v23 at *
   have H23:=hid hf
   clear hf hB23
   obtain⟨m23,hm23⟩:∃ m23,m22+8=m23:=⟨_,rfl⟩
   have hq23:m23≤m22+8:=by omega
   rw [hm23] at HL23
   clear hm23
   obtain⟨w23,hw23x⟩:∃ x,x=w3:=⟨_,rfl⟩
   subst hw23x
   clear k0 k1 k2 k3
   go_wp2_with fail
   go_roundw
   case rel=>exact⟨j+1,by omega,by go_num,hid (by rw [HS.out,HB21'.out,HB22'.out,HB23'.out];exact H23.out)⟩
   case measure=>simp [Go.RowKit.intOf];omega
  obtain rfl:tn=j:=by omega
  obtain⟨a0,a1,a2,a3,a4,a5,a6,a7,a8,a9⟩:=HC.out w20 H20.out.below
  go_wp2_with fail
  refine (rlinesbytes wp wn wcp M w20 (HP.out.later H20.out.below).o HOK.out.owes hn3).mono ?_
  rintro e x20 ⟨vv,rfl,hrow,hb4,_⟩
  obtain⟨p4,c4,hv,_,hsl,_⟩:=hrow.sl
  subst hv
  have HFA:=hid (H20.out.later hb4)
  have HSL:=hid hsl
  clear hrow hb4 hsl a0 a1 a2 a3 a4 a5 a6 a7 a8 a9
  obtain⟨a0,a1,a2,a3,a4,a5,a6,a7,a8,a9⟩:=HC.out x20 HFA.out.below
  go_upto_region 13 with (at_builtin;refine z0h (k:=1) (by decide) Tryz.underlying96 z1f rfl (by omega) rfl _ _ rfl v20 m20 (vL B20) rfl (by rw [← HL20.out];exact HFA.out.row.own) p4 (9*wn+1) c4 (vL (lnsB M)) rfl (by rw [z1p,Nat.mul_one];exact HSL.out.len) (z2d HSL.out) (z2e HSL.out) (z1u _) (by omega) ?_;intro p3 c3 w3 h1 h2 h3)
  have hf:=HFA.out.app (M:=(lnsB M)) HSL.out.lt h1 h2 h3
  clear h1 h2 h3 a0 a1 a2 a3 a4 a5 a6 a7 a8 a9
  generalize hB21:B20++(lnsB M)=B21 at hf
  have HB21':=hid hB21
  have HL21:Hid (B21.length=m20+(9*wn+1)):=hid (by rw [← hB21,List.length_append,HL20.out];first | rfl | (simp only [z0m,HLL.out,HLM.out];try omega))
  generalize Value.slice p3 (m20+(9*wn+1)) c3=v21 at *
  have H21:=hid hf
  clear hf hB21
  obtain⟨m21,hm21⟩:∃ m21,m20+(9*wn+1)=m21:=⟨_,rfl⟩
  have hq21:m21≤m20+(9*wn+1):=by omega
  rw [hm21] at HL21
  clear hm21
  obtain⟨w21,hw21x⟩:∃ x,x=w3:=⟨_,rfl⟩
  subst hw21x
  obtain⟨a0,a1,a2,a3,a4,a5,a6,a7,a8,a9⟩:=HC.out w21 H21.out.below
  have HFA:=hid (H21.out.later (show Below w21.heap.size w21 (w21.alloc (.cells #[.int .u8 sk,.int .u8 fr,.int .u8 to] 5)) from (Below.refl _ _).alloc (Nat.le_refl _) _))
  go_upto_region 14 with (at_builtin;refine z0h (k:=1) (by decide) Tryz.underlying96 z1f rfl (by omega) rfl _ _ rfl v21 m21 (vL B21) rfl (by rw [← HL21.out];exact HFA.out.row.own) (some ⟨w21.heap.size,0,none⟩) 3 3 (vL [nsk,nfr,nto]) rfl (by rw [z1p];rfl) (fun h=>by cases h) (byte_news w21 #[.int .u8 sk,.int .u8 fr,.int .u8 to] [nsk,nfr,nto] (by rw [ESK.out,EFR.out,ETO.out];rfl)) (z1u _) (by omega) ?_;intro p3 c3 w3 h1 h2 h3)
  have hf:=HFA.out.app (M:=[nsk,nfr,nto]) (fun x hx=>by
  simp only [List.mem_cons,List.not_mem_nil,or_false] at hx
  rcases hx with rfl | rfl | rfl
  · exact bsk
  · exact bfr
  · exact bto) h1 h2 h3
  clear h1 h2 h3 a0 a1 a2 a3 a4 a5 a6 a7 a8 a9
  generalize hB22:B21 ++ [nsk,nfr,nto]=B22 at hf
  have HB22':=hid hB22
  have HL22:Hid (B22.length=m21+3):=hid (by rw [← hB22,List.length_append,HL21.out];first | rfl | (simp only [z0m,HLL.out,HLM.out];try omega))
  generalize Value.slice p3 (m21+3) c3=v22 at *
  have H22:=hid hf
  clear hf hB22
  obtain⟨m22,hm22⟩:∃ m22,m21+3=m22:=⟨_,rfl⟩
  have hq22:m22≤m21+3:=by omega
  rw [hm22] at HL22
  clear hm22
  obtain⟨w22,hw22x⟩:∃ x,x=w3:=⟨_,rfl⟩
  subst hw22x
  obtain⟨a0,a1,a2,a3,a4,a5,a6,a7,a8,a9⟩:=HC.out w22 H22.out.below
  go_wp2_with fail
  refine (rint_q q w22 HQ.out).mono ?_
  rintro e x22 ⟨vv,rfl,hrow,hb4,_⟩
  obtain⟨p4,c4,hv,_,hsl,_⟩:=hrow.sl
  subst hv
  have HFA:=hid (H22.out.later hb4)
  have HSL:=hid hsl
  clear hrow hb4 hsl a0 a1 a2 a3 a4 a5 a6 a7 a8 a9
  obtain⟨a0,a1,a2,a3,a4,a5,a6,a7,a8,a9⟩:=HC.out x22 HFA.out.below
  go_wp2_with (at_builtin;refine z0h (k:=1) (by decide) Tryz.underlying96 z1f rfl (by omega) rfl _ _ rfl v22 m22 (vL B22) rfl (by rw [← HL22.out];exact HFA.out.row.own) p4 8 c4 (vL (le (Go.Proofs.YtclbkfpbdidaiaaGreatDoor.u64 q) 8)) rfl (by rw [z1p,Nat.mul_one];exact HSL.out.len) (z2d HSL.out) (z2e HSL.out) (z1u _) (by omega) ?_;intro p3 c3 w3 h1 h2 h3)
  have hf:=HFA.out.app (M:=(le (Go.Proofs.YtclbkfpbdidaiaaGreatDoor.u64 q) 8)) (fun x hx=>le_lt 8 _ x hx) h1 h2 h3
  clear h1 h2 h3 a0 a1 a2 a3 a4 a5 a6 a7 a8 a9
  generalize hB23:B22++(le (Go.Proofs.YtclbkfpbdidaiaaGreatDoor.u64 q) 8)=B23 at hf
  have HB23':=hid hB23
  have HL23:Hid (B23.length=m22+8):=hid (by rw [← hB23,List.length_append,HL22.out];first | rfl | (simp only [z0m,HLL.out,HLM.out];try omega))
  generalize Value.slice p3 (m22+8) c3=v23 at *
  have H23:=hid hf
  clear hf hB23
  obtain⟨m23,hm23⟩:∃ m23,m22+8=m23:=⟨_,rfl⟩
  have hq23:m23≤m22+8:=by omega
  rw [hm23] at HL23
  clear hm23
  obtain⟨w23,hw23x⟩:∃ x,x=w3:=⟨_,rfl⟩
  subst hw23x
  go_ret
  have hfin:z2f ⟨k,od,po,L,T,M,sk,fr,to,q⟩=B23:=by
   rw [HBY.out,← HB23'.out,← HB22'.out,← HB21'.out,← HB20'.out,HET.out,← HB5'.out,← HB4'.out,← HB3'.out,← HB2'.out,← HB1'.out]
  rw [hfin]
  exact⟨_,rfl,H23.out.row,HB1.out.trans (H23.out.below.mono HB1.out.size),fun k hk=>Nat.le_trans HB1.out.size (H23.out.own k hk)⟩
end Go.Proofs.YtclbkfpbdidaiaaGreatDoor
