import Derived.Test.YtnpjpelbcmgodaaGreatDoorPA27
import Derived.Test.YtnpjpelbcmgodaaGreatDoorPA32
namespace Go.Proofs.YtnpjpelbcmgodaaGreatDoor
open Go.Lib (hid)
set_option maxHeartbeats 16000000
open Go.RowKit Go.ChangeShapes Go.WideShapes
set_option linter.unusedVariables false
set_option linter.unusedSimpArgs false
set_option maxRecDepth 10000
theorem good_small {s w:Int} {P:Pg} (h:z0w s w P=true):P.lines.length≤3∧P.takes.length≤12∧P.owes.length≤3:=by
 unfold z0w at h
 simp only [Bool.and_eq_true,decide_eq_true_eq] at h
 obtain⟨⟨_,ha⟩,hq⟩:=h
 have hl:∀ {s:Int} {L:List Ln},z0t s L=true→L.length≤3:=fun h=>(z6f h).1
 have ht:∀ {s w o:Int} {T:List Tk},z0x s w o T=true→T.length≤12:=fun h=>((z5i _ _ _ _).1 h).1
 unfold askP at ha
 unfold qofP at hq
 split at ha
 · rename_i h1
   simp only [Bool.and_eq_true] at ha
   exact⟨hl ha.1.1.1.1.2,ht ha.1.1.1.2,hl ha.1.1.2⟩
 · rename_i n1
   rw [if_neg n1] at hq
   split at ha
   · rename_i h2
     rw [if_pos h2] at hq
     simp only [Bool.and_eq_true] at ha
     have:=congrArg (fun P=>P.lines.length) hq
     simp only [List.length_nil] at this
     exact⟨by omega,ht ha.1.1.2,hl ha.1.2⟩
   · rename_i n2
     rw [if_neg n2] at hq
     split at ha
     · rename_i h3
       rw [if_pos h3] at hq
       simp only [Bool.and_eq_true] at ha
       have h1:=congrArg (fun P=>P.lines.length) hq
       have h2:=congrArg (fun P=>P.owes.length) hq
       simp only [List.length_nil] at h1 h2
       exact⟨by omega,ht ha.1.2,by omega⟩
     · rename_i n3
       rw [if_neg n3] at hq
       split at ha
       · rename_i h5
         rw [if_pos h5] at hq
         simp only [Bool.and_eq_true] at ha
         have h1:=congrArg (fun P=>P.lines.length) hq
         have h2:=congrArg (fun P=>P.owes.length) hq
         simp only [List.length_nil] at h1 h2
         have h3:=ha.2
         refine⟨by omega,?_,by omega⟩
         by_cases hT:P.takes.length≤12
         · exact hT
         · rw [fills_long hT] at h3
           cases h3
       · rename_i n5
         rw [if_neg n5] at hq
         have h1:=congrArg (fun P=>P.lines.length) hq
         have h2:=congrArg (fun P=>P.owes.length) hq
         have h3:=congrArg (fun P=>P.takes.length) hq
         simp only [List.length_nil] at h1 h2 h3
         omega
def q0c (W:World) (P:Pg) (e:Ending) (w':World):Prop:=Below W.heap.size W w'∧if z0w 4 4 P=true then ∃ p c,e=.returned (.tuple #[.slice p (z2f P).length c,.int .i64 0])∧Sl w' p (z2f P).length c (z2f P)∧c≤maxLen∧∀ a,p=some a→W.heap.size≤a.block else e=.returned (.tuple #[.slice none 0 0,.int .i64 1])
theorem encode_no (k od po:Int) (lp:Option Addr) (ln lcp:Nat) (tp:Option Addr) (tn tcp:Nat) (wp:Option Addr) (wn wcp:Nat) (sk fr to q:Int) (L:List Ln) (T:List Tk) (M:List Ln) (W:World) (hw:Words W) (hP:PgM W lp ln lcp L tp tn tcp T wp wn wcp M) (hok:Pgok ⟨k,od,po,L,T,M,sk,fr,to,q⟩) (h1:ln≤400∧tn≤400∧wn≤400) (hg:z0w 4 4 ⟨k,od,po,L,T,M,sk,fr,to,q⟩=false) :
 Calls Tryz.prog 127 #[.agg #[.int .u8 k,.int .u32 od,.int .u8 po,.slice lp ln lcp,.slice tp tn tcp,.slice wp wn wcp,.int .u8 sk,.int .u8 fr,.int .u8 to,.int .i64 q]] W (q0c W ⟨k,od,po,L,T,M,sk,fr,to,q⟩):=by
 obtain⟨W1,hW1,hbx,hb1⟩:∃ W1,W.alloc (.cells #[.int .u8 k,.int .u32 od,.int .u8 po,.slice lp ln lcp,.slice tp tn tcp,.slice wp wn wcp,.int .u8 sk,.int .u8 fr,.int .u8 to,.int .i64 q] 38)=W1∧W1.heap[W.heap.size]?=some (.cells #[.int .u8 k,.int .u32 od,.int .u8 po,.slice lp ln lcp,.slice tp tn tcp,.slice wp wn wcp,.int .u8 sk,.int .u8 fr,.int .u8 to,.int .i64 q] 38 (0,0))∧Below W.heap.size W W1:=⟨_,rfl,z0c W _,(Below.refl _ _).alloc (Nat.le_refl _) _⟩
 have hgd:=q0p 4 4 k od po lp ln lcp tp tn tcp wp wn wcp sk fr to q L T M W1 (hw.later hb1) (hP.later hb1) hok h1
 rw [hg] at hgd
 have HG:=hid hg
 have HW1:=hid hW1
 have HB1:=hid hb1
 obtain⟨a0,a1,a2,a3,a4,a5,a6,a7,a8,a9⟩:=z0i k od po lp ln lcp tp tn tcp wp wn wcp sk fr to q hbx
 clear hW1 hb1 hbx hP hok hg hw h1
 go_enter Tryz.func127,Tryz.ntmps127
 go_wp2_with fail
 rw [HW1.out]
 refine hgd.mono ?_
 rintro e w2 ⟨rfl,h2⟩
 have HB2:=hid h2
 clear hgd h2 a0 a1 a2 a3 a4 a5 a6 a7 a8 a9
 go_wp2_with fail
 go_ret2
 refine⟨HB1.out.trans (HB2.out.mono HB1.out.size),?_⟩
 rw [HG.out,if_neg (by decide)]
 rfl
theorem encode_yes (k od po:Int) (lp:Option Addr) (ln lcp:Nat) (tp:Option Addr) (tn tcp:Nat) (wp:Option Addr) (wn wcp:Nat) (sk fr to q:Int) (L:List Ln) (T:List Tk) (M:List Ln) (W:World) (hw:Words W) (hP:PgM W lp ln lcp L tp tn tcp T wp wn wcp M) (hok:Pgok ⟨k,od,po,L,T,M,sk,fr,to,q⟩) (h1:ln≤400∧tn≤400∧wn≤400) (hg:z0w 4 4 ⟨k,od,po,L,T,M,sk,fr,to,q⟩=true) :
 Calls Tryz.prog 127 #[.agg #[.int .u8 k,.int .u32 od,.int .u8 po,.slice lp ln lcp,.slice tp tn tcp,.slice wp wn wcp,.int .u8 sk,.int .u8 fr,.int .u8 to,.int .i64 q]] W (q0c W ⟨k,od,po,L,T,M,sk,fr,to,q⟩):=by
 obtain⟨hs1,hs2,hs3⟩:=good_small hg
 dsimp only at hs1 hs2 hs3
 rw [hP.l.len] at hs1
 rw [hP.t.len] at hs2
 rw [hP.o.len] at hs3
 obtain⟨nk,ek⟩:∃ nk:Nat,k=(nk:Int):=⟨k.toNat,by have:=hok.kind;dsimp only at this;omega⟩
 have bk:nk<256 ^ 1:=by have:=hok.kind;dsimp only at this;omega
 have ck:IntKind.u64.wrap k=nk:=by rw [ek];exact z2g _ (by omega)
 obtain⟨nod,eod⟩:∃ nod:Nat,od=(nod:Int):=⟨od.toNat,by have:=hok.order;dsimp only at this;omega⟩
 have bod:nod<256 ^ 4:=by have:=hok.order;dsimp only at this;omega
 have cod:IntKind.u64.wrap od=nod:=by rw [eod];exact z2g _ (by omega)
 obtain⟨npo,epo⟩:∃ npo:Nat,po=(npo:Int):=⟨po.toNat,by have:=hok.policy;dsimp only at this;omega⟩
 have bpo:npo<256 ^ 1:=by have:=hok.policy;dsimp only at this;omega
 have cpo:IntKind.u64.wrap po=npo:=by rw [epo];exact z2g _ (by omega)
 obtain⟨nsk,esk⟩:∃ nsk:Nat,sk=(nsk:Int):=⟨sk.toNat,by have:=hok.sku;dsimp only at this;omega⟩
 have bsk:nsk<256 ^ 1:=by have:=hok.sku;dsimp only at this;omega
 have csk:IntKind.u64.wrap sk=nsk:=by rw [esk];exact z2g _ (by omega)
 obtain⟨nfr,efr⟩:∃ nfr:Nat,fr=(nfr:Int):=⟨fr.toNat,by have:=hok.frm;dsimp only at this;omega⟩
 have bfr:nfr<256 ^ 1:=by have:=hok.frm;dsimp only at this;omega
 have cfr:IntKind.u64.wrap fr=nfr:=by rw [efr];exact z2g _ (by omega)
 obtain⟨nto,eto⟩:∃ nto:Nat,to=(nto:Int):=⟨to.toNat,by have:=hok.to;dsimp only at this;omega⟩
 have bto:nto<256 ^ 1:=by have:=hok.to;dsimp only at this;omega
 have cto:IntKind.u64.wrap to=nto:=by rw [eto];exact z2g _ (by omega)
 have hq:In64 q:=hok.qty
 have HQ:=hid hq
 have HBY:Hid (z2f ⟨k,od,po,L,T,M,sk,fr,to,q⟩=le nk 1++le nod 4++le npo 1++(le ln 1++L.flatMap lnB)++(le tn 1++T.flatMap tkBy)++(le wn 1++M.flatMap lnB)++le nsk 1++le nfr 1++le nto 1++le (u64 q) 8):=hid (by
  unfold z2f lnsB tksB
  dsimp only
  rw [hP.l.len,hP.t.len,hP.o.len,ek,eod,epo,esk,efr,eto]
  rfl)
 have HBN:Hid ((z2f ⟨k,od,po,L,T,M,sk,fr,to,q⟩).length≤400):=hid (by
  unfold z2f
  simp only [List.length_append,z7q,tksB_len,z0r]
  rw [hP.l.len,hP.t.len,hP.o.len]
  omega)
 have HLL:Hid ((L.flatMap lnB).length=9*ln):=hid (by rw [z6e,hP.l.len])
 have HTT:Hid ((T.flatMap tkBy).length=14*tn):=hid (by rw [z6z,hP.t.len])
 have HMM:Hid ((M.flatMap lnB).length=9*wn):=hid (by rw [z6e,hP.o.len])
 obtain⟨W1,hW1,hbx,hb1⟩:∃ W1,W.alloc (.cells #[.int .u8 k,.int .u32 od,.int .u8 po,.slice lp ln lcp,.slice tp tn tcp,.slice wp wn wcp,.int .u8 sk,.int .u8 fr,.int .u8 to,.int .i64 q] 38)=W1∧W1.heap[W.heap.size]?=some (.cells #[.int .u8 k,.int .u32 od,.int .u8 po,.slice lp ln lcp,.slice tp tn tcp,.slice wp wn wcp,.int .u8 sk,.int .u8 fr,.int .u8 to,.int .i64 q] 38 (0,0))∧Below W.heap.size W W1:=⟨_,rfl,z0c W _,(Below.refl _ _).alloc (Nat.le_refl _) _⟩
 have hgd:=q0p 4 4 k od po lp ln lcp tp tn tcp wp wn wcp sk fr to q L T M W1 (hw.later hb1) (hP.later hb1) hok h1
 rw [hg] at hgd
 have HG:=hid hg
 have HW1:=hid hW1
 have HB1:=hid hb1
 have HX1:=hid hbx
 have HP1:=hid (hP.later hb1)
 have HOK:=hid hok
 obtain⟨a0,a1,a2,a3,a4,a5,a6,a7,a8,a9⟩:=z0i k od po lp ln lcp tp tn tcp wp wn wcp sk fr to q hbx
 clear hW1 hb1 hbx hP hok hg hw h1 ek eod epo esk efr eto hq
 go_enter Tryz.func127,Tryz.ntmps127
 go_wp2_with fail
 rw [HW1.out]
 refine hgd.mono ?_
 rintro e W2 ⟨rfl,h2⟩
 have HB2:=hid h2
 clear hgd h2 a0 a1 a2 a3 a4 a5 a6 a7 a8 a9
 go_wp2_with fail
 refine (new_any 512 W2).mono ?_
 rintro e W3 ⟨rfl,rfl⟩
 -- the writer,and its box
 obtain⟨B,hB⟩:∃ B,W2.heap.size=B:=⟨_,rfl⟩
 obtain⟨W4,hW4,hs4,hbw,hb4⟩:∃ W4,(W2.alloc (.cells #[.int .i64 0,.int .i64 512,.slice none 0 0] 196)).alloc (wbox B)=W4∧W4.heap.size=B+2∧W4.heap[B+1]?=some (.cells #[.pointer (some ⟨B,0,none⟩)] 201 (0,0))∧Below W2.heap.size W2 W4:=⟨_,rfl,by simp [hB],by have:=z0c (W2.alloc (.cells #[.int .i64 0,.int .i64 512,.slice none 0 0] 196)) (wbox B);rwa [World.size_alloc,hB] at this,((Below.refl _ _).alloc (Nat.le_refl _) _).alloc (by simp) _⟩
 have hwr4:Wr W4 B (.slice none 0 0) 512 (0,[]):=by
  have h0:=new_wr W2 512
  rw [hB] at h0
  rw [← hW4]
  exact h0.chg (Chg.of_below (S:=fun _=>False) ((Below.refl _ _).alloc (Nat.le_refl _) _)) (fun h=>h) (fun _ _ h=>h)
 have hWB:W.heap.size<B:=by have:=z0k HX1.out;have:=HB2.out.size;omega
 have hx4:=z0b HX1.out (HB2.out.trans (hb4.mono HB2.out.size))
 have HC:Hid (∀ w',Chg (fun k=>k=B∨(Value.slice none 0 0).ownBlock=some k) W4 w'→(w'.heap[W.heap.size]?=some (.cells #[.int .u8 k,.int .u32 od,.int .u8 po,.slice lp ln lcp,.slice tp tn tcp,.slice wp wn wcp,.int .u8 sk,.int .u8 fr,.int .u8 to,.int .i64 q] 38 (0,0))∧w'.cell? ⟨B+1,0,none⟩=some (.pointer (some ⟨B,0,none⟩)))):=hid fun w' hc=>⟨(hc.block _ (z0k hx4) (fun hk=>by rcases hk with hk | hk;omega;cases hk)).trans hx4,z0a ((hc.block _ (by omega) (fun hk=>by rcases hk with hk | hk;omega;cases hk)).trans hbw) rfl⟩
 have HPM:Hid (∀ w',Chg (fun k=>k=B∨(Value.slice none 0 0).ownBlock=some k) W4 w'→PgM w' lp ln lcp L tp tn tcp T wp wn wcp M):=hid fun w' hc=>HP1.out.later (HB2.out.trans ((Chg.below (W:=W2) (B:=W2.heap.size) hb4 (by omega) hc (fun k hk=>by rcases hk with hk | hk;omega;cases hk)).mono HB2.out.size))
 have HBE:Hid (∀ w',Chg (fun k=>k=B∨(Value.slice none 0 0).ownBlock=some k) W4 w'→Below W.heap.size W w'):=hid fun w' hc=>HB1.out.trans ((HB2.out.trans ((Chg.below (W:=W2) (B:=W2.heap.size) hb4 (by omega) hc (fun k hk=>by rcases hk with hk | hk;omega;cases hk)).mono HB2.out.size)).mono HB1.out.size)
 have HW4:=hid hW4
 have H0:=hid (Wrote.same hwr4)
 have HBB:=hid hB
 clear hW4 hs4 hbw hb4 hwr4 hWB hx4
 rw [hB]
 clear hB
 go_upto_region 4 with (fail)
 rw [HW4.out]
 rw [HBB.out]
 obtain⟨hpx,x0⟩:=HC.out _ H0.out.chg
 obtain⟨a0,a1,a2,a3,a4,a5,a6,a7,a8,a9⟩:=z0i k od po lp ln lcp tp tn tcp wp wn wcp sk fr to q hpx
 clear hpx
 go_wp2_with fail
 obtain⟨v0,h0,o0⟩:=H0.out.wr
 refine (z6n B v0 ([]) nk 1 W4 h0 (by omega) (by omega) bk (by first | omega | (simp only [List.length_append,List.length_nil,z0r,HLL.out,HTT.out,HMM.out];omega))).mono ?_
 rintro e wk0 ⟨rfl,hw⟩
 have H1:=hid (H0.out.next o0 hw)
 clear hw h0 o0 x0 a0 a1 a2 a3 a4 a5 a6 a7 a8 a9
 obtain⟨hpx,x0⟩:=HC.out _ H1.out.chg
 obtain⟨a0,a1,a2,a3,a4,a5,a6,a7,a8,a9⟩:=z0i k od po lp ln lcp tp tn tcp wp wn wcp sk fr to q hpx
 clear hpx
 go_wp2_with fail
 obtain⟨v1,h1,o1⟩:=H1.out.wr
 refine (z6n B v1 ([]++le nk 1) nod 4 wk0 h1 (by omega) (by omega) bod (by first | omega | (simp only [List.length_append,List.length_nil,z0r,HLL.out,HTT.out,HMM.out];omega))).mono ?_
 rintro e wk1 ⟨rfl,hw⟩
 have H2:=hid (H1.out.next o1 hw)
 clear hw h1 o1 x0 a0 a1 a2 a3 a4 a5 a6 a7 a8 a9
 obtain⟨hpx,x0⟩:=HC.out _ H2.out.chg
 obtain⟨a0,a1,a2,a3,a4,a5,a6,a7,a8,a9⟩:=z0i k od po lp ln lcp tp tn tcp wp wn wcp sk fr to q hpx
 clear hpx
 go_wp2_with fail
 obtain⟨v2,h2,o2⟩:=H2.out.wr
 refine (z6n B v2 ([]++le nk 1++le nod 4) npo 1 wk1 h2 (by omega) (by omega) bpo (by first | omega | (simp only [List.length_append,List.length_nil,z0r,HLL.out,HTT.out,HMM.out];omega))).mono ?_
 rintro e wk2 ⟨rfl,hw⟩
 have H3:=hid (H2.out.next o2 hw)
 clear hw h2 o2 x0 a0 a1 a2 a3 a4 a5 a6 a7 a8 a9
 obtain⟨hpx,x0⟩:=HC.out _ H3.out.chg
 obtain⟨a0,a1,a2,a3,a4,a5,a6,a7,a8,a9⟩:=z0i k od po lp ln lcp tp tn tcp wp wn wcp sk fr to q hpx
 clear hpx
 go_wp2_with fail
 obtain⟨v3,h3,o3⟩:=H3.out.wr
 refine (wlist_ln B v3 ([]++le nk 1++le nod 4++le npo 1) lp ln lcp L wk2 h3 (fun w' hc=>(HPM.out w' (H3.out.chg.trans hc fun k hk hb=>by
  rcases hb with hb | hb
  · exact .inl hb
  · rcases o3 k hb with hb | hb
    · exact .inr hb
    · omega)).l) HOK.out.lines (by omega) (by first | omega | (simp only [List.length_append,List.length_nil,z0r,HLL.out,HTT.out,HMM.out];omega))).mono ?_
 rintro e wk3 ⟨rfl,hw⟩
 have H4:=hid (H3.out.next o3 hw)
 clear hw h3 o3 x0 a0 a1 a2 a3 a4 a5 a6 a7 a8 a9
 obtain⟨hpx,x0⟩:=HC.out _ H4.out.chg
 obtain⟨a0,a1,a2,a3,a4,a5,a6,a7,a8,a9⟩:=z0i k od po lp ln lcp tp tn tcp wp wn wcp sk fr to q hpx
 clear hpx
 go_wp2_with fail
 obtain⟨v4,h4,o4⟩:=H4.out.wr
 refine (wlist_tk B v4 ([]++le nk 1++le nod 4++le npo 1++le ln 1++L.flatMap lnB) tp tn tcp T wk3 h4 (fun w' hc=>(HPM.out w' (H4.out.chg.trans hc fun k hk hb=>by
  rcases hb with hb | hb
  · exact .inl hb
  · rcases o4 k hb with hb | hb
    · exact .inr hb
    · omega)).t) HOK.out.takes (by omega) (by first | omega | (simp only [List.length_append,List.length_nil,z0r,HLL.out,HTT.out,HMM.out];omega))).mono ?_
 rintro e wk4 ⟨rfl,hw⟩
 have H5:=hid (H4.out.next o4 hw)
 clear hw h4 o4 x0 a0 a1 a2 a3 a4 a5 a6 a7 a8 a9
 obtain⟨hpx,x0⟩:=HC.out _ H5.out.chg
 obtain⟨a0,a1,a2,a3,a4,a5,a6,a7,a8,a9⟩:=z0i k od po lp ln lcp tp tn tcp wp wn wcp sk fr to q hpx
 clear hpx
 go_wp2_with fail
 obtain⟨v5,h5,o5⟩:=H5.out.wr
 refine (wlist_ln B v5 ([]++le nk 1++le nod 4++le npo 1++le ln 1++L.flatMap lnB++le tn 1++T.flatMap tkBy) wp wn wcp M wk4 h5 (fun w' hc=>(HPM.out w' (H5.out.chg.trans hc fun k hk hb=>by
  rcases hb with hb | hb
  · exact .inl hb
  · rcases o5 k hb with hb | hb
    · exact .inr hb
    · omega)).o) HOK.out.owes (by omega) (by first | omega | (simp only [List.length_append,List.length_nil,z0r,HLL.out,HTT.out,HMM.out];omega))).mono ?_
 rintro e wk5 ⟨rfl,hw⟩
 have H6:=hid (H5.out.next o5 hw)
 clear hw h5 o5 x0 a0 a1 a2 a3 a4 a5 a6 a7 a8 a9
 obtain⟨hpx,x0⟩:=HC.out _ H6.out.chg
 obtain⟨a0,a1,a2,a3,a4,a5,a6,a7,a8,a9⟩:=z0i k od po lp ln lcp tp tn tcp wp wn wcp sk fr to q hpx
 clear hpx
 go_wp2_with fail
 obtain⟨v6,h6,o6⟩:=H6.out.wr
 refine (z6n B v6 ([]++le nk 1++le nod 4++le npo 1++le ln 1++L.flatMap lnB++le tn 1++T.flatMap tkBy++le wn 1++M.flatMap lnB) nsk 1 wk5 h6 (by omega) (by omega) bsk (by first | omega | (simp only [List.length_append,List.length_nil,z0r,HLL.out,HTT.out,HMM.out];omega))).mono ?_
 rintro e wk6 ⟨rfl,hw⟩
 have H7:=hid (H6.out.next o6 hw)
 clear hw h6 o6 x0 a0 a1 a2 a3 a4 a5 a6 a7 a8 a9
 obtain⟨hpx,x0⟩:=HC.out _ H7.out.chg
 obtain⟨a0,a1,a2,a3,a4,a5,a6,a7,a8,a9⟩:=z0i k od po lp ln lcp tp tn tcp wp wn wcp sk fr to q hpx
 clear hpx
 go_wp2_with fail
 obtain⟨v7,h7,o7⟩:=H7.out.wr
 refine (z6n B v7 ([]++le nk 1++le nod 4++le npo 1++le ln 1++L.flatMap lnB++le tn 1++T.flatMap tkBy++le wn 1++M.flatMap lnB++le nsk 1) nfr 1 wk6 h7 (by omega) (by omega) bfr (by first | omega | (simp only [List.length_append,List.length_nil,z0r,HLL.out,HTT.out,HMM.out];omega))).mono ?_
 rintro e wk7 ⟨rfl,hw⟩
 have H8:=hid (H7.out.next o7 hw)
 clear hw h7 o7 x0 a0 a1 a2 a3 a4 a5 a6 a7 a8 a9
 obtain⟨hpx,x0⟩:=HC.out _ H8.out.chg
 obtain⟨a0,a1,a2,a3,a4,a5,a6,a7,a8,a9⟩:=z0i k od po lp ln lcp tp tn tcp wp wn wcp sk fr to q hpx
 clear hpx
 go_wp2_with fail
 obtain⟨v8,h8,o8⟩:=H8.out.wr
 refine (z6n B v8 ([]++le nk 1++le nod 4++le npo 1++le ln 1++L.flatMap lnB++le tn 1++T.flatMap tkBy++le wn 1++M.flatMap lnB++le nsk 1++le nfr 1) nto 1 wk7 h8 (by omega) (by omega) bto (by first | omega | (simp only [List.length_append,List.length_nil,z0r,HLL.out,HTT.out,HMM.out];omega))).mono ?_
 rintro e wk8 ⟨rfl,hw⟩
 have H9:=hid (H8.out.next o8 hw)
 clear hw h8 o8 x0 a0 a1 a2 a3 a4 a5 a6 a7 a8 a9
 obtain⟨hpx,x0⟩:=HC.out _ H9.out.chg
 obtain⟨a0,a1,a2,a3,a4,a5,a6,a7,a8,a9⟩:=z0i k od po lp ln lcp tp tn tcp wp wn wcp sk fr to q hpx
 clear hpx
 go_wp2_with fail
 obtain⟨v9,h9,o9⟩:=H9.out.wr
 refine (q0s B v9 ([]++le nk 1++le nod 4++le npo 1++le ln 1++L.flatMap lnB++le tn 1++T.flatMap tkBy++le wn 1++M.flatMap lnB++le nsk 1++le nfr 1++le nto 1) q wk8 h9 HQ.out (by first | omega | (simp only [List.length_append,List.length_nil,z0r,HLL.out,HTT.out,HMM.out];omega))).mono ?_
 rintro e wk9 ⟨rfl,hw⟩
 have H10:=hid (H9.out.next o9 hw)
 clear hw h9 o9 x0 a0 a1 a2 a3 a4 a5 a6 a7 a8 a9
 obtain⟨hpx,x0⟩:=HC.out _ H10.out.chg
 obtain⟨a0,a1,a2,a3,a4,a5,a6,a7,a8,a9⟩:=z0i k od po lp ln lcp tp tn tcp wp wn wcp sk fr to q hpx
 clear hpx
 go_wp2_with fail
 obtain⟨v10,h10,o10⟩:=H10.out.wr
 have hby:([]++le nk 1++le nod 4++le npo 1++le ln 1++L.flatMap lnB++le tn 1++T.flatMap tkBy++le wn 1++M.flatMap lnB++le nsk 1++le nfr 1++le nto 1++le (u64 q) 8:List Nat)=z2f ⟨k,od,po,L,T,M,sk,fr,to,q⟩:=by
  rw [HBY.out]
  simp only [List.append_assoc,List.nil_append]
 rw [hby] at h10
 refine (done_any B v10 512 (0,z2f ⟨k,od,po,L,T,M,sk,fr,to,q⟩) wk9 h10 (by have:=HBN.out;dsimp only;omega)).mono ?_
 rintro e w11 ⟨hb11,hd⟩
 rw [if_pos rfl] at hd
 obtain⟨vv,rfl,hrow,hown⟩:=hd
 obtain⟨pp,cc,hv,hcm,hsl,hbk⟩:=hrow.sl
 subst hv
 have hbe:=HBE.out _ H10.out.chg
 have HF:Hid (q0c W ⟨k,od,po,L,T,M,sk,fr,to,q⟩ (.returned (.tuple #[.slice pp (z2f ⟨k,od,po,L,T,M,sk,fr,to,q⟩).length cc,.int .i64 0])) w11):=hid ⟨hbe.trans (hb11.mono hbe.size),by
  rw [if_pos HG.out]
  exact⟨pp,cc,rfl,hsl,hcm,fun a ha=>Nat.le_trans hbe.size (hown _ (hbk a ha))⟩⟩
 clear hb11 hrow hown hcm hsl hbk h10 o10 x0 a0 a1 a2 a3 a4 a5 a6 a7 a8 a9 hby hbe
 generalize z2f ⟨k,od,po,L,T,M,sk,fr,to,q⟩=bb at *
 go_wp2_with fail
 go_ret2
 exact HF.out
theorem encode_p (k od po:Int) (lp:Option Addr) (ln lcp:Nat) (tp:Option Addr) (tn tcp:Nat) (wp:Option Addr) (wn wcp:Nat) (sk fr to q:Int) (L:List Ln) (T:List Tk) (M:List Ln) (W:World) (hw:Words W) (hP:PgM W lp ln lcp L tp tn tcp T wp wn wcp M) (hok:Pgok ⟨k,od,po,L,T,M,sk,fr,to,q⟩) (h1:ln≤400∧tn≤400∧wn≤400) :
 Calls Tryz.prog 127 #[.agg #[.int .u8 k,.int .u32 od,.int .u8 po,.slice lp ln lcp,.slice tp tn tcp,.slice wp wn wcp,.int .u8 sk,.int .u8 fr,.int .u8 to,.int .i64 q]] W (q0c W ⟨k,od,po,L,T,M,sk,fr,to,q⟩):=by
 cases hg:z0w 4 4 ⟨k,od,po,L,T,M,sk,fr,to,q⟩ with
 | false=>exact encode_no k od po lp ln lcp tp tn tcp wp wn wcp sk fr to q L T M W hw hP hok h1 hg
 | true=>exact encode_yes k od po lp ln lcp tp tn tcp wp wn wcp sk fr to q L T M W hw hP hok h1 hg
structure Rx where
 k:Int
 sg:Int
 tx:Int
 st:Int
 cp:Bool
 key:K
 d:Int
 o:Int
 pg:Pg
deriving DecidableEq
structure Rxok (X:Rx):Prop where
 k:0≤X.k∧X.k≤255
 sg:0≤X.sg∧X.sg≤4294967295
 tx:0≤X.tx∧X.tx≤4294967295
 st:0≤X.st∧X.st≤255
 key:Kok X.key
 d:In64 X.d
 o:0≤X.o∧X.o≤255
 pg:Pgok X.pg
def kS (k:Int):Bool:=k==1 || k==2 || k==8 || k==9
def kT (k:Int):Bool:=k==2 || k==3 || k==4 || k==5 || k==6 || k==7
def kB (k:Int):Bool:=k==2
def kA (k:Int):Bool:=k==3 || k==6
def kO (k:Int):Bool:=k==9
def kP (k:Int):Bool:=k==1
def kOk (k:Int):Bool:=k==1 || k==2 || k==3 || k==4 || k==5 || k==6 || k==7 || k==8 || k==9
def z7a (h:Bool) (st:Int) (cp:Bool):Bool:=if h then decide (st<5) else (st==0 && !cp)
def addB (h:Bool) (key:K) (d:Int):Bool:=if h then (z3x 4 4 key.1 key.2.1 key.2.2 && d != 0) && d != -9223372036854775808 else (decide (key=(0,0,0)) && d==0)
def outB (h:Bool) (o:Int):Bool:=if h then (o==1 || o==2) else o==0
def z7o (h:Bool) (pg:Pg):Bool:=if h then z0w 4 4 pg else decide (pg=noP)
def z0v (X:Rx):Bool:=kOk X.k && (kS X.k==(X.sg != 0)) && (kT X.k==(X.tx != 0)) && z7a (kB X.k) X.st X.cp && addB (kA X.k) X.key X.d && outB (kO X.k) X.o && z7o (kP X.k) X.pg
def bitN (b:Bool):Nat:=if b then 1 else 0
def keyB (k:K):List Nat:=[k.1.toNat,k.2.1.toNat,k.2.2.toNat]
def z0o (X:Rx):List Nat:=le X.k.toNat 1++((if kS X.k then le X.sg.toNat 4 else [])++((if kT X.k then le X.tx.toNat 4 else [])++((if kB X.k then le X.st.toNat 1 ++ [bitN X.cp] else [])++((if kA X.k then keyB X.key++le (u64 X.d) 8 else [])++((if kO X.k then le X.o.toNat 1 else [])++(if kP X.k then le (z2f X.pg).length 2++z2f X.pg else []))))))
theorem z4s {k:Int} (h:kOk k=true):k=1∨k=2∨k=3∨k=4∨k=5∨k=6∨k=7∨k=8∨k=9:=by
 simp only [kOk,Bool.or_eq_true,beq_iff_eq] at h
 omega
theorem not_kOk {k:Int} (h:kOk k=false):k≠1∧k≠2∧k≠3∧k≠4∧k≠5∧k≠6∧k≠7∧k≠8∧k≠9:=by
 simp only [kOk,Bool.or_eq_false_iff,beq_eq_false_iff_ne] at h
 omega
theorem z6u {X:Rx} (h:z0v X=true):kOk X.k=true:=by
 unfold z0v at h
 simp only [Bool.and_eq_true] at h
 exact h.1.1.1.1.1.1
theorem z5u {X:Rx} (h:z0v X=true):z7o (kP X.k) X.pg=true:=by
 unfold z0v at h
 simp only [Bool.and_eq_true] at h
 exact h.2
theorem q0m {P:Pg} (h:z0w 4 4 P=true):(z2f P).length≤400:=by
 obtain⟨s1,s2,s3⟩:=good_small h
 unfold z2f lnsB tksB
 simp only [List.length_append,z0r,z6e,z6z]
 omega
def lenK (k:Int):Nat:=if k=1 then 7 else if k=2 then 11 else if k=3∨k=6 then 16 else if k=9 then 6 else 5
theorem bytes_len {X:Rx} (h:kOk X.k=true):(z0o X).length=lenK X.k+if X.k=1 then (z2f X.pg).length else 0:=by
 unfold z0o
 rcases z4s h with h | h | h | h | h | h | h | h | h <;> rw [h] <;> simp [kS,kT,kB,kA,kO,kP,lenK,z0r,keyB] <;> omega
structure Rv where
 k:Int
 sg:Int
 tx:Int
 st:Int
 cp:Bool
 ka:Int
 kb:Int
 kc:Int
 d:Int
 o:Int
 pk:Int
 od:Int
 po:Int
 lp:Option Addr
 ln:Nat
 lcp:Nat
 tp:Option Addr
 tn:Nat
 tcp:Nat
 wp:Option Addr
 wn:Nat
 wcp:Nat
 sk:Int
 fr:Int
 to:Int
 q:Int
def pcs (r:Rv):Array Value:=#[.int .u8 r.pk,.int .u32 r.od,.int .u8 r.po,.slice r.lp r.ln r.lcp,.slice r.tp r.tn r.tcp,.slice r.wp r.wn r.wcp,.int .u8 r.sk,.int .u8 r.fr,.int .u8 r.to,.int .i64 r.q]
def rcs (r:Rv):Array Value:=#[.int .u8 r.k,.int .u32 r.sg,.int .u32 r.tx,.int .u8 r.st,.bool r.cp,.int .u8 r.ka,.int .u8 r.kb,.int .u8 r.kc,.int .i64 r.d,.int .u8 r.o,.int .u8 r.pk,.int .u32 r.od,.int .u8 r.po,.slice r.lp r.ln r.lcp,.slice r.tp r.tn r.tcp,.slice r.wp r.wn r.wcp,.int .u8 r.sk,.int .u8 r.fr,.int .u8 r.to,.int .i64 r.q]
def rz:Rv:=⟨0,0,0,0,false,0,0,0,0,0,0,0,0,none,0,0,none,0,0,none,0,0,0,0,0,0⟩
def Rv.pg (r:Rv) (L:List Ln) (T:List Tk) (M:List Ln):Pg:=⟨r.pk,r.od,r.po,L,T,M,r.sk,r.fr,r.to,r.q⟩
def Rv.x (r:Rv) (L:List Ln) (T:List Tk) (M:List Ln):Rx:=⟨r.k,r.sg,r.tx,r.st,r.cp,(r.ka,r.kb,r.kc),r.d,r.o,r.pg L T M⟩
abbrev RvM (w:World) (r:Rv) (L:List Ln) (T:List Tk) (M:List Ln):Prop:=PgM w r.lp r.ln r.lcp L r.tp r.tn r.tcp T r.wp r.wn r.wcp M
theorem rcs_one (r:Rv):(rcs r).all (·.oneCell')=true:=by simp [rcs,Value.oneCell']
def RB (w:World) (B:Nat) (r:Rv):Prop:=w.heap[B]?=some (.cells (rcs r) 40 (0,0))
theorem RB.later {w w':World} {B:Nat} {r:Rv} (h:RB w B r) (hb:Below w.heap.size w w'):RB w' B r:=z0b h hb
theorem RB.new (w:World) (r:Rv):RB (w.alloc (.cells (rcs r) 40)) w.heap.size r:=z0c _ _
theorem RB.lt {w:World} {B:Nat} {r:Rv} (h:RB w B r):B<w.heap.size:=z0k h
theorem RB.at {w:World} {B:Nat} {r:Rv} (h:RB w B r):w.cell? ⟨B,0,none⟩=some (.int .u8 r.k)∧w.cell? ⟨B,1,none⟩=some (.int .u32 r.sg)∧w.cell? ⟨B,2,none⟩=some (.int .u32 r.tx)∧w.cell? ⟨B,3,none⟩=some (.int .u8 r.st)∧w.cell? ⟨B,4,none⟩=some (.bool r.cp)∧w.cell? ⟨B,5,none⟩=some (.int .u8 r.ka)∧w.cell? ⟨B,6,none⟩=some (.int .u8 r.kb)∧w.cell? ⟨B,7,none⟩=some (.int .u8 r.kc)∧w.cell? ⟨B,8,none⟩=some (.int .i64 r.d)∧w.cell? ⟨B,9,none⟩=some (.int .u8 r.o) :=
 ⟨z0a h rfl,z0a h rfl,z0a h rfl,z0a h rfl,z0a h rfl,z0a h rfl,z0a h rfl,z0a h rfl,z0a h rfl,z0a h rfl⟩
theorem RB.put {w:World} {B:Nat} {r:Rv} (h:RB w B r) (j:Nat) (v:Value) (r':Rv) (he:(rcs r).setIfInBounds j v=rcs r'):RB (w.setCell ⟨B,j,none⟩ v) B r':=by
 have:=z0p j v h
 rw [he] at this
 exact this
theorem RB.chg {S:Nat→Prop} {w w':World} {B:Nat} {r:Rv} (h:RB w B r) (hc:Chg S w w') (hs:¬ S B):RB w' B r:=(hc.block B (z0k h) hs).trans h
theorem RB.set {w:World} {B:Nat} {r:Rv} (h:RB w B r) (r':Rv):RB (w.setRow B (rcs r')) B r':=setRow_heap _ _ _ _ _ _ h
theorem z0n {ops:Array Oper} {rest:List Oper} {a:Act} {w:World} {Q:Exit→Act→World→Prop} {dst:Option Tmp} {x:Operand} {ty:TypeId} {pos:String} {after:Array Edge} {B:Nat} {r:Rv} (hC:RB w B r) (hx:a.eval x=.pointer (some ⟨B,0,none⟩))
 (h:wpList Tryz.prog ops Q rest (a.put dst (.agg (rcs r))) w):wpList Tryz.prog ops Q (Oper.mk dst (.load 40 x) ty pos after none::rest) a w :=
 wpList_load_row rfl 40 x rfl B hx 40 (rcs r) (0,0) _ hC Tryz.underlying40 rfl (by kernel_rfl) h
theorem z0d {ops:Array Oper} {rest:List Oper} {a:Act} {w:World} {Q:Exit→Act→World→Prop} {dst:Option Tmp} {x:Operand} {ty:TypeId} {pos:String} {after:Array Edge} {gd:Option (Nat × Bool)} {B:Nat} {r:Rv} (hC:RB w B r) (hw:Region.wanted (Oper.mk dst (.load 40 x) ty pos after gd) (yielded ops a.tmps)=true) (hx:a.eval x=.pointer (some ⟨B,0,none⟩))
 (h:wpList Tryz.prog ops Q rest (a.put dst (.agg (rcs r))) w):wpList Tryz.prog ops Q (Oper.mk dst (.load 40 x) ty pos after gd::rest) a w :=
 wpList_step fun K hK=>by
  rw [if_pos hw]
  exact wp_load_row 40 x rfl B hx 40 (rcs r) (0,0) _ hC Tryz.underlying40 rfl (by kernel_rfl) (hK _ _ h)
theorem z7p (r:Rv):∀ j,j<(pcs r).size→(rcs r)[10+j]?=(pcs r)[j]?:=by
 intro j hj
 have h10:j<10:=hj
 rcases (by omega:j=0∨j=1∨j=2∨j=3∨j=4∨j=5∨j=6∨j=7∨j=8∨j=9) with rfl | rfl | rfl | rfl | rfl | rfl | rfl | rfl | rfl | rfl <;> rfl
theorem z2r {ops:Array Oper} {rest:List Oper} {a:Act} {w:World} {Q:Exit→Act→World→Prop} {dst:Option Tmp} {x:Operand} {ty:TypeId} {pos:String} {after:Array Edge} {B:Nat} {r:Rv} (hC:RB w B r) (hx:a.eval x=.pointer (some ⟨B,10,none⟩))
 (h:wpList Tryz.prog ops Q rest (a.put dst (.agg (pcs r))) w):wpList Tryz.prog ops Q (Oper.mk dst (.load 38 x) ty pos after none::rest) a w :=
 wpList_load_part rfl 38 x rfl B 10 hx 40 (rcs r) (pcs r) (0,0) _ hC (z7p r) Tryz.underlying38 rfl (by kernel_rfl) h
theorem z0e {ops:Array Oper} {rest:List Oper} {a:Act} {w:World} {Q:Exit→Act→World→Prop} {dst:Option Tmp} {x:Operand} {ty:TypeId} {pos:String} {after:Array Edge} {gd:Option (Nat × Bool)} {B:Nat} {r:Rv} (hC:RB w B r) (hw:Region.wanted (Oper.mk dst (.load 38 x) ty pos after gd) (yielded ops a.tmps)=true) (hx:a.eval x=.pointer (some ⟨B,10,none⟩))
 (h:wpList Tryz.prog ops Q rest (a.put dst (.agg (pcs r))) w):wpList Tryz.prog ops Q (Oper.mk dst (.load 38 x) ty pos after gd::rest) a w :=
 wpList_step fun K hK=>by
  rw [if_pos hw]
  unfold Oper.wp execOp
  simp only [hx,Instr.loadAt,Instr.sureAddr,Sem.run_bind,Sem.run_pure,Result.andThen_ok,z3t w B 10 40 38 (rcs r) (pcs r) (0,0) _ hC (z7p r) Tryz.underlying38 rfl (by kernel_rfl)]
  exact hK _ _ h
theorem z1c (r':Rv) {ops:Array Oper} {rest:List Oper} {a:Act} {w:World} {Q:Exit→Act→World→Prop} {dst:Option Tmp} {x y:Operand} {ty:TypeId} {pos:String} {after:Array Edge} {B:Nat} {r:Rv} (hB:RB w B r)
 (hx:a.eval x=.pointer (some ⟨B,0,none⟩)) (hy:a.eval y=.agg (rcs r'))
 (h:wpList Tryz.prog ops Q rest (a.put dst undef) (w.setRow B (rcs r'))):wpList Tryz.prog ops Q (Oper.mk dst (.store 40 x y) ty pos after none::rest) a w :=
 wpList_store_row rfl 40 x y rfl B (rcs r') hx hy 40 (rcs r) hB (by kernel_rfl) rfl (rcs_one r') h
def Rv.withP (r p:Rv):Rv:={ r with pk:=p.pk,od:=p.od,po:=p.po,lp:=p.lp,ln:=p.ln,lcp:=p.lcp,tp:=p.tp,tn:=p.tn,tcp:=p.tcp,wp:=p.wp,wn:=p.wn,wcp:=p.wcp,sk:=p.sk,fr:=p.fr,to:=p.to,q:=p.q }
theorem put_prog (r p:Rv):z8k (rcs r) 10 (pcs p).toList=rcs (r.withP p):=by simp [z8k,rcs,pcs,Rv.withP]
theorem pcs_one (r:Rv):(pcs r).all (·.oneCell')=true:=by simp [pcs,Value.oneCell']
theorem wpList_store_pr (p:Rv) {ops:Array Oper} {rest:List Oper} {a:Act} {w:World} {Q:Exit→Act→World→Prop} {dst:Option Tmp} {x y:Operand} {ty:TypeId} {pos:String} {after:Array Edge} {B:Nat} {r:Rv} (hB:RB w B r)
 (hx:a.eval x=.pointer (some ⟨B,10,none⟩)) (hy:a.eval y=.agg (pcs p))
 (h:wpList Tryz.prog ops Q rest (a.put dst undef) (w.setRow B (rcs (r.withP p)))):wpList Tryz.prog ops Q (Oper.mk dst (.store 38 x y) ty pos after none::rest) a w :=
 wpList_store_part rfl 38 x y rfl B 10 (pcs p) hx hy 40 (rcs r) hB (by kernel_rfl) (by show 10+10≤20;omega) (pcs_one p) (by rw [put_prog];exact h)
def ptc (k:Int):Array Value:=#[.bool (kS k),.bool (kT k),.bool (kB k),.bool (kA k),.bool (kO k),.bool (kP k)]
abbrev pz:Array Value:=#[.bool false,.bool false,.bool false,.bool false,.bool false,.bool false]
theorem z0q (C:Array Value) (hC:C.size=6) (h1:C.all (·.oneCell')=true) {ops:Array Oper} {rest:List Oper} {a:Act} {w:World} {Q:Exit→Act→World→Prop} {dst:Option Tmp} {x y:Operand} {ty:TypeId} {pos:String} {after:Array Edge} {B:Nat} (hB:w.heap[B]?=some (.cells pz 97 (0,0)))
 (hx:a.eval x=.pointer (some ⟨B,0,none⟩)) (hy:a.eval y=.agg C)
 (h:wpList Tryz.prog ops Q rest (a.put dst undef) (w.setRow B C)):wpList Tryz.prog ops Q (Oper.mk dst (.store 97 x y) ty pos after none::rest) a w :=
 wpList_store_row rfl 97 x y rfl B C hx hy 97 pz hB (by rw [hC];kernel_rfl) (by rw [hC];rfl) h1 h
theorem z2h {fn:Func} (h:fn.results=#[.cell 2 97,.tmp 3]) (tmps:Array Value) (W:World) (R:Nat) (C:Array Value) (v:Value) (hp:tmps.getD 2 undef=.pointer (some ⟨R,0,none⟩)) (hv:tmps.getD 3 undef=v)
 (hB:W.heap[R]?=some (.cells C 97 (0,0))) (hC:C.size=6):(results fn tmps).run Tryz.prog W=.ok (.tuple #[.agg C,v]) W:=by
 rw [results_cell_tmp h,hp,hv]
 simp [asAddr,Result.andThen,run_loadVar_row W R 97 97 C (0,0) _ hB Tryz.underlying97 rfl (by rw [hC];kernel_rfl)]
def z2e (W:World) (k:Int) (e:Ending) (w':World):Prop:=e=.returned (.tuple #[.agg (ptc k),.bool (kOk k)])∧Below W.heap.size W w'
theorem z2u (k:Int) (W:World):Calls Tryz.prog 51 #[.int .u8 k] W (z2e W k):=by
 obtain⟨R,hR⟩:∃ R,W.heap.size=R:=⟨_,rfl⟩
 obtain⟨W0,hW0,hr0,hb0⟩:∃ W0,W.alloc (.cells pz 97)=W0∧W0.heap[R]?=some (.cells pz 97 (0,0))∧Below W.heap.size W W0:=⟨_,rfl,by rw [← hR];exact z0c W _,(Below.refl _ _).alloc (Nat.le_refl _) _⟩
 have HRE:=hid hR
 have HW0:=hid hW0
 have HR0:=hid hr0
 have HB0:=hid hb0
 have HLE:Hid (W.heap.size≤R):=hid (by omega)
 clear hR hW0 hr0 hb0
 by_cases h1:k=1
 case pos =>
  subst h1
  have HF:=hid (setRow_heap W0 R _ #[.bool true,.bool false,.bool false,.bool false,.bool false,.bool true] _ _ HR0.out)
  have HS6:Hid ((#[.bool true,.bool false,.bool false,.bool false,.bool false,.bool true]:Array Value).size=6):=hid rfl
  have HA6:Hid ((#[.bool true,.bool false,.bool false,.bool false,.bool false,.bool true]:Array Value).all (·.oneCell')=true):=hid (by simp [Value.oneCell'])
  have HG:Hid (z2e W 1 (.returned (.tuple #[.agg #[.bool true,.bool false,.bool false,.bool false,.bool false,.bool true],.bool true])) (W0.setRow R #[.bool true,.bool false,.bool false,.bool false,.bool false,.bool true])):=hid ⟨rfl,below_setRow HB0.out HLE.out #[.bool true,.bool false,.bool false,.bool false,.bool false,.bool true]⟩
  go_enter Tryz.func51,Tryz.ntmps51
  go_upto_region 1 with (fail)
  rw [HW0.out,HRE.out]
  go_wp2_with ((with_reducible refine z0q #[.bool true,.bool false,.bool false,.bool false,.bool false,.bool true] HS6.out HA6.out HR0.out ?_ ?_ ?_);rfl;rfl)
  (try simp only [Exit.inBlock,Exit.then])
  refine bodyPost_ret (v:=.tuple #[.agg #[.bool true,.bool false,.bool false,.bool false,.bool false,.bool true],.bool true]) ?_ rfl HG.out
  exact z2h rfl _ _ R #[.bool true,.bool false,.bool false,.bool false,.bool false,.bool true] _ rfl rfl HF.out rfl
 by_cases h2:k=2
 case pos =>
  subst h2
  clear h1
  have HF:=hid (setRow_heap W0 R _ #[.bool true,.bool true,.bool true,.bool false,.bool false,.bool false] _ _ HR0.out)
  have HS6:Hid ((#[.bool true,.bool true,.bool true,.bool false,.bool false,.bool false]:Array Value).size=6):=hid rfl
  have HA6:Hid ((#[.bool true,.bool true,.bool true,.bool false,.bool false,.bool false]:Array Value).all (·.oneCell')=true):=hid (by simp [Value.oneCell'])
  have HG:Hid (z2e W 2 (.returned (.tuple #[.agg #[.bool true,.bool true,.bool true,.bool false,.bool false,.bool false],.bool true])) (W0.setRow R #[.bool true,.bool true,.bool true,.bool false,.bool false,.bool false])):=hid ⟨rfl,below_setRow HB0.out HLE.out #[.bool true,.bool true,.bool true,.bool false,.bool false,.bool false]⟩
  go_enter Tryz.func51,Tryz.ntmps51
  go_upto_region 1 with (fail)
  rw [HW0.out,HRE.out]
  go_wp2_with ((with_reducible refine z0q #[.bool true,.bool true,.bool true,.bool false,.bool false,.bool false] HS6.out HA6.out HR0.out ?_ ?_ ?_);rfl;rfl)
  (try simp only [Exit.inBlock,Exit.then])
  refine bodyPost_ret (v:=.tuple #[.agg #[.bool true,.bool true,.bool true,.bool false,.bool false,.bool false],.bool true]) ?_ rfl HG.out
  exact z2h rfl _ _ R #[.bool true,.bool true,.bool true,.bool false,.bool false,.bool false] _ rfl rfl HF.out rfl
 by_cases h3:k=3
 case pos =>
  subst h3
  clear h1
  clear h2
  have HF:=hid (setRow_heap W0 R _ #[.bool false,.bool true,.bool false,.bool true,.bool false,.bool false] _ _ HR0.out)
  have HS6:Hid ((#[.bool false,.bool true,.bool false,.bool true,.bool false,.bool false]:Array Value).size=6):=hid rfl
  have HA6:Hid ((#[.bool false,.bool true,.bool false,.bool true,.bool false,.bool false]:Array Value).all (·.oneCell')=true):=hid (by simp [Value.oneCell'])
  have HG:Hid (z2e W 3 (.returned (.tuple #[.agg #[.bool false,.bool true,.bool false,.bool true,.bool false,.bool false],.bool true])) (W0.setRow R #[.bool false,.bool true,.bool false,.bool true,.bool false,.bool false])):=hid ⟨rfl,below_setRow HB0.out HLE.out #[.bool false,.bool true,.bool false,.bool true,.bool false,.bool false]⟩
  go_enter Tryz.func51,Tryz.ntmps51
  go_upto_region 1 with (fail)
  rw [HW0.out,HRE.out]
  go_wp2_with ((with_reducible refine z0q #[.bool false,.bool true,.bool false,.bool true,.bool false,.bool false] HS6.out HA6.out HR0.out ?_ ?_ ?_);rfl;rfl)
  (try simp only [Exit.inBlock,Exit.then])
  refine bodyPost_ret (v:=.tuple #[.agg #[.bool false,.bool true,.bool false,.bool true,.bool false,.bool false],.bool true]) ?_ rfl HG.out
  exact z2h rfl _ _ R #[.bool false,.bool true,.bool false,.bool true,.bool false,.bool false] _ rfl rfl HF.out rfl
 by_cases h4:k=4
 case pos =>
  subst h4
  clear h1
  clear h2
  clear h3
  have HF:=hid (setRow_heap W0 R _ #[.bool false,.bool true,.bool false,.bool false,.bool false,.bool false] _ _ HR0.out)
  have HS6:Hid ((#[.bool false,.bool true,.bool false,.bool false,.bool false,.bool false]:Array Value).size=6):=hid rfl
  have HA6:Hid ((#[.bool false,.bool true,.bool false,.bool false,.bool false,.bool false]:Array Value).all (·.oneCell')=true):=hid (by simp [Value.oneCell'])
  have HG:Hid (z2e W 4 (.returned (.tuple #[.agg #[.bool false,.bool true,.bool false,.bool false,.bool false,.bool false],.bool true])) (W0.setRow R #[.bool false,.bool true,.bool false,.bool false,.bool false,.bool false])):=hid ⟨rfl,below_setRow HB0.out HLE.out #[.bool false,.bool true,.bool false,.bool false,.bool false,.bool false]⟩
  go_enter Tryz.func51,Tryz.ntmps51
  go_upto_region 1 with (fail)
  rw [HW0.out,HRE.out]
  go_wp2_with ((with_reducible refine z0q #[.bool false,.bool true,.bool false,.bool false,.bool false,.bool false] HS6.out HA6.out HR0.out ?_ ?_ ?_);rfl;rfl)
  (try simp only [Exit.inBlock,Exit.then])
  refine bodyPost_ret (v:=.tuple #[.agg #[.bool false,.bool true,.bool false,.bool false,.bool false,.bool false],.bool true]) ?_ rfl HG.out
  exact z2h rfl _ _ R #[.bool false,.bool true,.bool false,.bool false,.bool false,.bool false] _ rfl rfl HF.out rfl
 by_cases h5:k=5
 case pos =>
  subst h5
  clear h1
  clear h2
  clear h3
  clear h4
  have HF:=hid (setRow_heap W0 R _ #[.bool false,.bool true,.bool false,.bool false,.bool false,.bool false] _ _ HR0.out)
  have HS6:Hid ((#[.bool false,.bool true,.bool false,.bool false,.bool false,.bool false]:Array Value).size=6):=hid rfl
  have HA6:Hid ((#[.bool false,.bool true,.bool false,.bool false,.bool false,.bool false]:Array Value).all (·.oneCell')=true):=hid (by simp [Value.oneCell'])
  have HG:Hid (z2e W 5 (.returned (.tuple #[.agg #[.bool false,.bool true,.bool false,.bool false,.bool false,.bool false],.bool true])) (W0.setRow R #[.bool false,.bool true,.bool false,.bool false,.bool false,.bool false])):=hid ⟨rfl,below_setRow HB0.out HLE.out #[.bool false,.bool true,.bool false,.bool false,.bool false,.bool false]⟩
  go_enter Tryz.func51,Tryz.ntmps51
  go_upto_region 1 with (fail)
  rw [HW0.out,HRE.out]
  go_wp2_with ((with_reducible refine z0q #[.bool false,.bool true,.bool false,.bool false,.bool false,.bool false] HS6.out HA6.out HR0.out ?_ ?_ ?_);rfl;rfl)
  (try simp only [Exit.inBlock,Exit.then])
  refine bodyPost_ret (v:=.tuple #[.agg #[.bool false,.bool true,.bool false,.bool false,.bool false,.bool false],.bool true]) ?_ rfl HG.out
  exact z2h rfl _ _ R #[.bool false,.bool true,.bool false,.bool false,.bool false,.bool false] _ rfl rfl HF.out rfl
 by_cases h6:k=6
 case pos =>
  subst h6
  clear h1
  clear h2
  clear h3
  clear h4
  clear h5
  have HF:=hid (setRow_heap W0 R _ #[.bool false,.bool true,.bool false,.bool true,.bool false,.bool false] _ _ HR0.out)
  have HS6:Hid ((#[.bool false,.bool true,.bool false,.bool true,.bool false,.bool false]:Array Value).size=6):=hid rfl
  have HA6:Hid ((#[.bool false,.bool true,.bool false,.bool true,.bool false,.bool false]:Array Value).all (·.oneCell')=true):=hid (by simp [Value.oneCell'])
  have HG:Hid (z2e W 6 (.returned (.tuple #[.agg #[.bool false,.bool true,.bool false,.bool true,.bool false,.bool false],.bool true])) (W0.setRow R #[.bool false,.bool true,.bool false,.bool true,.bool false,.bool false])):=hid ⟨rfl,below_setRow HB0.out HLE.out #[.bool false,.bool true,.bool false,.bool true,.bool false,.bool false]⟩
  go_enter Tryz.func51,Tryz.ntmps51
  go_upto_region 1 with (fail)
  rw [HW0.out,HRE.out]
  go_wp2_with ((with_reducible refine z0q #[.bool false,.bool true,.bool false,.bool true,.bool false,.bool false] HS6.out HA6.out HR0.out ?_ ?_ ?_);rfl;rfl)
  (try simp only [Exit.inBlock,Exit.then])
  refine bodyPost_ret (v:=.tuple #[.agg #[.bool false,.bool true,.bool false,.bool true,.bool false,.bool false],.bool true]) ?_ rfl HG.out
  exact z2h rfl _ _ R #[.bool false,.bool true,.bool false,.bool true,.bool false,.bool false] _ rfl rfl HF.out rfl
 by_cases h7:k=7
 case pos =>
  subst h7
  clear h1
  clear h2
  clear h3
  clear h4
  clear h5
  clear h6
  have HF:=hid (setRow_heap W0 R _ #[.bool false,.bool true,.bool false,.bool false,.bool false,.bool false] _ _ HR0.out)
  have HS6:Hid ((#[.bool false,.bool true,.bool false,.bool false,.bool false,.bool false]:Array Value).size=6):=hid rfl
  have HA6:Hid ((#[.bool false,.bool true,.bool false,.bool false,.bool false,.bool false]:Array Value).all (·.oneCell')=true):=hid (by simp [Value.oneCell'])
  have HG:Hid (z2e W 7 (.returned (.tuple #[.agg #[.bool false,.bool true,.bool false,.bool false,.bool false,.bool false],.bool true])) (W0.setRow R #[.bool false,.bool true,.bool false,.bool false,.bool false,.bool false])):=hid ⟨rfl,below_setRow HB0.out HLE.out #[.bool false,.bool true,.bool false,.bool false,.bool false,.bool false]⟩
  go_enter Tryz.func51,Tryz.ntmps51
  go_upto_region 1 with (fail)
  rw [HW0.out,HRE.out]
  go_wp2_with ((with_reducible refine z0q #[.bool false,.bool true,.bool false,.bool false,.bool false,.bool false] HS6.out HA6.out HR0.out ?_ ?_ ?_);rfl;rfl)
  (try simp only [Exit.inBlock,Exit.then])
  refine bodyPost_ret (v:=.tuple #[.agg #[.bool false,.bool true,.bool false,.bool false,.bool false,.bool false],.bool true]) ?_ rfl HG.out
  exact z2h rfl _ _ R #[.bool false,.bool true,.bool false,.bool false,.bool false,.bool false] _ rfl rfl HF.out rfl
 by_cases h8:k=8
 case pos =>
  subst h8
  clear h1
  clear h2
  clear h3
  clear h4
  clear h5
  clear h6
  clear h7
  have HF:=hid (setRow_heap W0 R _ #[.bool true,.bool false,.bool false,.bool false,.bool false,.bool false] _ _ HR0.out)
  have HS6:Hid ((#[.bool true,.bool false,.bool false,.bool false,.bool false,.bool false]:Array Value).size=6):=hid rfl
  have HA6:Hid ((#[.bool true,.bool false,.bool false,.bool false,.bool false,.bool false]:Array Value).all (·.oneCell')=true):=hid (by simp [Value.oneCell'])
  have HG:Hid (z2e W 8 (.returned (.tuple #[.agg #[.bool true,.bool false,.bool false,.bool false,.bool false,.bool false],.bool true])) (W0.setRow R #[.bool true,.bool false,.bool false,.bool false,.bool false,.bool false])):=hid ⟨rfl,below_setRow HB0.out HLE.out #[.bool true,.bool false,.bool false,.bool false,.bool false,.bool false]⟩
  go_enter Tryz.func51,Tryz.ntmps51
  go_upto_region 1 with (fail)
  rw [HW0.out,HRE.out]
  go_wp2_with ((with_reducible refine z0q #[.bool true,.bool false,.bool false,.bool false,.bool false,.bool false] HS6.out HA6.out HR0.out ?_ ?_ ?_);rfl;rfl)
  (try simp only [Exit.inBlock,Exit.then])
  refine bodyPost_ret (v:=.tuple #[.agg #[.bool true,.bool false,.bool false,.bool false,.bool false,.bool false],.bool true]) ?_ rfl HG.out
  exact z2h rfl _ _ R #[.bool true,.bool false,.bool false,.bool false,.bool false,.bool false] _ rfl rfl HF.out rfl
 by_cases h9:k=9
 case pos =>
  subst h9
  clear h1
  clear h2
  clear h3
  clear h4
  clear h5
  clear h6
  clear h7
  clear h8
  have HF:=hid (setRow_heap W0 R _ #[.bool true,.bool false,.bool false,.bool false,.bool true,.bool false] _ _ HR0.out)
  have HS6:Hid ((#[.bool true,.bool false,.bool false,.bool false,.bool true,.bool false]:Array Value).size=6):=hid rfl
  have HA6:Hid ((#[.bool true,.bool false,.bool false,.bool false,.bool true,.bool false]:Array Value).all (·.oneCell')=true):=hid (by simp [Value.oneCell'])
  have HG:Hid (z2e W 9 (.returned (.tuple #[.agg #[.bool true,.bool false,.bool false,.bool false,.bool true,.bool false],.bool true])) (W0.setRow R #[.bool true,.bool false,.bool false,.bool false,.bool true,.bool false])):=hid ⟨rfl,below_setRow HB0.out HLE.out #[.bool true,.bool false,.bool false,.bool false,.bool true,.bool false]⟩
  go_enter Tryz.func51,Tryz.ntmps51
  go_upto_region 1 with (fail)
  rw [HW0.out,HRE.out]
  go_wp2_with ((with_reducible refine z0q #[.bool true,.bool false,.bool false,.bool false,.bool true,.bool false] HS6.out HA6.out HR0.out ?_ ?_ ?_);rfl;rfl)
  (try simp only [Exit.inBlock,Exit.then])
  refine bodyPost_ret (v:=.tuple #[.agg #[.bool true,.bool false,.bool false,.bool false,.bool true,.bool false],.bool true]) ?_ rfl HG.out
  exact z2h rfl _ _ R #[.bool true,.bool false,.bool false,.bool false,.bool true,.bool false] _ rfl rfl HF.out rfl
 have e1:(k==1)=false:=by simpa using h1
 have e2:(k==2)=false:=by simpa using h2
 have e3:(k==3)=false:=by simpa using h3
 have e4:(k==4)=false:=by simpa using h4
 have e5:(k==5)=false:=by simpa using h5
 have e6:(k==6)=false:=by simpa using h6
 have e7:(k==7)=false:=by simpa using h7
 have e8:(k==8)=false:=by simpa using h8
 have e9:(k==9)=false:=by simpa using h9
 have HK:Hid (ptc k=pz∧kOk k=false):=hid ⟨by unfold ptc kS kT kB kA kO kP;rw [e1,e2,e3,e4,e5,e6,e7,e8,e9];rfl,by unfold kOk;rw [e1,e2,e3,e4,e5,e6,e7,e8,e9];rfl⟩
 clear h1 h2 h3 h4 h5 h6 h7 h8 h9
 have HF:=hid (setRow_heap W0 R _ pz _ _ HR0.out)
 have HS6:Hid ((pz:Array Value).size=6):=hid rfl
 have HA6:Hid ((pz:Array Value).all (·.oneCell')=true):=hid (by simp [Value.oneCell'])
 have HG:Hid (z2e W k (.returned (.tuple #[.agg pz,.bool false])) (W0.setRow R pz)):=hid ⟨by rw [HK.out.1,HK.out.2],below_setRow HB0.out HLE.out pz⟩
 go_enter Tryz.func51,Tryz.ntmps51
 go_upto_region 1 with (fail)
 rw [HW0.out,HRE.out]
 go_wp2_with ((with_reducible refine z0q pz HS6.out HA6.out HR0.out ?_ ?_ ?_);rfl;rfl)
 (try simp only [Exit.inBlock,Exit.then])
 refine bodyPost_ret (v:=.tuple #[.agg pz,.bool false]) ?_ rfl HG.out
 exact z2h rfl _ _ R pz _ rfl rfl HF.out rfl
theorem z2b {ops:Array Oper} {rest:List Oper} {a:Act} {w:World} {Q:Exit→Act→World→Prop} {dst:Option Tmp} {x:Operand} {ty:TypeId} {pos:String} {after:Array Edge} {B:Nat} {r:Rv} (hC:RB w B r) (hx:a.eval x=.pointer (some ⟨B,5,none⟩))
 (h:wpList Tryz.prog ops Q rest (a.put dst (.agg #[.int .u8 r.ka,.int .u8 r.kb,.int .u8 r.kc])) w):wpList Tryz.prog ops Q (Oper.mk dst (.load 34 x) ty pos after none::rest) a w :=
 wpList_load_part rfl 34 x rfl B 5 hx 40 (rcs r) #[.int .u8 r.ka,.int .u8 r.kb,.int .u8 r.kc] (0,0) _ hC (by
  intro j hj
  have h3:j<3:=hj
  rcases (by omega:j=0∨j=1∨j=2) with rfl | rfl | rfl <;> rfl) Tryz.underlying34 rfl (by kernel_rfl) h
theorem z0f {ops:Array Oper} {rest:List Oper} {a:Act} {w:World} {Q:Exit→Act→World→Prop} {dst:Option Tmp} {x:Operand} {ty:TypeId} {pos:String} {after:Array Edge} {gd:Option (Nat × Bool)} {B:Nat} {r:Rv} (hC:RB w B r) (hw:Region.wanted (Oper.mk dst (.load 34 x) ty pos after gd) (yielded ops a.tmps)=true) (hx:a.eval x=.pointer (some ⟨B,5,none⟩))
 (h:wpList Tryz.prog ops Q rest (a.put dst (.agg #[.int .u8 r.ka,.int .u8 r.kb,.int .u8 r.kc])) w):wpList Tryz.prog ops Q (Oper.mk dst (.load 34 x) ty pos after gd::rest) a w :=
 wpList_step fun K hK=>by
  rw [if_pos hw]
  unfold Oper.wp execOp
  simp only [hx,Instr.loadAt,Instr.sureAddr,Sem.run_bind,Sem.run_pure,Result.andThen_ok,z3t w B 5 40 34 (rcs r) #[.int .u8 r.ka,.int .u8 r.kb,.int .u8 r.kc] (0,0) _ hC (by
   intro j hj
   have h3:j<3:=hj
   rcases (by omega:j=0∨j=1∨j=2) with rfl | rfl | rfl <;> rfl) Tryz.underlying34 rfl (by kernel_rfl)]
  exact hK _ _ h
theorem gstep_any (h:Bool) (r:Rv) (W:World):Calls Tryz.prog 52 #[.bool h,.agg (rcs r)] W fun e w'=>e=.returned (.bool (z7a h r.st r.cp))∧Below W.heap.size W w':=by
 obtain⟨W1,hW1,hb1⟩:∃ W1,W.alloc (.cells (rcs r) 40)=W1∧Below W.heap.size W W1:=⟨_,rfl,(Below.refl _ _).alloc (Nat.le_refl _) _⟩
 obtain⟨B,hB⟩:∃ B,W.heap.size=B:=⟨_,rfl⟩
 have hrb:=RB.new W r
 rw [hW1,hB] at hrb
 have HX1:=hid hrb
 have HW1:=hid hW1
 have HB1:=hid hb1
 have HRE:=hid hB
 obtain⟨c0,c1,c2,c3,c4,c5,c6,c7,c8,c9⟩:=hrb.at
 clear hW1 hb1 hB hrb
 clear c0 c1 c2 c5 c6 c7 c8 c9
 generalize r.st=st at *
 generalize r.cp=cp at *
 cases h with
 | false =>
  cases hs:(st==0) with
  | false =>
   go_enter Tryz.func52,Tryz.ntmps52
   go_upto_region 1 with (fail)
   rw [HW1.out,HRE.out]
   go_wp2_with fail
   go_ret
   exact⟨by simp [z7a,hs],HB1.out⟩
  | true =>
   go_enter Tryz.func52,Tryz.ntmps52
   go_upto_region 1 with (fail)
   rw [HW1.out,HRE.out]
   go_wp2_with fail
   go_ret
   exact⟨by simp [z7a,hs],HB1.out⟩
 | true =>
  go_enter Tryz.func52,Tryz.ntmps52
  go_upto_region 1 with (fail)
  rw [HW1.out,HRE.out]
  go_wp2_with fail
  go_ret
  exact⟨by simp [z7a],HB1.out⟩
theorem gout_any (h:Bool) (r:Rv) (W:World):Calls Tryz.prog 54 #[.bool h,.agg (rcs r)] W fun e w'=>e=.returned (.bool (outB h r.o))∧Below W.heap.size W w':=by
 obtain⟨W1,hW1,hb1⟩:∃ W1,W.alloc (.cells (rcs r) 40)=W1∧Below W.heap.size W W1:=⟨_,rfl,(Below.refl _ _).alloc (Nat.le_refl _) _⟩
 obtain⟨B,hB⟩:∃ B,W.heap.size=B:=⟨_,rfl⟩
 have hrb:=RB.new W r
 rw [hW1,hB] at hrb
 have HX1:=hid hrb
 have HW1:=hid hW1
 have HB1:=hid hb1
 have HRE:=hid hB
 obtain⟨c0,c1,c2,c3,c4,c5,c6,c7,c8,c9⟩:=hrb.at
 clear hW1 hb1 hB hrb
 clear c0 c1 c2 c3 c4 c5 c6 c7 c8
 generalize r.o=o at *
 cases h with
 | false =>
  go_enter Tryz.func54,Tryz.ntmps54
  go_upto_region 1 with (fail)
  rw [HW1.out,HRE.out]
  go_wp2_with fail
  go_ret
  exact⟨by simp [outB],HB1.out⟩
 | true =>
  cases hs:(o==1) with
  | false =>
   go_enter Tryz.func54,Tryz.ntmps54
   go_upto_region 1 with (fail)
   rw [HW1.out,HRE.out]
   go_wp2_with fail
   go_ret
   exact⟨by simp [outB,hs],HB1.out⟩
  | true =>
   go_enter Tryz.func54,Tryz.ntmps54
   go_upto_region 1 with (fail)
   rw [HW1.out,HRE.out]
   go_wp2_with fail
   go_ret
   exact⟨by simp [outB,hs],HB1.out⟩
theorem gadd_any (h:Bool) (r:Rv) (hb:(0≤r.kb∧r.kb≤255)∧(0≤r.kc∧r.kc≤255)) (W:World):Calls Tryz.prog 53 #[.bool h,.agg (rcs r)] W fun e w'=>e=.returned (.bool (addB h (r.ka,r.kb,r.kc) r.d))∧Below W.heap.size W w':=by
 obtain⟨W1,hW1,hb1⟩:∃ W1,W.alloc (.cells (rcs r) 40)=W1∧Below W.heap.size W W1:=⟨_,rfl,(Below.refl _ _).alloc (Nat.le_refl _) _⟩
 obtain⟨B,hB⟩:∃ B,W.heap.size=B:=⟨_,rfl⟩
 have hrb:=RB.new W r
 rw [hW1,hB] at hrb
 have HX1:=hid hrb
 have HW1:=hid hW1
 have HB1:=hid hb1
 have HRE:=hid hB
 obtain⟨c0,c1,c2,c3,c4,c5,c6,c7,c8,c9⟩:=hrb.at
 clear hW1 hb1 hB hrb
 clear c0 c1 c2 c3 c4 c5 c6 c7 c9
 have hkg:=fun W=>good_any 4 4 r.ka r.kb r.kc hb.1 hb.2 W
 have hke:=fun w=>key_eql r.ka r.kb r.kc 0 0 0 w
 clear hb
 generalize hdd:r.d=d at *
 cases h with
 | false =>
  clear hkg
  have HA:Hid (addB false (r.ka,r.kb,r.kc) d=(decide (((r.ka,r.kb,r.kc):K)=(0,0,0)) && d==0)):=hid rfl
  generalize decide (((r.ka,r.kb,r.kc):K)=(0,0,0))=y at *
  cases y with
  | false =>
   go_enter Tryz.func53,Tryz.ntmps53
   go_upto_region 1 with (fail)
   rw [HW1.out,HRE.out]
   go_wp2_with ((with_reducible refine z2b HX1.out ?_ ?_);rfl)
   go_ret
   exact⟨by rw [HA.out];rfl,HB1.out⟩
  | true =>
   go_enter Tryz.func53,Tryz.ntmps53
   go_upto_region 1 with (fail)
   rw [HW1.out,HRE.out]
   go_wp2_with ((with_reducible refine z2b HX1.out ?_ ?_);rfl)
   go_ret
   exact⟨by rw [HA.out];rfl,HB1.out⟩
 | true =>
  clear hke
  have HA:Hid (addB true (r.ka,r.kb,r.kc) d=((z3x 4 4 r.ka r.kb r.kc && d != 0) && d != -9223372036854775808)):=hid rfl
  generalize z3x 4 4 r.ka r.kb r.kc=y at *
  cases y with
  | false =>
   go_enter Tryz.func53,Tryz.ntmps53
   go_upto_region 1 with (fail)
   rw [HW1.out,HRE.out]
   go_wp2_with ((with_reducible refine z2b HX1.out ?_ ?_);rfl)
   refine (hkg _).mono ?_
   rintro e w2 ⟨rfl,h2⟩
   have HB2:=hid (HB1.out.trans (h2.below.mono HB1.out.size))
   clear h2 c8
   go_wp2_with fail
   go_ret
   exact⟨by rw [HA.out];rfl,HB2.out⟩
  | true =>
   cases hz:(d != 0) with
   | false =>
    go_enter Tryz.func53,Tryz.ntmps53
    go_upto_region 1 with (fail)
    rw [HW1.out,HRE.out]
    go_wp2_with ((with_reducible refine z2b HX1.out ?_ ?_);rfl)
    refine (hkg _).mono ?_
    rintro e w2 ⟨rfl,h2⟩
    have HB2:=hid (HB1.out.trans (h2.below.mono HB1.out.size))
    have c8':w2.cell? ⟨B,8,none⟩=some (.int .i64 d):=by rw [← hdd];exact z0a (HX1.out.later h2.below) rfl
    clear h2 c8 hdd
    go_wp2_with fail
    go_ret
    exact⟨by rw [HA.out,hz];rfl,HB2.out⟩
   | true =>
    go_enter Tryz.func53,Tryz.ntmps53
    go_upto_region 1 with (fail)
    rw [HW1.out,HRE.out]
    go_wp2_with ((with_reducible refine z2b HX1.out ?_ ?_);rfl)
    refine (hkg _).mono ?_
    rintro e w2 ⟨rfl,h2⟩
    have HB2:=hid (HB1.out.trans (h2.below.mono HB1.out.size))
    have c8':w2.cell? ⟨B,8,none⟩=some (.int .i64 d):=by rw [← hdd];exact z0a (HX1.out.later h2.below) rfl
    clear h2 c8 hdd
    go_wp2_with fail
    go_ret
    exact⟨by rw [HA.out,hz];rfl,HB2.out⟩
theorem gprog_any (h:Bool) (r:Rv) (L:List Ln) (T:List Tk) (M:List Ln) (W:World) (hw:Words W) (hP:RvM W r L T M) (hok:Pgok (r.pg L T M)) (h1:r.ln≤400∧r.tn≤400∧r.wn≤400):Calls Tryz.prog 55 #[.bool h,.agg (rcs r)] W fun e w'=>e=.returned (.bool (z7o h (r.pg L T M)))∧Below W.heap.size W w':=by
 obtain⟨W1,hW1,hb1⟩:∃ W1,W.alloc (.cells (rcs r) 40)=W1∧Below W.heap.size W W1:=⟨_,rfl,(Below.refl _ _).alloc (Nat.le_refl _) _⟩
 obtain⟨B,hB⟩:∃ B,W.heap.size=B:=⟨_,rfl⟩
 have hrb:=RB.new W r
 rw [hW1,hB] at hrb
 have HX1:=hid hrb
 have HW1:=hid hW1
 have HB1:=hid hb1
 have HRE:=hid hB
 obtain⟨c0,c1,c2,c3,c4,c5,c6,c7,c8,c9⟩:=hrb.at
 clear hW1 hb1 hB hrb
 clear c0 c1 c2 c3 c4 c5 c6 c7 c8 c9
 have hs:=same_p r.pk r.od r.po r.lp r.ln r.lcp r.tp r.tn r.tcp r.wp r.wn r.wcp r.sk r.fr r.to r.q 0 0 0 none 0 0 none 0 0 none 0 0 0 0 0 0 L T M [] [] [] W1 (hP.later HB1.out) ⟨SlG.empty _,SlG.empty _,SlG.empty _⟩ ⟨by omega,by omega,by omega⟩ ⟨by omega,by omega,by omega⟩
 have hg:=q0p 4 4 r.pk r.od r.po r.lp r.ln r.lcp r.tp r.tn r.tcp r.wp r.wn r.wcp r.sk r.fr r.to r.q L T M W1 (hw.later HB1.out) (hP.later HB1.out) hok h1
 clear hw hP hok h1
 obtain⟨y,hy⟩:∃ y,decide ((⟨r.pk,r.od,r.po,L,T,M,r.sk,r.fr,r.to,r.q⟩:Pg)=⟨0,0,0,[],[],[],0,0,0,0⟩)=y:=⟨_,rfl⟩
 rw [hy] at hs
 have HA:Hid (z7o false (r.pg L T M)=y):=hid hy
 clear hy
 cases h with
 | false =>
  clear hg
  go_enter Tryz.func55,Tryz.ntmps55
  go_upto_region 1 with (fail)
  rw [HW1.out,HRE.out]
  go_wp2_with ((with_reducible refine z2r HX1.out ?_ ?_);rfl)
  refine hs.mono ?_
  rintro e w2 ⟨rfl,h2⟩
  have HB2:=hid (HB1.out.trans (h2.mono HB1.out.size))
  clear h2 hs
  go_wp2_with fail
  go_ret
  exact⟨by rw [HA.out];rfl,HB2.out⟩
 | true =>
  clear hs
  go_enter Tryz.func55,Tryz.ntmps55
  go_upto_region 1 with (fail)
  rw [HW1.out,HRE.out]
  go_wp2_with ((with_reducible refine z2r HX1.out ?_ ?_);rfl)
  refine hg.mono ?_
  rintro e w2 ⟨rfl,h2⟩
  have HB2:=hid (HB1.out.trans (h2.mono HB1.out.size))
  clear h2 hg
  go_wp2_with fail
  go_ret
  exact⟨rfl,HB2.out⟩
theorem rec_good (r:Rv) (L:List Ln) (T:List Tk) (M:List Ln) (W:World) (hw:Words W) (hP:RvM W r L T M) (hok:Rxok (r.x L T M)) (h1:r.ln≤400∧r.tn≤400∧r.wn≤400):Calls Tryz.prog 30 #[.agg (rcs r)] W fun e w'=>e=.returned (.bool (z0v (r.x L T M)))∧Below W.heap.size W w':=by
 obtain⟨W1,hW1,hb1⟩:∃ W1,W.alloc (.cells (rcs r) 40)=W1∧Below W.heap.size W W1:=⟨_,rfl,(Below.refl _ _).alloc (Nat.le_refl _) _⟩
 obtain⟨B,hB⟩:∃ B,W.heap.size=B:=⟨_,rfl⟩
 have hrb:=RB.new W r
 rw [hW1,hB] at hrb
 have HX1:=hid hrb
 have HW1:=hid hW1
 have HB1:=hid hb1
 have HRE:=hid hB
 have c0:W1.cell? ⟨B,0,none⟩=some (.int .u8 r.k):=z0a hrb rfl
 clear hW1 hb1 hB hrb
 obtain⟨b0,hb0⟩:∃ b,kOk r.k=b:=⟨_,rfl⟩
 obtain⟨b1,hb1⟩:∃ b,kS r.k=b:=⟨_,rfl⟩
 obtain⟨b2,hb2⟩:∃ b,kT r.k=b:=⟨_,rfl⟩
 obtain⟨b3,hb3⟩:∃ b,kB r.k=b:=⟨_,rfl⟩
 obtain⟨b4,hb4⟩:∃ b,kA r.k=b:=⟨_,rfl⟩
 obtain⟨b5,hb5⟩:∃ b,kO r.k=b:=⟨_,rfl⟩
 obtain⟨b6,hb6⟩:∃ b,kP r.k=b:=⟨_,rfl⟩
 have hpt:ptc r.k=#[.bool b1,.bool b2,.bool b3,.bool b4,.bool b5,.bool b6]:=by unfold ptc;rw [hb1,hb2,hb3,hb4,hb5,hb6]
 have hpa:=z2u r.k W1
 unfold z2e at hpa
 rw [hpt,hb0] at hpa
 obtain⟨s,hs⟩:∃ y,z7a b3 r.st r.cp=y:=⟨_,rfl⟩
 obtain⟨a,ha⟩:∃ y,addB b4 (r.ka,r.kb,r.kc) r.d=y:=⟨_,rfl⟩
 obtain⟨o,ho⟩:∃ y,outB b5 r.o=y:=⟨_,rfl⟩
 obtain⟨p,hp⟩:∃ y,z7o b6 (r.pg L T M)=y:=⟨_,rfl⟩
 have HR:Hid (z0v (r.x L T M)=(b0 && (b1==(r.sg != 0)) && (b2==(r.tx != 0)) && s && a && o && p)):=hid (by
  rw [← hs,← ha,← ho,← hp,← hb0,← hb1,← hb2,← hb3,← hb4,← hb5,← hb6]
  rfl)
 have HCS:=hid (fun W=>gstep_any b3 r W)
 have HCA:=hid (fun W=>gadd_any b4 r ⟨hok.key.2.1,hok.key.2.2⟩ W)
 have HCO:=hid (fun W=>gout_any b5 r W)
 have HCP:=hid (fun W' (hb:Below W.heap.size W W')=>gprog_any b6 r L T M W' (hw.later hb) (hP.later hb) hok.pg h1)
 rw [hs] at HCS
 rw [ha] at HCA
 rw [ho] at HCO
 rw [hp] at HCP
 clear hpt hb0 hb1 hb2 hb3 hb4 hb5 hb6 hs ha ho hp hw hP hok h1
 go_enter Tryz.func30,Tryz.ntmps30
 go_upto_region 1 with (fail)
 rw [HW1.out,HRE.out]
 go_wp2_with fail
 refine hpa.mono ?_
 rintro e w2 ⟨rfl,h2⟩
 have HB2:=hid (HB1.out.trans (h2.mono HB1.out.size))
 have HX2:=hid (HX1.out.later h2)
 clear h2 hpa c0
 obtain⟨N2,hN2⟩:∃ n,w2.heap.size=n:=⟨_,rfl⟩
 obtain⟨w3,hwn,hxn,hbn⟩:∃ w3,(w2.alloc (.cells pz 97)).setRow N2 #[.bool b1,.bool b2,.bool b3,.bool b4,.bool b5,.bool b6]=w3∧w3.heap[N2]?=some (.cells #[.bool b1,.bool b2,.bool b3,.bool b4,.bool b5,.bool b6] 97 (0,0))∧Below w2.heap.size w2 w3:=⟨_,rfl,by rw [← hN2];exact setRow_heap _ _ _ _ _ _ (z0c w2 _),below_setRow ((Below.refl _ _).alloc (Nat.le_refl _) _) (by omega) _⟩
 have hx2:=z0c w2 (.cells pz 97)
 rw [hN2] at hx2
 have HPX:=hid hxn
 have HPZ:=hid hx2
 have HBN:=hid hbn
 have HWN:=hid hwn
 have HNN:=hid hN2
 have HS6:Hid ((#[.bool b1,.bool b2,.bool b3,.bool b4,.bool b5,.bool b6]:Array Value).size=6):=hid rfl
 have HA6:Hid ((#[.bool b1,.bool b2,.bool b3,.bool b4,.bool b5,.bool b6]:Array Value).all (·.oneCell')=true):=hid (by simp [Value.oneCell'])
 clear hx2 hxn hbn hwn hN2
 have HB3:=hid (HB2.out.trans (HBN.out.mono HB2.out.size))
 have HX3:=hid (HX2.out.later HBN.out)
 have gp:=z0b HPX.out (Below.refl _ _)
 have gx:=HX3.out.later (Below.refl _ _)
 have p0:w3.cell? ⟨N2,0,none⟩=some (.bool b1):=z0a gp rfl
 have p1:w3.cell? ⟨N2,1,none⟩=some (.bool b2):=z0a gp rfl
 have p2:w3.cell? ⟨N2,2,none⟩=some (.bool b3):=z0a gp rfl
 have p3:w3.cell? ⟨N2,3,none⟩=some (.bool b4):=z0a gp rfl
 have p4:w3.cell? ⟨N2,4,none⟩=some (.bool b5):=z0a gp rfl
 have p5:w3.cell? ⟨N2,5,none⟩=some (.bool b6):=z0a gp rfl
 have c1:w3.cell? ⟨B,1,none⟩=some (.int .u32 r.sg):=z0a gx rfl
 have c2:w3.cell? ⟨B,2,none⟩=some (.int .u32 r.tx):=z0a gx rfl
 have HGX:=hid gx
 clear gp gx
 cases b0
 case false =>
  go_wp2_with (first | ((try rw [HNN.out]);(with_reducible refine z0q #[.bool b1,.bool b2,.bool b3,.bool b4,.bool b5,.bool b6] HS6.out HA6.out HPZ.out ?_ ?_ ?_);rfl;rfl;rw [HWN.out]) | ((with_reducible refine z0d HGX.out ?_ ?_ ?_);rfl;rfl))
  go_ret
  exact⟨by rw [HR.out];rfl,HB3.out⟩
 cases hq1:(b1==(r.sg != 0))
 case false =>
  go_wp2_with (first | ((try rw [HNN.out]);(with_reducible refine z0q #[.bool b1,.bool b2,.bool b3,.bool b4,.bool b5,.bool b6] HS6.out HA6.out HPZ.out ?_ ?_ ?_);rfl;rfl;rw [HWN.out]) | ((with_reducible refine z0d HGX.out ?_ ?_ ?_);rfl;rfl))
  go_ret
  exact⟨by rw [HR.out,hq1];rfl,HB3.out⟩
 cases hq2:(b2==(r.tx != 0))
 case false =>
  go_wp2_with (first | ((try rw [HNN.out]);(with_reducible refine z0q #[.bool b1,.bool b2,.bool b3,.bool b4,.bool b5,.bool b6] HS6.out HA6.out HPZ.out ?_ ?_ ?_);rfl;rfl;rw [HWN.out]) | ((with_reducible refine z0d HGX.out ?_ ?_ ?_);rfl;rfl))
  go_ret
  exact⟨by rw [HR.out,hq1,hq2];rfl,HB3.out⟩
 have HQ:=hid (And.intro hq1 hq2)
 go_wp2_with (first | ((try rw [HNN.out]);(with_reducible refine z0q #[.bool b1,.bool b2,.bool b3,.bool b4,.bool b5,.bool b6] HS6.out HA6.out HPZ.out ?_ ?_ ?_);rfl;rfl;rw [HWN.out]) | ((with_reducible refine z0d HGX.out ?_ ?_ ?_);rfl;rfl))
 refine (HCS.out _).mono ?_
 rintro e w4 ⟨rfl,h4⟩
 have HB4:=hid (HB3.out.trans (h4.mono HB3.out.size))
 have HD4:Hid (Below w3.heap.size w3 w4):=hid h4
 clear h4
 clear p0 p1 p2 p3 p4 p5 c1 c2
 clear HGX
 have gp:=z0b HPX.out HD4.out
 have gx:=HX3.out.later HD4.out
 have p0:w4.cell? ⟨N2,0,none⟩=some (.bool b1):=z0a gp rfl
 have p1:w4.cell? ⟨N2,1,none⟩=some (.bool b2):=z0a gp rfl
 have p2:w4.cell? ⟨N2,2,none⟩=some (.bool b3):=z0a gp rfl
 have p3:w4.cell? ⟨N2,3,none⟩=some (.bool b4):=z0a gp rfl
 have p4:w4.cell? ⟨N2,4,none⟩=some (.bool b5):=z0a gp rfl
 have p5:w4.cell? ⟨N2,5,none⟩=some (.bool b6):=z0a gp rfl
 have c1:w4.cell? ⟨B,1,none⟩=some (.int .u32 r.sg):=z0a gx rfl
 have c2:w4.cell? ⟨B,2,none⟩=some (.int .u32 r.tx):=z0a gx rfl
 have HGX:=hid gx
 clear gp gx
 clear hq1 hq2
 cases s
 case false =>
  go_wp2_with ((with_reducible refine z0d HGX.out ?_ ?_ ?_);rfl;rfl)
  go_ret
  exact⟨by rw [HR.out,HQ.out.1,HQ.out.2];rfl,HB4.out⟩
 go_wp2_with ((with_reducible refine z0d HGX.out ?_ ?_ ?_);rfl;rfl)
 refine (HCA.out _).mono ?_
 rintro e w5 ⟨rfl,h5⟩
 have HB5:=hid (HB4.out.trans (h5.mono HB4.out.size))
 have HD5:Hid (Below w3.heap.size w3 w5):=hid (HD4.out.trans (h5.mono HD4.out.size))
 clear h5
 clear p0 p1 p2 p3 p4 p5 c1 c2
 clear HGX
 have gp:=z0b HPX.out HD5.out
 have gx:=HX3.out.later HD5.out
 have p0:w5.cell? ⟨N2,0,none⟩=some (.bool b1):=z0a gp rfl
 have p1:w5.cell? ⟨N2,1,none⟩=some (.bool b2):=z0a gp rfl
 have p2:w5.cell? ⟨N2,2,none⟩=some (.bool b3):=z0a gp rfl
 have p3:w5.cell? ⟨N2,3,none⟩=some (.bool b4):=z0a gp rfl
 have p4:w5.cell? ⟨N2,4,none⟩=some (.bool b5):=z0a gp rfl
 have p5:w5.cell? ⟨N2,5,none⟩=some (.bool b6):=z0a gp rfl
 have c1:w5.cell? ⟨B,1,none⟩=some (.int .u32 r.sg):=z0a gx rfl
 have c2:w5.cell? ⟨B,2,none⟩=some (.int .u32 r.tx):=z0a gx rfl
 have HGX:=hid gx
 clear gp gx
 cases a
 case false =>
  go_wp2_with ((with_reducible refine z0d HGX.out ?_ ?_ ?_);rfl;rfl)
  go_ret
  exact⟨by rw [HR.out,HQ.out.1,HQ.out.2];rfl,HB5.out⟩
 go_wp2_with ((with_reducible refine z0d HGX.out ?_ ?_ ?_);rfl;rfl)
 refine (HCO.out _).mono ?_
 rintro e w6 ⟨rfl,h6⟩
 have HB6:=hid (HB5.out.trans (h6.mono HB5.out.size))
 have HD6:Hid (Below w3.heap.size w3 w6):=hid (HD5.out.trans (h6.mono HD5.out.size))
 clear h6
 clear p0 p1 p2 p3 p4 p5 c1 c2
 clear HGX
 have gp:=z0b HPX.out HD6.out
 have gx:=HX3.out.later HD6.out
 have p0:w6.cell? ⟨N2,0,none⟩=some (.bool b1):=z0a gp rfl
 have p1:w6.cell? ⟨N2,1,none⟩=some (.bool b2):=z0a gp rfl
 have p2:w6.cell? ⟨N2,2,none⟩=some (.bool b3):=z0a gp rfl
 have p3:w6.cell? ⟨N2,3,none⟩=some (.bool b4):=z0a gp rfl
 have p4:w6.cell? ⟨N2,4,none⟩=some (.bool b5):=z0a gp rfl
 have p5:w6.cell? ⟨N2,5,none⟩=some (.bool b6):=z0a gp rfl
 have c1:w6.cell? ⟨B,1,none⟩=some (.int .u32 r.sg):=z0a gx rfl
 have c2:w6.cell? ⟨B,2,none⟩=some (.int .u32 r.tx):=z0a gx rfl
 have HGX:=hid gx
 clear gp gx
 cases o
 case false =>
  go_wp2_with ((with_reducible refine z0d HGX.out ?_ ?_ ?_);rfl;rfl)
  go_ret
  exact⟨by rw [HR.out,HQ.out.1,HQ.out.2];rfl,HB6.out⟩
 go_wp2_with ((with_reducible refine z0d HGX.out ?_ ?_ ?_);rfl;rfl)
 refine (HCP.out _ HB6.out).mono ?_
 rintro e w7 ⟨rfl,h7⟩
 have HB7:=hid (HB6.out.trans (h7.mono HB6.out.size))
 clear h7
 clear p0 p1 p2 p3 p4 p5 c1 c2
 go_wp2_with fail
 go_ret
 exact⟨by rw [HR.out,HQ.out.1,HQ.out.2];rfl,HB7.out⟩
def z3k (W:World) (Y:List Nat) (e:Ending) (w':World):Prop:=∃ p c,e=.returned (.tuple #[.slice p Y.length c,.int .i64 0])∧Sl w' p Y.length c Y∧Below W.heap.size W w'
theorem z4c {W w:World} {B:Nat} {L:List Nat} (h:WrOk W w B 512 (0,L)) (x:Int) (h0:0≤x∧x≤255) (hl:L.length+1≤512):Calls Tryz.prog 123 #[.pointer (some ⟨B,0,none⟩),.int .u64 x,.int .i64 1] w (z8h W B 512 (0,L++le x.toNat 1)):=by
 refine h.step fun v hv=>?_
 have:=z6n B v L x.toNat 1 w hv (by omega) (by omega) (by omega) hl
 rw [Int.toNat_of_nonneg h0.1] at this
 exact this
theorem z4l {W w:World} {B:Nat} {L:List Nat} (h:WrOk W w B 512 (0,L)) (x:Int) (h0:0≤x∧x≤4294967295) (hl:L.length+4≤512):Calls Tryz.prog 123 #[.pointer (some ⟨B,0,none⟩),.int .u64 x,.int .i64 4] w (z8h W B 512 (0,L++le x.toNat 4)):=by
 refine h.step fun v hv=>?_
 have:=z6n B v L x.toNat 4 w hv (by omega) (by omega) (by omega) hl
 rw [Int.toNat_of_nonneg h0.1] at this
 exact this
theorem wo_int {W w:World} {B:Nat} {L:List Nat} (h:WrOk W w B 512 (0,L)) (q:Int) (hq:In64 q) (hl:L.length+8≤512):Calls Tryz.prog 126 #[.pointer (some ⟨B,0,none⟩),.int .i64 q] w (z8h W B 512 (0,L++le (u64 q) 8)) :=
 h.step fun v hv=>q0s B v L q w hv hq hl
theorem bit_bitN (b:Bool):bit b=bitN b:=rfl
theorem wo_bool {W w:World} {B:Nat} {L:List Nat} (h:WrOk W w B 512 (0,L)) (b:Bool) (hl:L.length+1≤512):Calls Tryz.prog 124 #[.pointer (some ⟨B,0,none⟩),.bool b] w (z8h W B 512 (0,L ++ [bitN b])):=by
 refine h.step fun v hv=>?_
 have:=bool_wr B v 512 (0,L) b w hv (by omega) (by omega) (by dsimp only;omega)
 rwa [z6l (by simpa using hl),bit_bitN] at this
theorem wo_raw {W w:World} {B:Nat} {L:List Nat} (h:WrOk W w B 512 (0,L)) (p:Option Addr) (m c:Nat) (M:List Nat) (hs:Sl w p m c M) (hl:L.length+m≤512):Calls Tryz.prog 125 #[.pointer (some ⟨B,0,none⟩),.slice p m c] w (z8h W B 512 (0,L++M)):=by
 refine h.step fun v hv=>?_
 have:=z8a B v 512 (0,L) w hv p m c M hs (by omega) (by omega) (by dsimp only;omega)
 rwa [z6l (by rw [hs.len];exact hl)] at this
theorem wo_bytes {W w:World} {B:Nat} {L:List Nat} (h:WrOk W w B 512 (0,L)) (p:Option Addr) (m c:Nat) (M:List Nat) (hs:Sl w p m c M) (hl:L.length+(m+2)≤512):Calls Tryz.prog 128 #[.pointer (some ⟨B,0,none⟩),.slice p m c] w (z8h W B 512 (0,L++(le M.length 2++M))):=by
 refine h.step fun v hv=>?_
 have:=bytes_wr B v 512 (0,L) p m c M w hv hs (by omega) (by omega) (by dsimp only;omega) (by omega)
 have e:q0b 512 (0,L) M=(0,L++(le M.length 2++M)):=by
  unfold q0b
  have:=hs.len
  rw [if_neg (by omega),z6l (by rw [List.length_append,z0r];omega)]
 rwa [e] at this
theorem sl_three (x y z:Int) (hx:0≤x∧x≤255) (hy:0≤y∧y≤255) (hz:0≤z∧z≤255) (w:World):Sl (w.alloc (.cells #[.int .u8 x,.int .u8 y,.int .u8 z] 5)) (some ⟨w.heap.size,0,none⟩) 3 3 (keyB (x,y,z)) :=
 ⟨rfl,Nat.le_refl _,(fun h=>by cases h),(fun u hu=>by simp [keyB] at hu;omega),fun _=>⟨_,0,rfl,fun j hj=>by
  match j,hj with
  | 0,_=>simp [keyB];omega
  | 1,_=>simp [keyB];omega
  | 2,_=>simp [keyB];omega⟩⟩
theorem wrap_u64 {x:Int} (h:0≤x∧x≤4294967295):IntKind.u64.wrap x=x:=by simp [IntKind.wrap,IntKind.bits,IntKind.signed];omega
theorem rec_write1 (r:Rv) (L:List Ln) (T:List Tk) (M:List Ln) (W:World) (hok:Rxok (r.x L T M)) (hk:r.k=1) (hw:Words W) (hP:RvM W r L T M) (h1:r.ln≤400∧r.tn≤400∧r.wn≤400) (hg:z0w 4 4 (r.pg L T M)=true):Calls Tryz.prog 105 #[.agg (rcs r)] W (z3k W (z0o (r.x L T M))):=by
 obtain⟨W1,hW1,hb1⟩:∃ W1,W.alloc (.cells (rcs r) 40)=W1∧Below W.heap.size W W1:=⟨_,rfl,(Below.refl _ _).alloc (Nat.le_refl _) _⟩
 obtain⟨B,hB⟩:∃ B,W.heap.size=B:=⟨_,rfl⟩
 have hrb:=RB.new W r
 rw [hW1,hB] at hrb
 have HX1:=hid hrb
 have HW1:=hid hW1
 have HB1:=hid hb1
 have HRE:=hid hB
 have c0:W1.cell? ⟨B,0,none⟩=some (.int .u8 r.k):=z0a hrb rfl
 rw [hk] at c0
 clear hW1 hb1 hB hrb
 have HOK:=hid hok
 have u1:=wrap_u64 hok.sg
 have u2:=wrap_u64 hok.tx
 have u3:IntKind.u64.wrap r.st=r.st:=wrap_u64 ⟨hok.st.1,Int.le_trans hok.st.2 (by decide)⟩
 have u4:IntKind.u64.wrap r.o=r.o:=wrap_u64 ⟨hok.o.1,Int.le_trans hok.o.2 (by decide)⟩
 change IntKind.u64.wrap r.sg=r.sg at u1
 change IntKind.u64.wrap r.tx=r.tx at u2
 have hpa:=z2u 1 W1
 unfold z2e at hpa
 rw [show ptc 1=#[.bool true,.bool false,.bool false,.bool false,.bool false,.bool true] from rfl] at hpa
 have HEN:=hid (fun W' (hb:Below W.heap.size W W')=>encode_p r.pk r.od r.po r.lp r.ln r.lcp r.tp r.tn r.tcp r.wp r.wn r.wcp r.sk r.fr r.to r.q L T M W' (hw.later hb) (hP.later hb) hok.pg h1)
 have HPF:=hid (q0m hg)
 have HGG:=hid hg
 clear hw hP h1 hg
 clear hok
 go_enter Tryz.func105,Tryz.ntmps105
 go_upto_region 1 with (fail)
 rw [HW1.out,HRE.out]
 go_wp2_with fail
 refine hpa.mono ?_
 rintro e w2 ⟨rfl,h2⟩
 have HB2:=hid (HB1.out.trans (h2.mono HB1.out.size))
 have HX2:=hid (HX1.out.later h2)
 clear h2 hpa c0
 obtain⟨N2,hN2⟩:∃ n,w2.heap.size=n:=⟨_,rfl⟩
 obtain⟨w3,hwn,hxn,hbn⟩:∃ w3,(w2.alloc (.cells pz 97)).setRow N2 #[.bool true,.bool false,.bool false,.bool false,.bool false,.bool true]=w3∧w3.heap[N2]?=some (.cells #[.bool true,.bool false,.bool false,.bool false,.bool false,.bool true] 97 (0,0))∧Below w2.heap.size w2 w3:=⟨_,rfl,by rw [← hN2];exact setRow_heap _ _ _ _ _ _ (z0c w2 _),below_setRow ((Below.refl _ _).alloc (Nat.le_refl _) _) (by omega) _⟩
 have hx2:=z0c w2 (.cells pz 97)
 rw [hN2] at hx2
 have HPX:=hid hxn
 have HPZ:=hid hx2
 have HBN:=hid hbn
 have HWN:=hid hwn
 have HNN:=hid hN2
 have HS6:Hid ((#[.bool true,.bool false,.bool false,.bool false,.bool false,.bool true]:Array Value).size=6):=hid rfl
 have HA6:Hid ((#[.bool true,.bool false,.bool false,.bool false,.bool false,.bool true]:Array Value).all (·.oneCell')=true):=hid (by simp [Value.oneCell'])
 clear hx2 hxn hbn hwn hN2
 have HB3:=hid (HB2.out.trans (HBN.out.mono HB2.out.size))
 have HX3:=hid (HX2.out.later HBN.out)
 go_wp2_with ((try rw [HNN.out]);(with_reducible refine z0q #[.bool true,.bool false,.bool false,.bool false,.bool false,.bool true] HS6.out HA6.out HPZ.out ?_ ?_ ?_);rfl;rfl;rw [HWN.out])
 refine (z6o w3 w3 512 (Below.refl _ _)).mono ?_
 rintro e w4 ⟨Bw,rfl,hkk⟩
 rw [show lim 512=512 from rfl] at hkk
 have HK4:=hid hkk
 clear hkk
 have gp:=z0b HPX.out HK4.out.below
 have HGX:=hid (HX3.out.later HK4.out.below)
 have p0:w4.cell? ⟨N2,0,none⟩=some (.bool true):=z0a gp rfl
 have p1:w4.cell? ⟨N2,1,none⟩=some (.bool false):=z0a gp rfl
 have p2:w4.cell? ⟨N2,2,none⟩=some (.bool false):=z0a gp rfl
 have p3:w4.cell? ⟨N2,3,none⟩=some (.bool false):=z0a gp rfl
 have p4:w4.cell? ⟨N2,4,none⟩=some (.bool false):=z0a gp rfl
 have p5:w4.cell? ⟨N2,5,none⟩=some (.bool true):=z0a gp rfl
 obtain⟨c0,c1,c2,c3,c4,c5,c6,c7,c8,c9⟩:=HGX.out.at
 rw [hk] at c0
 clear gp
 go_wp2_with fail
 refine (z4c HK4.out 1 (by omega) (by simp)).mono ?_
 rintro e w5 ⟨rfl,hkk⟩
 have HK5:=hid hkk
 clear hkk HK4
 clear p0 p1 p2 p3 p4 p5 c0 c1 c2 c3 c4 c5 c6 c7 c8 c9 HGX
 have gp:=z0b HPX.out HK5.out.below
 have HGX:=hid (HX3.out.later HK5.out.below)
 have p0:w5.cell? ⟨N2,0,none⟩=some (.bool true):=z0a gp rfl
 have p1:w5.cell? ⟨N2,1,none⟩=some (.bool false):=z0a gp rfl
 have p2:w5.cell? ⟨N2,2,none⟩=some (.bool false):=z0a gp rfl
 have p3:w5.cell? ⟨N2,3,none⟩=some (.bool false):=z0a gp rfl
 have p4:w5.cell? ⟨N2,4,none⟩=some (.bool false):=z0a gp rfl
 have p5:w5.cell? ⟨N2,5,none⟩=some (.bool true):=z0a gp rfl
 obtain⟨c0,c1,c2,c3,c4,c5,c6,c7,c8,c9⟩:=HGX.out.at
 rw [hk] at c0
 clear gp
 go_wp2_with fail
 refine (z4l HK5.out r.sg HOK.out.sg (by simp only [List.length_append,List.length_nil,z0r];omega)).mono ?_
 rintro e w6 ⟨rfl,hkk⟩
 have HK6:=hid hkk
 clear hkk HK5
 clear p0 p1 p2 p3 p4 p5 c0 c1 c2 c3 c4 c5 c6 c7 c8 c9 HGX
 have gp:=z0b HPX.out HK6.out.below
 have HGX:=hid (HX3.out.later HK6.out.below)
 have p0:w6.cell? ⟨N2,0,none⟩=some (.bool true):=z0a gp rfl
 have p1:w6.cell? ⟨N2,1,none⟩=some (.bool false):=z0a gp rfl
 have p2:w6.cell? ⟨N2,2,none⟩=some (.bool false):=z0a gp rfl
 have p3:w6.cell? ⟨N2,3,none⟩=some (.bool false):=z0a gp rfl
 have p4:w6.cell? ⟨N2,4,none⟩=some (.bool false):=z0a gp rfl
 have p5:w6.cell? ⟨N2,5,none⟩=some (.bool true):=z0a gp rfl
 obtain⟨c0,c1,c2,c3,c4,c5,c6,c7,c8,c9⟩:=HGX.out.at
 rw [hk] at c0
 clear gp
 go_wp2_with ((with_reducible refine z2r HGX.out ?_ ?_);rfl)
 refine (HEN.out w6 (HB3.out.trans (HK6.out.below.mono HB3.out.size))).mono ?_
 rintro e w7 ⟨hbe,hy⟩
 have hgg:z0w 4 4 ⟨r.pk,r.od,r.po,L,T,M,r.sk,r.fr,r.to,r.q⟩=true:=HGG.out
 rw [if_pos hgg] at hy
 obtain⟨py,cy,rfl,hsy,_,_⟩:=hy
 have HSY:=hid hsy
 have HK7:=hid (HK6.out.later (Chg.of_below (S:=fun _=>False) hbe))
 have hpf:(z2f ⟨r.pk,r.od,r.po,L,T,M,r.sk,r.fr,r.to,r.q⟩).length≤400:=HPF.out
 have HBP:Hid (z2f (r.pg L T M)=z2f ⟨r.pk,r.od,r.po,L,T,M,r.sk,r.fr,r.to,r.q⟩):=hid rfl
 generalize z2f ⟨r.pk,r.od,r.po,L,T,M,r.sk,r.fr,r.to,r.q⟩=Y at *
 generalize hny:Y.length=ny at *
 clear hsy hbe hgg HK6
 clear p0 p1 p2 p3 p4 p5 c0 c1 c2 c3 c4 c5 c6 c7 c8 c9 HGX
 have gp:=z0b HPX.out HK7.out.below
 have HGX:=hid (HX3.out.later HK7.out.below)
 have p0:w7.cell? ⟨N2,0,none⟩=some (.bool true):=z0a gp rfl
 have p1:w7.cell? ⟨N2,1,none⟩=some (.bool false):=z0a gp rfl
 have p2:w7.cell? ⟨N2,2,none⟩=some (.bool false):=z0a gp rfl
 have p3:w7.cell? ⟨N2,3,none⟩=some (.bool false):=z0a gp rfl
 have p4:w7.cell? ⟨N2,4,none⟩=some (.bool false):=z0a gp rfl
 have p5:w7.cell? ⟨N2,5,none⟩=some (.bool true):=z0a gp rfl
 obtain⟨c0,c1,c2,c3,c4,c5,c6,c7,c8,c9⟩:=HGX.out.at
 rw [hk] at c0
 clear gp
 go_wp2_with fail
 have HNY:=hid hny
 clear hny
 refine (wo_bytes HK7.out py ny cy Y HSY.out (by simp only [List.length_append,List.length_nil,z0r];omega)).mono ?_
 rintro e w8 ⟨rfl,hkk⟩
 have HK8:=hid hkk
 clear hkk HK7
 clear p0 p1 p2 p3 p4 p5 c0 c1 c2 c3 c4 c5 c6 c7 c8 c9 HGX
 have gp:=z0b HPX.out HK8.out.below
 have HGX:=hid (HX3.out.later HK8.out.below)
 have p0:w8.cell? ⟨N2,0,none⟩=some (.bool true):=z0a gp rfl
 have p1:w8.cell? ⟨N2,1,none⟩=some (.bool false):=z0a gp rfl
 have p2:w8.cell? ⟨N2,2,none⟩=some (.bool false):=z0a gp rfl
 have p3:w8.cell? ⟨N2,3,none⟩=some (.bool false):=z0a gp rfl
 have p4:w8.cell? ⟨N2,4,none⟩=some (.bool false):=z0a gp rfl
 have p5:w8.cell? ⟨N2,5,none⟩=some (.bool true):=z0a gp rfl
 obtain⟨c0,c1,c2,c3,c4,c5,c6,c7,c8,c9⟩:=HGX.out.at
 rw [hk] at c0
 clear gp
 go_wp2_with fail
 have hbx:(((([]:List Nat)++le ((1:Int)).toNat 1)++le r.sg.toNat 4)++(le Y.length 2++Y))=z0o (r.x L T M):=by
  unfold z0o
  rw [show ((r.x L T M)).k=1 from hk]
  simp [kS,kT,kB,kA,kO,kP,Rv.x,List.append_assoc,HBP.out]
 have hlx:(z0o (r.x L T M)).length≤100000:=by rw [← hbx];simp only [List.length_append,List.length_nil,z0r];have:=HNY.out;omega
 have HKz:Hid (WrOk w3 w8 Bw 512 (0,z0o (r.x L T M))):=hid (by rw [← hbx];exact HK8.out)
 clear hbx HK8
 generalize z0o (r.x L T M)=Z at *
 refine (z3i w3 w8 Bw 512 Z HKz.out hlx).mono ?_
 rintro e w9 ⟨pz',cz,rfl,hbz,hsz,_⟩
 have HF:Hid (z3k W Z (.returned (.tuple #[.slice pz' Z.length cz,.int .i64 0])) w9):=hid ⟨pz',cz,rfl,hsz,HB3.out.trans (hbz.mono HB3.out.size)⟩
 clear hbz hsz hlx
 generalize Z.length=nz at *
 clear p0 p1 p2 p3 p4 p5 c0 c1 c2 c3 c4 c5 c6 c7 c8 c9 HGX
 go_wp2_with fail
 go_ret2
 exact HF.out
theorem rec_write2 (r:Rv) (L:List Ln) (T:List Tk) (M:List Ln) (W:World) (hok:Rxok (r.x L T M)) (hk:r.k=2):Calls Tryz.prog 105 #[.agg (rcs r)] W (z3k W (z0o (r.x L T M))):=by
 obtain⟨W1,hW1,hb1⟩:∃ W1,W.alloc (.cells (rcs r) 40)=W1∧Below W.heap.size W W1:=⟨_,rfl,(Below.refl _ _).alloc (Nat.le_refl _) _⟩
 obtain⟨B,hB⟩:∃ B,W.heap.size=B:=⟨_,rfl⟩
 have hrb:=RB.new W r
 rw [hW1,hB] at hrb
 have HX1:=hid hrb
 have HW1:=hid hW1
 have HB1:=hid hb1
 have HRE:=hid hB
 have c0:W1.cell? ⟨B,0,none⟩=some (.int .u8 r.k):=z0a hrb rfl
 rw [hk] at c0
 clear hW1 hb1 hB hrb
 have HOK:=hid hok
 have u1:=wrap_u64 hok.sg
 have u2:=wrap_u64 hok.tx
 have u3:IntKind.u64.wrap r.st=r.st:=wrap_u64 ⟨hok.st.1,Int.le_trans hok.st.2 (by decide)⟩
 have u4:IntKind.u64.wrap r.o=r.o:=wrap_u64 ⟨hok.o.1,Int.le_trans hok.o.2 (by decide)⟩
 change IntKind.u64.wrap r.sg=r.sg at u1
 change IntKind.u64.wrap r.tx=r.tx at u2
 have hpa:=z2u 2 W1
 unfold z2e at hpa
 rw [show ptc 2=#[.bool true,.bool true,.bool true,.bool false,.bool false,.bool false] from rfl] at hpa
 clear hok
 go_enter Tryz.func105,Tryz.ntmps105
 go_upto_region 1 with (fail)
 rw [HW1.out,HRE.out]
 go_wp2_with fail
 refine hpa.mono ?_
 rintro e w2 ⟨rfl,h2⟩
 have HB2:=hid (HB1.out.trans (h2.mono HB1.out.size))
 have HX2:=hid (HX1.out.later h2)
 clear h2 hpa c0
 obtain⟨N2,hN2⟩:∃ n,w2.heap.size=n:=⟨_,rfl⟩
 obtain⟨w3,hwn,hxn,hbn⟩:∃ w3,(w2.alloc (.cells pz 97)).setRow N2 #[.bool true,.bool true,.bool true,.bool false,.bool false,.bool false]=w3∧w3.heap[N2]?=some (.cells #[.bool true,.bool true,.bool true,.bool false,.bool false,.bool false] 97 (0,0))∧Below w2.heap.size w2 w3:=⟨_,rfl,by rw [← hN2];exact setRow_heap _ _ _ _ _ _ (z0c w2 _),below_setRow ((Below.refl _ _).alloc (Nat.le_refl _) _) (by omega) _⟩
 have hx2:=z0c w2 (.cells pz 97)
 rw [hN2] at hx2
 have HPX:=hid hxn
 have HPZ:=hid hx2
 have HBN:=hid hbn
 have HWN:=hid hwn
 have HNN:=hid hN2
 have HS6:Hid ((#[.bool true,.bool true,.bool true,.bool false,.bool false,.bool false]:Array Value).size=6):=hid rfl
 have HA6:Hid ((#[.bool true,.bool true,.bool true,.bool false,.bool false,.bool false]:Array Value).all (·.oneCell')=true):=hid (by simp [Value.oneCell'])
 clear hx2 hxn hbn hwn hN2
 have HB3:=hid (HB2.out.trans (HBN.out.mono HB2.out.size))
 have HX3:=hid (HX2.out.later HBN.out)
 go_wp2_with ((try rw [HNN.out]);(with_reducible refine z0q #[.bool true,.bool true,.bool true,.bool false,.bool false,.bool false] HS6.out HA6.out HPZ.out ?_ ?_ ?_);rfl;rfl;rw [HWN.out])
 refine (z6o w3 w3 512 (Below.refl _ _)).mono ?_
 rintro e w4 ⟨Bw,rfl,hkk⟩
 rw [show lim 512=512 from rfl] at hkk
 have HK4:=hid hkk
 clear hkk
 have gp:=z0b HPX.out HK4.out.below
 have HGX:=hid (HX3.out.later HK4.out.below)
 have p0:w4.cell? ⟨N2,0,none⟩=some (.bool true):=z0a gp rfl
 have p1:w4.cell? ⟨N2,1,none⟩=some (.bool true):=z0a gp rfl
 have p2:w4.cell? ⟨N2,2,none⟩=some (.bool true):=z0a gp rfl
 have p3:w4.cell? ⟨N2,3,none⟩=some (.bool false):=z0a gp rfl
 have p4:w4.cell? ⟨N2,4,none⟩=some (.bool false):=z0a gp rfl
 have p5:w4.cell? ⟨N2,5,none⟩=some (.bool false):=z0a gp rfl
 obtain⟨c0,c1,c2,c3,c4,c5,c6,c7,c8,c9⟩:=HGX.out.at
 rw [hk] at c0
 clear gp
 go_wp2_with fail
 refine (z4c HK4.out 2 (by omega) (by simp)).mono ?_
 rintro e w5 ⟨rfl,hkk⟩
 have HK5:=hid hkk
 clear hkk HK4
 clear p0 p1 p2 p3 p4 p5 c0 c1 c2 c3 c4 c5 c6 c7 c8 c9 HGX
 have gp:=z0b HPX.out HK5.out.below
 have HGX:=hid (HX3.out.later HK5.out.below)
 have p0:w5.cell? ⟨N2,0,none⟩=some (.bool true):=z0a gp rfl
 have p1:w5.cell? ⟨N2,1,none⟩=some (.bool true):=z0a gp rfl
 have p2:w5.cell? ⟨N2,2,none⟩=some (.bool true):=z0a gp rfl
 have p3:w5.cell? ⟨N2,3,none⟩=some (.bool false):=z0a gp rfl
 have p4:w5.cell? ⟨N2,4,none⟩=some (.bool false):=z0a gp rfl
 have p5:w5.cell? ⟨N2,5,none⟩=some (.bool false):=z0a gp rfl
 obtain⟨c0,c1,c2,c3,c4,c5,c6,c7,c8,c9⟩:=HGX.out.at
 rw [hk] at c0
 clear gp
 go_wp2_with fail
 refine (z4l HK5.out r.sg HOK.out.sg (by simp only [List.length_append,List.length_nil,z0r];omega)).mono ?_
 rintro e w6 ⟨rfl,hkk⟩
 have HK6:=hid hkk
 clear hkk HK5
 clear p0 p1 p2 p3 p4 p5 c0 c1 c2 c3 c4 c5 c6 c7 c8 c9 HGX
 have gp:=z0b HPX.out HK6.out.below
 have HGX:=hid (HX3.out.later HK6.out.below)
 have p0:w6.cell? ⟨N2,0,none⟩=some (.bool true):=z0a gp rfl
 have p1:w6.cell? ⟨N2,1,none⟩=some (.bool true):=z0a gp rfl
 have p2:w6.cell? ⟨N2,2,none⟩=some (.bool true):=z0a gp rfl
 have p3:w6.cell? ⟨N2,3,none⟩=some (.bool false):=z0a gp rfl
 have p4:w6.cell? ⟨N2,4,none⟩=some (.bool false):=z0a gp rfl
 have p5:w6.cell? ⟨N2,5,none⟩=some (.bool false):=z0a gp rfl
 obtain⟨c0,c1,c2,c3,c4,c5,c6,c7,c8,c9⟩:=HGX.out.at
 rw [hk] at c0
 clear gp
 go_wp2_with fail
 refine (z4l HK6.out r.tx HOK.out.tx (by simp only [List.length_append,List.length_nil,z0r];omega)).mono ?_
 rintro e w7 ⟨rfl,hkk⟩
 have HK7:=hid hkk
 clear hkk HK6
 clear p0 p1 p2 p3 p4 p5 c0 c1 c2 c3 c4 c5 c6 c7 c8 c9 HGX
 have gp:=z0b HPX.out HK7.out.below
 have HGX:=hid (HX3.out.later HK7.out.below)
 have p0:w7.cell? ⟨N2,0,none⟩=some (.bool true):=z0a gp rfl
 have p1:w7.cell? ⟨N2,1,none⟩=some (.bool true):=z0a gp rfl
 have p2:w7.cell? ⟨N2,2,none⟩=some (.bool true):=z0a gp rfl
 have p3:w7.cell? ⟨N2,3,none⟩=some (.bool false):=z0a gp rfl
 have p4:w7.cell? ⟨N2,4,none⟩=some (.bool false):=z0a gp rfl
 have p5:w7.cell? ⟨N2,5,none⟩=some (.bool false):=z0a gp rfl
 obtain⟨c0,c1,c2,c3,c4,c5,c6,c7,c8,c9⟩:=HGX.out.at
 rw [hk] at c0
 clear gp
 go_wp2_with fail
 refine (z4c HK7.out r.st HOK.out.st (by simp only [List.length_append,List.length_nil,z0r];omega)).mono ?_
 rintro e w8 ⟨rfl,hkk⟩
 have HK8:=hid hkk
 clear hkk HK7
 clear p0 p1 p2 p3 p4 p5 c0 c1 c2 c3 c4 c5 c6 c7 c8 c9 HGX
 have gp:=z0b HPX.out HK8.out.below
 have HGX:=hid (HX3.out.later HK8.out.below)
 have p0:w8.cell? ⟨N2,0,none⟩=some (.bool true):=z0a gp rfl
 have p1:w8.cell? ⟨N2,1,none⟩=some (.bool true):=z0a gp rfl
 have p2:w8.cell? ⟨N2,2,none⟩=some (.bool true):=z0a gp rfl
 have p3:w8.cell? ⟨N2,3,none⟩=some (.bool false):=z0a gp rfl
 have p4:w8.cell? ⟨N2,4,none⟩=some (.bool false):=z0a gp rfl
 have p5:w8.cell? ⟨N2,5,none⟩=some (.bool false):=z0a gp rfl
 obtain⟨c0,c1,c2,c3,c4,c5,c6,c7,c8,c9⟩:=HGX.out.at
 rw [hk] at c0
 clear gp
 go_wp2_with fail
 refine (wo_bool HK8.out r.cp (by simp only [List.length_append,List.length_nil,z0r];omega)).mono ?_
 rintro e w9 ⟨rfl,hkk⟩
 have HK9:=hid hkk
 clear hkk HK8
 clear p0 p1 p2 p3 p4 p5 c0 c1 c2 c3 c4 c5 c6 c7 c8 c9 HGX
 have gp:=z0b HPX.out HK9.out.below
 have HGX:=hid (HX3.out.later HK9.out.below)
 have p0:w9.cell? ⟨N2,0,none⟩=some (.bool true):=z0a gp rfl
 have p1:w9.cell? ⟨N2,1,none⟩=some (.bool true):=z0a gp rfl
 have p2:w9.cell? ⟨N2,2,none⟩=some (.bool true):=z0a gp rfl
 have p3:w9.cell? ⟨N2,3,none⟩=some (.bool false):=z0a gp rfl
 have p4:w9.cell? ⟨N2,4,none⟩=some (.bool false):=z0a gp rfl
 have p5:w9.cell? ⟨N2,5,none⟩=some (.bool false):=z0a gp rfl
 obtain⟨c0,c1,c2,c3,c4,c5,c6,c7,c8,c9⟩:=HGX.out.at
 rw [hk] at c0
 clear gp
 go_wp2_with fail
 have hbx:(((((([]:List Nat)++le ((2:Int)).toNat 1)++le r.sg.toNat 4)++le r.tx.toNat 4)++le r.st.toNat 1) ++ [bitN r.cp])=z0o (r.x L T M):=by
  unfold z0o
  rw [show ((r.x L T M)).k=2 from hk]
  simp [kS,kT,kB,kA,kO,kP,Rv.x,List.append_assoc]
 have hlx:(z0o (r.x L T M)).length≤100000:=by rw [← hbx];simp only [List.length_append,List.length_nil,List.length_cons,z0r,keyB];omega
 have HKz:Hid (WrOk w3 w9 Bw 512 (0,z0o (r.x L T M))):=hid (by rw [← hbx];exact HK9.out)
 clear hbx HK9
 generalize z0o (r.x L T M)=Z at *
 refine (z3i w3 w9 Bw 512 Z HKz.out hlx).mono ?_
 rintro e w10 ⟨pz',cz,rfl,hbz,hsz,_⟩
 have HF:Hid (z3k W Z (.returned (.tuple #[.slice pz' Z.length cz,.int .i64 0])) w10):=hid ⟨pz',cz,rfl,hsz,HB3.out.trans (hbz.mono HB3.out.size)⟩
 clear hbz hsz hlx
 generalize Z.length=nz at *
 clear p0 p1 p2 p3 p4 p5 c0 c1 c2 c3 c4 c5 c6 c7 c8 c9 HGX
 go_wp2_with fail
 go_ret2
 exact HF.out
theorem rec_write3 (r:Rv) (L:List Ln) (T:List Tk) (M:List Ln) (W:World) (hok:Rxok (r.x L T M)) (hk:r.k=3):Calls Tryz.prog 105 #[.agg (rcs r)] W (z3k W (z0o (r.x L T M))):=by
 obtain⟨W1,hW1,hb1⟩:∃ W1,W.alloc (.cells (rcs r) 40)=W1∧Below W.heap.size W W1:=⟨_,rfl,(Below.refl _ _).alloc (Nat.le_refl _) _⟩
 obtain⟨B,hB⟩:∃ B,W.heap.size=B:=⟨_,rfl⟩
 have hrb:=RB.new W r
 rw [hW1,hB] at hrb
 have HX1:=hid hrb
 have HW1:=hid hW1
 have HB1:=hid hb1
 have HRE:=hid hB
 have c0:W1.cell? ⟨B,0,none⟩=some (.int .u8 r.k):=z0a hrb rfl
 rw [hk] at c0
 clear hW1 hb1 hB hrb
 have HOK:=hid hok
 have u1:=wrap_u64 hok.sg
 have u2:=wrap_u64 hok.tx
 have u3:IntKind.u64.wrap r.st=r.st:=wrap_u64 ⟨hok.st.1,Int.le_trans hok.st.2 (by decide)⟩
 have u4:IntKind.u64.wrap r.o=r.o:=wrap_u64 ⟨hok.o.1,Int.le_trans hok.o.2 (by decide)⟩
 change IntKind.u64.wrap r.sg=r.sg at u1
 change IntKind.u64.wrap r.tx=r.tx at u2
 have hpa:=z2u 3 W1
 unfold z2e at hpa
 rw [show ptc 3=#[.bool false,.bool true,.bool false,.bool true,.bool false,.bool false] from rfl] at hpa
 clear hok
 go_enter Tryz.func105,Tryz.ntmps105
 go_upto_region 1 with (fail)
 rw [HW1.out,HRE.out]
 go_wp2_with fail
 refine hpa.mono ?_
 rintro e w2 ⟨rfl,h2⟩
 have HB2:=hid (HB1.out.trans (h2.mono HB1.out.size))
 have HX2:=hid (HX1.out.later h2)
 clear h2 hpa c0
 obtain⟨N2,hN2⟩:∃ n,w2.heap.size=n:=⟨_,rfl⟩
 obtain⟨w3,hwn,hxn,hbn⟩:∃ w3,(w2.alloc (.cells pz 97)).setRow N2 #[.bool false,.bool true,.bool false,.bool true,.bool false,.bool false]=w3∧w3.heap[N2]?=some (.cells #[.bool false,.bool true,.bool false,.bool true,.bool false,.bool false] 97 (0,0))∧Below w2.heap.size w2 w3:=⟨_,rfl,by rw [← hN2];exact setRow_heap _ _ _ _ _ _ (z0c w2 _),below_setRow ((Below.refl _ _).alloc (Nat.le_refl _) _) (by omega) _⟩
 have hx2:=z0c w2 (.cells pz 97)
 rw [hN2] at hx2
 have HPX:=hid hxn
 have HPZ:=hid hx2
 have HBN:=hid hbn
 have HWN:=hid hwn
 have HNN:=hid hN2
 have HS6:Hid ((#[.bool false,.bool true,.bool false,.bool true,.bool false,.bool false]:Array Value).size=6):=hid rfl
 have HA6:Hid ((#[.bool false,.bool true,.bool false,.bool true,.bool false,.bool false]:Array Value).all (·.oneCell')=true):=hid (by simp [Value.oneCell'])
 clear hx2 hxn hbn hwn hN2
 have HB3:=hid (HB2.out.trans (HBN.out.mono HB2.out.size))
 have HX3:=hid (HX2.out.later HBN.out)
 go_wp2_with ((try rw [HNN.out]);(with_reducible refine z0q #[.bool false,.bool true,.bool false,.bool true,.bool false,.bool false] HS6.out HA6.out HPZ.out ?_ ?_ ?_);rfl;rfl;rw [HWN.out])
 refine (z6o w3 w3 512 (Below.refl _ _)).mono ?_
 rintro e w4 ⟨Bw,rfl,hkk⟩
 rw [show lim 512=512 from rfl] at hkk
 have HK4:=hid hkk
 clear hkk
 have gp:=z0b HPX.out HK4.out.below
 have HGX:=hid (HX3.out.later HK4.out.below)
 have p0:w4.cell? ⟨N2,0,none⟩=some (.bool false):=z0a gp rfl
 have p1:w4.cell? ⟨N2,1,none⟩=some (.bool true):=z0a gp rfl
 have p2:w4.cell? ⟨N2,2,none⟩=some (.bool false):=z0a gp rfl
 have p3:w4.cell? ⟨N2,3,none⟩=some (.bool true):=z0a gp rfl
 have p4:w4.cell? ⟨N2,4,none⟩=some (.bool false):=z0a gp rfl
 have p5:w4.cell? ⟨N2,5,none⟩=some (.bool false):=z0a gp rfl
 obtain⟨c0,c1,c2,c3,c4,c5,c6,c7,c8,c9⟩:=HGX.out.at
 rw [hk] at c0
 clear gp
 go_wp2_with fail
 refine (z4c HK4.out 3 (by omega) (by simp)).mono ?_
 rintro e w5 ⟨rfl,hkk⟩
 have HK5:=hid hkk
 clear hkk HK4
 clear p0 p1 p2 p3 p4 p5 c0 c1 c2 c3 c4 c5 c6 c7 c8 c9 HGX
 have gp:=z0b HPX.out HK5.out.below
 have HGX:=hid (HX3.out.later HK5.out.below)
 have p0:w5.cell? ⟨N2,0,none⟩=some (.bool false):=z0a gp rfl
 have p1:w5.cell? ⟨N2,1,none⟩=some (.bool true):=z0a gp rfl
 have p2:w5.cell? ⟨N2,2,none⟩=some (.bool false):=z0a gp rfl
 have p3:w5.cell? ⟨N2,3,none⟩=some (.bool true):=z0a gp rfl
 have p4:w5.cell? ⟨N2,4,none⟩=some (.bool false):=z0a gp rfl
 have p5:w5.cell? ⟨N2,5,none⟩=some (.bool false):=z0a gp rfl
 obtain⟨c0,c1,c2,c3,c4,c5,c6,c7,c8,c9⟩:=HGX.out.at
 rw [hk] at c0
 clear gp
 go_wp2_with fail
 refine (z4l HK5.out r.tx HOK.out.tx (by simp only [List.length_append,List.length_nil,z0r];omega)).mono ?_
 rintro e w6 ⟨rfl,hkk⟩
 have HK6:=hid hkk
 clear hkk HK5
 clear p0 p1 p2 p3 p4 p5 c0 c1 c2 c3 c4 c5 c6 c7 c8 c9 HGX
 have gp:=z0b HPX.out HK6.out.below
 have HGX:=hid (HX3.out.later HK6.out.below)
 have p0:w6.cell? ⟨N2,0,none⟩=some (.bool false):=z0a gp rfl
 have p1:w6.cell? ⟨N2,1,none⟩=some (.bool true):=z0a gp rfl
 have p2:w6.cell? ⟨N2,2,none⟩=some (.bool false):=z0a gp rfl
 have p3:w6.cell? ⟨N2,3,none⟩=some (.bool true):=z0a gp rfl
 have p4:w6.cell? ⟨N2,4,none⟩=some (.bool false):=z0a gp rfl
 have p5:w6.cell? ⟨N2,5,none⟩=some (.bool false):=z0a gp rfl
 obtain⟨c0,c1,c2,c3,c4,c5,c6,c7,c8,c9⟩:=HGX.out.at
 rw [hk] at c0
 clear gp
 go_wp2_with fail
 have HKb:=hid (HK6.out.later (Chg.of_below (S:=fun _=>False) ((Below.refl w6.heap.size w6).alloc (Nat.le_refl _) (.cells #[.int .u8 r.ka,.int .u8 r.kb,.int .u8 r.kc] 5))))
 refine (wo_raw HKb.out (some ⟨w6.heap.size,0,none⟩) 3 3 (keyB (r.ka,r.kb,r.kc)) (sl_three r.ka r.kb r.kc HOK.out.key.1 HOK.out.key.2.1 HOK.out.key.2.2 w6) (by simp only [List.length_append,List.length_nil,z0r];omega)).mono ?_
 rintro e w7 ⟨rfl,hkk⟩
 have HK7:=hid hkk
 clear hkk HK6 HKb
 clear p0 p1 p2 p3 p4 p5 c0 c1 c2 c3 c4 c5 c6 c7 c8 c9 HGX
 have gp:=z0b HPX.out HK7.out.below
 have HGX:=hid (HX3.out.later HK7.out.below)
 have p0:w7.cell? ⟨N2,0,none⟩=some (.bool false):=z0a gp rfl
 have p1:w7.cell? ⟨N2,1,none⟩=some (.bool true):=z0a gp rfl
 have p2:w7.cell? ⟨N2,2,none⟩=some (.bool false):=z0a gp rfl
 have p3:w7.cell? ⟨N2,3,none⟩=some (.bool true):=z0a gp rfl
 have p4:w7.cell? ⟨N2,4,none⟩=some (.bool false):=z0a gp rfl
 have p5:w7.cell? ⟨N2,5,none⟩=some (.bool false):=z0a gp rfl
 obtain⟨c0,c1,c2,c3,c4,c5,c6,c7,c8,c9⟩:=HGX.out.at
 rw [hk] at c0
 clear gp
 go_wp2_with fail
 refine (wo_int HK7.out r.d HOK.out.d (by simp only [List.length_append,List.length_nil,z0r,keyB,List.length_cons];omega)).mono ?_
 rintro e w8 ⟨rfl,hkk⟩
 have HK8:=hid hkk
 clear hkk HK7
 clear p0 p1 p2 p3 p4 p5 c0 c1 c2 c3 c4 c5 c6 c7 c8 c9 HGX
 have gp:=z0b HPX.out HK8.out.below
 have HGX:=hid (HX3.out.later HK8.out.below)
 have p0:w8.cell? ⟨N2,0,none⟩=some (.bool false):=z0a gp rfl
 have p1:w8.cell? ⟨N2,1,none⟩=some (.bool true):=z0a gp rfl
 have p2:w8.cell? ⟨N2,2,none⟩=some (.bool false):=z0a gp rfl
 have p3:w8.cell? ⟨N2,3,none⟩=some (.bool true):=z0a gp rfl
 have p4:w8.cell? ⟨N2,4,none⟩=some (.bool false):=z0a gp rfl
 have p5:w8.cell? ⟨N2,5,none⟩=some (.bool false):=z0a gp rfl
 obtain⟨c0,c1,c2,c3,c4,c5,c6,c7,c8,c9⟩:=HGX.out.at
 rw [hk] at c0
 clear gp
 go_wp2_with fail
 have hbx:((((([]:List Nat)++le ((3:Int)).toNat 1)++le r.tx.toNat 4)++keyB (r.ka,r.kb,r.kc))++le (u64 r.d) 8)=z0o (r.x L T M):=by
  unfold z0o
  rw [show ((r.x L T M)).k=3 from hk]
  simp [kS,kT,kB,kA,kO,kP,Rv.x,List.append_assoc]
 have hlx:(z0o (r.x L T M)).length≤100000:=by rw [← hbx];simp only [List.length_append,List.length_nil,List.length_cons,z0r,keyB];omega
 have HKz:Hid (WrOk w3 w8 Bw 512 (0,z0o (r.x L T M))):=hid (by rw [← hbx];exact HK8.out)
 clear hbx HK8
 generalize z0o (r.x L T M)=Z at *
 refine (z3i w3 w8 Bw 512 Z HKz.out hlx).mono ?_
 rintro e w9 ⟨pz',cz,rfl,hbz,hsz,_⟩
 have HF:Hid (z3k W Z (.returned (.tuple #[.slice pz' Z.length cz,.int .i64 0])) w9):=hid ⟨pz',cz,rfl,hsz,HB3.out.trans (hbz.mono HB3.out.size)⟩
 clear hbz hsz hlx
 generalize Z.length=nz at *
 clear p0 p1 p2 p3 p4 p5 c0 c1 c2 c3 c4 c5 c6 c7 c8 c9 HGX
 go_wp2_with fail
 go_ret2
 exact HF.out
theorem rec_write4 (r:Rv) (L:List Ln) (T:List Tk) (M:List Ln) (W:World) (hok:Rxok (r.x L T M)) (hk:r.k=4):Calls Tryz.prog 105 #[.agg (rcs r)] W (z3k W (z0o (r.x L T M))):=by
 obtain⟨W1,hW1,hb1⟩:∃ W1,W.alloc (.cells (rcs r) 40)=W1∧Below W.heap.size W W1:=⟨_,rfl,(Below.refl _ _).alloc (Nat.le_refl _) _⟩
 obtain⟨B,hB⟩:∃ B,W.heap.size=B:=⟨_,rfl⟩
 have hrb:=RB.new W r
 rw [hW1,hB] at hrb
 have HX1:=hid hrb
 have HW1:=hid hW1
 have HB1:=hid hb1
 have HRE:=hid hB
 have c0:W1.cell? ⟨B,0,none⟩=some (.int .u8 r.k):=z0a hrb rfl
 rw [hk] at c0
 clear hW1 hb1 hB hrb
 have HOK:=hid hok
 have u1:=wrap_u64 hok.sg
 have u2:=wrap_u64 hok.tx
 have u3:IntKind.u64.wrap r.st=r.st:=wrap_u64 ⟨hok.st.1,Int.le_trans hok.st.2 (by decide)⟩
 have u4:IntKind.u64.wrap r.o=r.o:=wrap_u64 ⟨hok.o.1,Int.le_trans hok.o.2 (by decide)⟩
 change IntKind.u64.wrap r.sg=r.sg at u1
 change IntKind.u64.wrap r.tx=r.tx at u2
 have hpa:=z2u 4 W1
 unfold z2e at hpa
 rw [show ptc 4=#[.bool false,.bool true,.bool false,.bool false,.bool false,.bool false] from rfl] at hpa
 clear hok
 go_enter Tryz.func105,Tryz.ntmps105
 go_upto_region 1 with (fail)
 rw [HW1.out,HRE.out]
 go_wp2_with fail
 refine hpa.mono ?_
 rintro e w2 ⟨rfl,h2⟩
 have HB2:=hid (HB1.out.trans (h2.mono HB1.out.size))
 have HX2:=hid (HX1.out.later h2)
 clear h2 hpa c0
 obtain⟨N2,hN2⟩:∃ n,w2.heap.size=n:=⟨_,rfl⟩
 obtain⟨w3,hwn,hxn,hbn⟩:∃ w3,(w2.alloc (.cells pz 97)).setRow N2 #[.bool false,.bool true,.bool false,.bool false,.bool false,.bool false]=w3∧w3.heap[N2]?=some (.cells #[.bool false,.bool true,.bool false,.bool false,.bool false,.bool false] 97 (0,0))∧Below w2.heap.size w2 w3:=⟨_,rfl,by rw [← hN2];exact setRow_heap _ _ _ _ _ _ (z0c w2 _),below_setRow ((Below.refl _ _).alloc (Nat.le_refl _) _) (by omega) _⟩
 have hx2:=z0c w2 (.cells pz 97)
 rw [hN2] at hx2
 have HPX:=hid hxn
 have HPZ:=hid hx2
 have HBN:=hid hbn
 have HWN:=hid hwn
 have HNN:=hid hN2
 have HS6:Hid ((#[.bool false,.bool true,.bool false,.bool false,.bool false,.bool false]:Array Value).size=6):=hid rfl
 have HA6:Hid ((#[.bool false,.bool true,.bool false,.bool false,.bool false,.bool false]:Array Value).all (·.oneCell')=true):=hid (by simp [Value.oneCell'])
 clear hx2 hxn hbn hwn hN2
 have HB3:=hid (HB2.out.trans (HBN.out.mono HB2.out.size))
 have HX3:=hid (HX2.out.later HBN.out)
 go_wp2_with ((try rw [HNN.out]);(with_reducible refine z0q #[.bool false,.bool true,.bool false,.bool false,.bool false,.bool false] HS6.out HA6.out HPZ.out ?_ ?_ ?_);rfl;rfl;rw [HWN.out])
 refine (z6o w3 w3 512 (Below.refl _ _)).mono ?_
 rintro e w4 ⟨Bw,rfl,hkk⟩
 rw [show lim 512=512 from rfl] at hkk
 have HK4:=hid hkk
 clear hkk
 have gp:=z0b HPX.out HK4.out.below
 have HGX:=hid (HX3.out.later HK4.out.below)
 have p0:w4.cell? ⟨N2,0,none⟩=some (.bool false):=z0a gp rfl
 have p1:w4.cell? ⟨N2,1,none⟩=some (.bool true):=z0a gp rfl
 have p2:w4.cell? ⟨N2,2,none⟩=some (.bool false):=z0a gp rfl
 have p3:w4.cell? ⟨N2,3,none⟩=some (.bool false):=z0a gp rfl
 have p4:w4.cell? ⟨N2,4,none⟩=some (.bool false):=z0a gp rfl
 have p5:w4.cell? ⟨N2,5,none⟩=some (.bool false):=z0a gp rfl
 obtain⟨c0,c1,c2,c3,c4,c5,c6,c7,c8,c9⟩:=HGX.out.at
 rw [hk] at c0
 clear gp
 go_wp2_with fail
 refine (z4c HK4.out 4 (by omega) (by simp)).mono ?_
 rintro e w5 ⟨rfl,hkk⟩
 have HK5:=hid hkk
 clear hkk HK4
 clear p0 p1 p2 p3 p4 p5 c0 c1 c2 c3 c4 c5 c6 c7 c8 c9 HGX
 have gp:=z0b HPX.out HK5.out.below
 have HGX:=hid (HX3.out.later HK5.out.below)
 have p0:w5.cell? ⟨N2,0,none⟩=some (.bool false):=z0a gp rfl
 have p1:w5.cell? ⟨N2,1,none⟩=some (.bool true):=z0a gp rfl
 have p2:w5.cell? ⟨N2,2,none⟩=some (.bool false):=z0a gp rfl
 have p3:w5.cell? ⟨N2,3,none⟩=some (.bool false):=z0a gp rfl
 have p4:w5.cell? ⟨N2,4,none⟩=some (.bool false):=z0a gp rfl
 have p5:w5.cell? ⟨N2,5,none⟩=some (.bool false):=z0a gp rfl
 obtain⟨c0,c1,c2,c3,c4,c5,c6,c7,c8,c9⟩:=HGX.out.at
 rw [hk] at c0
 clear gp
 go_wp2_with fail
 refine (z4l HK5.out r.tx HOK.out.tx (by simp only [List.length_append,List.length_nil,z0r];omega)).mono ?_
 rintro e w6 ⟨rfl,hkk⟩
 have HK6:=hid hkk
 clear hkk HK5
 clear p0 p1 p2 p3 p4 p5 c0 c1 c2 c3 c4 c5 c6 c7 c8 c9 HGX
 have gp:=z0b HPX.out HK6.out.below
 have HGX:=hid (HX3.out.later HK6.out.below)
 have p0:w6.cell? ⟨N2,0,none⟩=some (.bool false):=z0a gp rfl
 have p1:w6.cell? ⟨N2,1,none⟩=some (.bool true):=z0a gp rfl
 have p2:w6.cell? ⟨N2,2,none⟩=some (.bool false):=z0a gp rfl
 have p3:w6.cell? ⟨N2,3,none⟩=some (.bool false):=z0a gp rfl
 have p4:w6.cell? ⟨N2,4,none⟩=some (.bool false):=z0a gp rfl
 have p5:w6.cell? ⟨N2,5,none⟩=some (.bool false):=z0a gp rfl
 obtain⟨c0,c1,c2,c3,c4,c5,c6,c7,c8,c9⟩:=HGX.out.at
 rw [hk] at c0
 clear gp
 go_wp2_with fail
 have hbx:((([]:List Nat)++le ((4:Int)).toNat 1)++le r.tx.toNat 4)=z0o (r.x L T M):=by
  unfold z0o
  rw [show ((r.x L T M)).k=4 from hk]
  simp [kS,kT,kB,kA,kO,kP,Rv.x,List.append_assoc]
 have hlx:(z0o (r.x L T M)).length≤100000:=by rw [← hbx];simp only [List.length_append,List.length_nil,List.length_cons,z0r,keyB];omega
 have HKz:Hid (WrOk w3 w6 Bw 512 (0,z0o (r.x L T M))):=hid (by rw [← hbx];exact HK6.out)
 clear hbx HK6
 generalize z0o (r.x L T M)=Z at *
 refine (z3i w3 w6 Bw 512 Z HKz.out hlx).mono ?_
 rintro e w7 ⟨pz',cz,rfl,hbz,hsz,_⟩
 have HF:Hid (z3k W Z (.returned (.tuple #[.slice pz' Z.length cz,.int .i64 0])) w7):=hid ⟨pz',cz,rfl,hsz,HB3.out.trans (hbz.mono HB3.out.size)⟩
 clear hbz hsz hlx
 generalize Z.length=nz at *
 clear p0 p1 p2 p3 p4 p5 c0 c1 c2 c3 c4 c5 c6 c7 c8 c9 HGX
 go_wp2_with fail
 go_ret2
 exact HF.out
theorem rec_write5 (r:Rv) (L:List Ln) (T:List Tk) (M:List Ln) (W:World) (hok:Rxok (r.x L T M)) (hk:r.k=5):Calls Tryz.prog 105 #[.agg (rcs r)] W (z3k W (z0o (r.x L T M))):=by
 obtain⟨W1,hW1,hb1⟩:∃ W1,W.alloc (.cells (rcs r) 40)=W1∧Below W.heap.size W W1:=⟨_,rfl,(Below.refl _ _).alloc (Nat.le_refl _) _⟩
 obtain⟨B,hB⟩:∃ B,W.heap.size=B:=⟨_,rfl⟩
 have hrb:=RB.new W r
 rw [hW1,hB] at hrb
 have HX1:=hid hrb
 have HW1:=hid hW1
 have HB1:=hid hb1
 have HRE:=hid hB
 have c0:W1.cell? ⟨B,0,none⟩=some (.int .u8 r.k):=z0a hrb rfl
 rw [hk] at c0
 clear hW1 hb1 hB hrb
 have HOK:=hid hok
 have u1:=wrap_u64 hok.sg
 have u2:=wrap_u64 hok.tx
 have u3:IntKind.u64.wrap r.st=r.st:=wrap_u64 ⟨hok.st.1,Int.le_trans hok.st.2 (by decide)⟩
 have u4:IntKind.u64.wrap r.o=r.o:=wrap_u64 ⟨hok.o.1,Int.le_trans hok.o.2 (by decide)⟩
 change IntKind.u64.wrap r.sg=r.sg at u1
 change IntKind.u64.wrap r.tx=r.tx at u2
 have hpa:=z2u 5 W1
 unfold z2e at hpa
 rw [show ptc 5=#[.bool false,.bool true,.bool false,.bool false,.bool false,.bool false] from rfl] at hpa
 clear hok
 go_enter Tryz.func105,Tryz.ntmps105
 go_upto_region 1 with (fail)
 rw [HW1.out,HRE.out]
 go_wp2_with fail
 refine hpa.mono ?_
 rintro e w2 ⟨rfl,h2⟩
 have HB2:=hid (HB1.out.trans (h2.mono HB1.out.size))
 have HX2:=hid (HX1.out.later h2)
 clear h2 hpa c0
 obtain⟨N2,hN2⟩:∃ n,w2.heap.size=n:=⟨_,rfl⟩
 obtain⟨w3,hwn,hxn,hbn⟩:∃ w3,(w2.alloc (.cells pz 97)).setRow N2 #[.bool false,.bool true,.bool false,.bool false,.bool false,.bool false]=w3∧w3.heap[N2]?=some (.cells #[.bool false,.bool true,.bool false,.bool false,.bool false,.bool false] 97 (0,0))∧Below w2.heap.size w2 w3:=⟨_,rfl,by rw [← hN2];exact setRow_heap _ _ _ _ _ _ (z0c w2 _),below_setRow ((Below.refl _ _).alloc (Nat.le_refl _) _) (by omega) _⟩
 have hx2:=z0c w2 (.cells pz 97)
 rw [hN2] at hx2
 have HPX:=hid hxn
 have HPZ:=hid hx2
 have HBN:=hid hbn
 have HWN:=hid hwn
 have HNN:=hid hN2
 have HS6:Hid ((#[.bool false,.bool true,.bool false,.bool false,.bool false,.bool false]:Array Value).size=6):=hid rfl
 have HA6:Hid ((#[.bool false,.bool true,.bool false,.bool false,.bool false,.bool false]:Array Value).all (·.oneCell')=true):=hid (by simp [Value.oneCell'])
 clear hx2 hxn hbn hwn hN2
 have HB3:=hid (HB2.out.trans (HBN.out.mono HB2.out.size))
 have HX3:=hid (HX2.out.later HBN.out)
 go_wp2_with ((try rw [HNN.out]);(with_reducible refine z0q #[.bool false,.bool true,.bool false,.bool false,.bool false,.bool false] HS6.out HA6.out HPZ.out ?_ ?_ ?_);rfl;rfl;rw [HWN.out])
 refine (z6o w3 w3 512 (Below.refl _ _)).mono ?_
 rintro e w4 ⟨Bw,rfl,hkk⟩
 rw [show lim 512=512 from rfl] at hkk
 have HK4:=hid hkk
 clear hkk
 have gp:=z0b HPX.out HK4.out.below
 have HGX:=hid (HX3.out.later HK4.out.below)
 have p0:w4.cell? ⟨N2,0,none⟩=some (.bool false):=z0a gp rfl
 have p1:w4.cell? ⟨N2,1,none⟩=some (.bool true):=z0a gp rfl
 have p2:w4.cell? ⟨N2,2,none⟩=some (.bool false):=z0a gp rfl
 have p3:w4.cell? ⟨N2,3,none⟩=some (.bool false):=z0a gp rfl
 have p4:w4.cell? ⟨N2,4,none⟩=some (.bool false):=z0a gp rfl
 have p5:w4.cell? ⟨N2,5,none⟩=some (.bool false):=z0a gp rfl
 obtain⟨c0,c1,c2,c3,c4,c5,c6,c7,c8,c9⟩:=HGX.out.at
 rw [hk] at c0
 clear gp
 go_wp2_with fail
 refine (z4c HK4.out 5 (by omega) (by simp)).mono ?_
 rintro e w5 ⟨rfl,hkk⟩
 have HK5:=hid hkk
 clear hkk HK4
 clear p0 p1 p2 p3 p4 p5 c0 c1 c2 c3 c4 c5 c6 c7 c8 c9 HGX
 have gp:=z0b HPX.out HK5.out.below
 have HGX:=hid (HX3.out.later HK5.out.below)
 have p0:w5.cell? ⟨N2,0,none⟩=some (.bool false):=z0a gp rfl
 have p1:w5.cell? ⟨N2,1,none⟩=some (.bool true):=z0a gp rfl
 have p2:w5.cell? ⟨N2,2,none⟩=some (.bool false):=z0a gp rfl
 have p3:w5.cell? ⟨N2,3,none⟩=some (.bool false):=z0a gp rfl
 have p4:w5.cell? ⟨N2,4,none⟩=some (.bool false):=z0a gp rfl
 have p5:w5.cell? ⟨N2,5,none⟩=some (.bool false):=z0a gp rfl
 obtain⟨c0,c1,c2,c3,c4,c5,c6,c7,c8,c9⟩:=HGX.out.at
 rw [hk] at c0
 clear gp
 go_wp2_with fail
 refine (z4l HK5.out r.tx HOK.out.tx (by simp only [List.length_append,List.length_nil,z0r];omega)).mono ?_
 rintro e w6 ⟨rfl,hkk⟩
 have HK6:=hid hkk
 clear hkk HK5
 clear p0 p1 p2 p3 p4 p5 c0 c1 c2 c3 c4 c5 c6 c7 c8 c9 HGX
 have gp:=z0b HPX.out HK6.out.below
 have HGX:=hid (HX3.out.later HK6.out.below)
 have p0:w6.cell? ⟨N2,0,none⟩=some (.bool false):=z0a gp rfl
 have p1:w6.cell? ⟨N2,1,none⟩=some (.bool true):=z0a gp rfl
 have p2:w6.cell? ⟨N2,2,none⟩=some (.bool false):=z0a gp rfl
 have p3:w6.cell? ⟨N2,3,none⟩=some (.bool false):=z0a gp rfl
 have p4:w6.cell? ⟨N2,4,none⟩=some (.bool false):=z0a gp rfl
 have p5:w6.cell? ⟨N2,5,none⟩=some (.bool false):=z0a gp rfl
 obtain⟨c0,c1,c2,c3,c4,c5,c6,c7,c8,c9⟩:=HGX.out.at
 rw [hk] at c0
 clear gp
 go_wp2_with fail
 have hbx:((([]:List Nat)++le ((5:Int)).toNat 1)++le r.tx.toNat 4)=z0o (r.x L T M):=by
  unfold z0o
  rw [show ((r.x L T M)).k=5 from hk]
  simp [kS,kT,kB,kA,kO,kP,Rv.x,List.append_assoc]
 have hlx:(z0o (r.x L T M)).length≤100000:=by rw [← hbx];simp only [List.length_append,List.length_nil,List.length_cons,z0r,keyB];omega
 have HKz:Hid (WrOk w3 w6 Bw 512 (0,z0o (r.x L T M))):=hid (by rw [← hbx];exact HK6.out)
 clear hbx HK6
 generalize z0o (r.x L T M)=Z at *
 refine (z3i w3 w6 Bw 512 Z HKz.out hlx).mono ?_
 rintro e w7 ⟨pz',cz,rfl,hbz,hsz,_⟩
 have HF:Hid (z3k W Z (.returned (.tuple #[.slice pz' Z.length cz,.int .i64 0])) w7):=hid ⟨pz',cz,rfl,hsz,HB3.out.trans (hbz.mono HB3.out.size)⟩
 clear hbz hsz hlx
 generalize Z.length=nz at *
 clear p0 p1 p2 p3 p4 p5 c0 c1 c2 c3 c4 c5 c6 c7 c8 c9 HGX
 go_wp2_with fail
 go_ret2
 exact HF.out
theorem rec_write6 (r:Rv) (L:List Ln) (T:List Tk) (M:List Ln) (W:World) (hok:Rxok (r.x L T M)) (hk:r.k=6):Calls Tryz.prog 105 #[.agg (rcs r)] W (z3k W (z0o (r.x L T M))):=by
 obtain⟨W1,hW1,hb1⟩:∃ W1,W.alloc (.cells (rcs r) 40)=W1∧Below W.heap.size W W1:=⟨_,rfl,(Below.refl _ _).alloc (Nat.le_refl _) _⟩
 obtain⟨B,hB⟩:∃ B,W.heap.size=B:=⟨_,rfl⟩
 have hrb:=RB.new W r
 rw [hW1,hB] at hrb
 have HX1:=hid hrb
 have HW1:=hid hW1
 have HB1:=hid hb1
 have HRE:=hid hB
 have c0:W1.cell? ⟨B,0,none⟩=some (.int .u8 r.k):=z0a hrb rfl
 rw [hk] at c0
 clear hW1 hb1 hB hrb
 have HOK:=hid hok
 have u1:=wrap_u64 hok.sg
 have u2:=wrap_u64 hok.tx
 have u3:IntKind.u64.wrap r.st=r.st:=wrap_u64 ⟨hok.st.1,Int.le_trans hok.st.2 (by decide)⟩
 have u4:IntKind.u64.wrap r.o=r.o:=wrap_u64 ⟨hok.o.1,Int.le_trans hok.o.2 (by decide)⟩
 change IntKind.u64.wrap r.sg=r.sg at u1
 change IntKind.u64.wrap r.tx=r.tx at u2
 have hpa:=z2u 6 W1
 unfold z2e at hpa
 rw [show ptc 6=#[.bool false,.bool true,.bool false,.bool true,.bool false,.bool false] from rfl] at hpa
 clear hok
 go_enter Tryz.func105,Tryz.ntmps105
 go_upto_region 1 with (fail)
 rw [HW1.out,HRE.out]
 go_wp2_with fail
 refine hpa.mono ?_
 rintro e w2 ⟨rfl,h2⟩
 have HB2:=hid (HB1.out.trans (h2.mono HB1.out.size))
 have HX2:=hid (HX1.out.later h2)
 clear h2 hpa c0
 obtain⟨N2,hN2⟩:∃ n,w2.heap.size=n:=⟨_,rfl⟩
 obtain⟨w3,hwn,hxn,hbn⟩:∃ w3,(w2.alloc (.cells pz 97)).setRow N2 #[.bool false,.bool true,.bool false,.bool true,.bool false,.bool false]=w3∧w3.heap[N2]?=some (.cells #[.bool false,.bool true,.bool false,.bool true,.bool false,.bool false] 97 (0,0))∧Below w2.heap.size w2 w3:=⟨_,rfl,by rw [← hN2];exact setRow_heap _ _ _ _ _ _ (z0c w2 _),below_setRow ((Below.refl _ _).alloc (Nat.le_refl _) _) (by omega) _⟩
 have hx2:=z0c w2 (.cells pz 97)
 rw [hN2] at hx2
 have HPX:=hid hxn
 have HPZ:=hid hx2
 have HBN:=hid hbn
 have HWN:=hid hwn
 have HNN:=hid hN2
 have HS6:Hid ((#[.bool false,.bool true,.bool false,.bool true,.bool false,.bool false]:Array Value).size=6):=hid rfl
 have HA6:Hid ((#[.bool false,.bool true,.bool false,.bool true,.bool false,.bool false]:Array Value).all (·.oneCell')=true):=hid (by simp [Value.oneCell'])
 clear hx2 hxn hbn hwn hN2
 have HB3:=hid (HB2.out.trans (HBN.out.mono HB2.out.size))
 have HX3:=hid (HX2.out.later HBN.out)
 go_wp2_with ((try rw [HNN.out]);(with_reducible refine z0q #[.bool false,.bool true,.bool false,.bool true,.bool false,.bool false] HS6.out HA6.out HPZ.out ?_ ?_ ?_);rfl;rfl;rw [HWN.out])
 refine (z6o w3 w3 512 (Below.refl _ _)).mono ?_
 rintro e w4 ⟨Bw,rfl,hkk⟩
 rw [show lim 512=512 from rfl] at hkk
 have HK4:=hid hkk
 clear hkk
 have gp:=z0b HPX.out HK4.out.below
 have HGX:=hid (HX3.out.later HK4.out.below)
 have p0:w4.cell? ⟨N2,0,none⟩=some (.bool false):=z0a gp rfl
 have p1:w4.cell? ⟨N2,1,none⟩=some (.bool true):=z0a gp rfl
 have p2:w4.cell? ⟨N2,2,none⟩=some (.bool false):=z0a gp rfl
 have p3:w4.cell? ⟨N2,3,none⟩=some (.bool true):=z0a gp rfl
 have p4:w4.cell? ⟨N2,4,none⟩=some (.bool false):=z0a gp rfl
 have p5:w4.cell? ⟨N2,5,none⟩=some (.bool false):=z0a gp rfl
 obtain⟨c0,c1,c2,c3,c4,c5,c6,c7,c8,c9⟩:=HGX.out.at
 rw [hk] at c0
 clear gp
 go_wp2_with fail
 refine (z4c HK4.out 6 (by omega) (by simp)).mono ?_
 rintro e w5 ⟨rfl,hkk⟩
 have HK5:=hid hkk
 clear hkk HK4
 clear p0 p1 p2 p3 p4 p5 c0 c1 c2 c3 c4 c5 c6 c7 c8 c9 HGX
 have gp:=z0b HPX.out HK5.out.below
 have HGX:=hid (HX3.out.later HK5.out.below)
 have p0:w5.cell? ⟨N2,0,none⟩=some (.bool false):=z0a gp rfl
 have p1:w5.cell? ⟨N2,1,none⟩=some (.bool true):=z0a gp rfl
 have p2:w5.cell? ⟨N2,2,none⟩=some (.bool false):=z0a gp rfl
 have p3:w5.cell? ⟨N2,3,none⟩=some (.bool true):=z0a gp rfl
 have p4:w5.cell? ⟨N2,4,none⟩=some (.bool false):=z0a gp rfl
 have p5:w5.cell? ⟨N2,5,none⟩=some (.bool false):=z0a gp rfl
 obtain⟨c0,c1,c2,c3,c4,c5,c6,c7,c8,c9⟩:=HGX.out.at
 rw [hk] at c0
 clear gp
 go_wp2_with fail
 refine (z4l HK5.out r.tx HOK.out.tx (by simp only [List.length_append,List.length_nil,z0r];omega)).mono ?_
 rintro e w6 ⟨rfl,hkk⟩
 have HK6:=hid hkk
 clear hkk HK5
 clear p0 p1 p2 p3 p4 p5 c0 c1 c2 c3 c4 c5 c6 c7 c8 c9 HGX
 have gp:=z0b HPX.out HK6.out.below
 have HGX:=hid (HX3.out.later HK6.out.below)
 have p0:w6.cell? ⟨N2,0,none⟩=some (.bool false):=z0a gp rfl
 have p1:w6.cell? ⟨N2,1,none⟩=some (.bool true):=z0a gp rfl
 have p2:w6.cell? ⟨N2,2,none⟩=some (.bool false):=z0a gp rfl
 have p3:w6.cell? ⟨N2,3,none⟩=some (.bool true):=z0a gp rfl
 have p4:w6.cell? ⟨N2,4,none⟩=some (.bool false):=z0a gp rfl
 have p5:w6.cell? ⟨N2,5,none⟩=some (.bool false):=z0a gp rfl
 obtain⟨c0,c1,c2,c3,c4,c5,c6,c7,c8,c9⟩:=HGX.out.at
 rw [hk] at c0
 clear gp
 go_wp2_with fail
 have HKb:=hid (HK6.out.later (Chg.of_below (S:=fun _=>False) ((Below.refl w6.heap.size w6).alloc (Nat.le_refl _) (.cells #[.int .u8 r.ka,.int .u8 r.kb,.int .u8 r.kc] 5))))
 refine (wo_raw HKb.out (some ⟨w6.heap.size,0,none⟩) 3 3 (keyB (r.ka,r.kb,r.kc)) (sl_three r.ka r.kb r.kc HOK.out.key.1 HOK.out.key.2.1 HOK.out.key.2.2 w6) (by simp only [List.length_append,List.length_nil,z0r];omega)).mono ?_
 rintro e w7 ⟨rfl,hkk⟩
 have HK7:=hid hkk
 clear hkk HK6 HKb
 clear p0 p1 p2 p3 p4 p5 c0 c1 c2 c3 c4 c5 c6 c7 c8 c9 HGX
 have gp:=z0b HPX.out HK7.out.below
 have HGX:=hid (HX3.out.later HK7.out.below)
 have p0:w7.cell? ⟨N2,0,none⟩=some (.bool false):=z0a gp rfl
 have p1:w7.cell? ⟨N2,1,none⟩=some (.bool true):=z0a gp rfl
 have p2:w7.cell? ⟨N2,2,none⟩=some (.bool false):=z0a gp rfl
 have p3:w7.cell? ⟨N2,3,none⟩=some (.bool true):=z0a gp rfl
 have p4:w7.cell? ⟨N2,4,none⟩=some (.bool false):=z0a gp rfl
 have p5:w7.cell? ⟨N2,5,none⟩=some (.bool false):=z0a gp rfl
 obtain⟨c0,c1,c2,c3,c4,c5,c6,c7,c8,c9⟩:=HGX.out.at
 rw [hk] at c0
 clear gp
 go_wp2_with fail
 refine (wo_int HK7.out r.d HOK.out.d (by simp only [List.length_append,List.length_nil,z0r,keyB,List.length_cons];omega)).mono ?_
 rintro e w8 ⟨rfl,hkk⟩
 have HK8:=hid hkk
 clear hkk HK7
 clear p0 p1 p2 p3 p4 p5 c0 c1 c2 c3 c4 c5 c6 c7 c8 c9 HGX
 have gp:=z0b HPX.out HK8.out.below
 have HGX:=hid (HX3.out.later HK8.out.below)
 have p0:w8.cell? ⟨N2,0,none⟩=some (.bool false):=z0a gp rfl
 have p1:w8.cell? ⟨N2,1,none⟩=some (.bool true):=z0a gp rfl
 have p2:w8.cell? ⟨N2,2,none⟩=some (.bool false):=z0a gp rfl
 have p3:w8.cell? ⟨N2,3,none⟩=some (.bool true):=z0a gp rfl
 have p4:w8.cell? ⟨N2,4,none⟩=some (.bool false):=z0a gp rfl
 have p5:w8.cell? ⟨N2,5,none⟩=some (.bool false):=z0a gp rfl
 obtain⟨c0,c1,c2,c3,c4,c5,c6,c7,c8,c9⟩:=HGX.out.at
 rw [hk] at c0
 clear gp
 go_wp2_with fail
 have hbx:((((([]:List Nat)++le ((6:Int)).toNat 1)++le r.tx.toNat 4)++keyB (r.ka,r.kb,r.kc))++le (u64 r.d) 8)=z0o (r.x L T M):=by
  unfold z0o
  rw [show ((r.x L T M)).k=6 from hk]
  simp [kS,kT,kB,kA,kO,kP,Rv.x,List.append_assoc]
 have hlx:(z0o (r.x L T M)).length≤100000:=by rw [← hbx];simp only [List.length_append,List.length_nil,List.length_cons,z0r,keyB];omega
 have HKz:Hid (WrOk w3 w8 Bw 512 (0,z0o (r.x L T M))):=hid (by rw [← hbx];exact HK8.out)
 clear hbx HK8
 generalize z0o (r.x L T M)=Z at *
 refine (z3i w3 w8 Bw 512 Z HKz.out hlx).mono ?_
 rintro e w9 ⟨pz',cz,rfl,hbz,hsz,_⟩
 have HF:Hid (z3k W Z (.returned (.tuple #[.slice pz' Z.length cz,.int .i64 0])) w9):=hid ⟨pz',cz,rfl,hsz,HB3.out.trans (hbz.mono HB3.out.size)⟩
 clear hbz hsz hlx
 generalize Z.length=nz at *
 clear p0 p1 p2 p3 p4 p5 c0 c1 c2 c3 c4 c5 c6 c7 c8 c9 HGX
 go_wp2_with fail
 go_ret2
 exact HF.out
theorem rec_write7 (r:Rv) (L:List Ln) (T:List Tk) (M:List Ln) (W:World) (hok:Rxok (r.x L T M)) (hk:r.k=7):Calls Tryz.prog 105 #[.agg (rcs r)] W (z3k W (z0o (r.x L T M))):=by
 obtain⟨W1,hW1,hb1⟩:∃ W1,W.alloc (.cells (rcs r) 40)=W1∧Below W.heap.size W W1:=⟨_,rfl,(Below.refl _ _).alloc (Nat.le_refl _) _⟩
 obtain⟨B,hB⟩:∃ B,W.heap.size=B:=⟨_,rfl⟩
 have hrb:=RB.new W r
 rw [hW1,hB] at hrb
 have HX1:=hid hrb
 have HW1:=hid hW1
 have HB1:=hid hb1
 have HRE:=hid hB
 have c0:W1.cell? ⟨B,0,none⟩=some (.int .u8 r.k):=z0a hrb rfl
 rw [hk] at c0
 clear hW1 hb1 hB hrb
 have HOK:=hid hok
 have u1:=wrap_u64 hok.sg
 have u2:=wrap_u64 hok.tx
 have u3:IntKind.u64.wrap r.st=r.st:=wrap_u64 ⟨hok.st.1,Int.le_trans hok.st.2 (by decide)⟩
 have u4:IntKind.u64.wrap r.o=r.o:=wrap_u64 ⟨hok.o.1,Int.le_trans hok.o.2 (by decide)⟩
 change IntKind.u64.wrap r.sg=r.sg at u1
 change IntKind.u64.wrap r.tx=r.tx at u2
 have hpa:=z2u 7 W1
 unfold z2e at hpa
 rw [show ptc 7=#[.bool false,.bool true,.bool false,.bool false,.bool false,.bool false] from rfl] at hpa
 clear hok
 go_enter Tryz.func105,Tryz.ntmps105
 go_upto_region 1 with (fail)
 rw [HW1.out,HRE.out]
 go_wp2_with fail
 refine hpa.mono ?_
 rintro e w2 ⟨rfl,h2⟩
 have HB2:=hid (HB1.out.trans (h2.mono HB1.out.size))
 have HX2:=hid (HX1.out.later h2)
 clear h2 hpa c0
 obtain⟨N2,hN2⟩:∃ n,w2.heap.size=n:=⟨_,rfl⟩
 obtain⟨w3,hwn,hxn,hbn⟩:∃ w3,(w2.alloc (.cells pz 97)).setRow N2 #[.bool false,.bool true,.bool false,.bool false,.bool false,.bool false]=w3∧w3.heap[N2]?=some (.cells #[.bool false,.bool true,.bool false,.bool false,.bool false,.bool false] 97 (0,0))∧Below w2.heap.size w2 w3:=⟨_,rfl,by rw [← hN2];exact setRow_heap _ _ _ _ _ _ (z0c w2 _),below_setRow ((Below.refl _ _).alloc (Nat.le_refl _) _) (by omega) _⟩
 have hx2:=z0c w2 (.cells pz 97)
 rw [hN2] at hx2
 have HPX:=hid hxn
 have HPZ:=hid hx2
 have HBN:=hid hbn
 have HWN:=hid hwn
 have HNN:=hid hN2
 have HS6:Hid ((#[.bool false,.bool true,.bool false,.bool false,.bool false,.bool false]:Array Value).size=6):=hid rfl
 have HA6:Hid ((#[.bool false,.bool true,.bool false,.bool false,.bool false,.bool false]:Array Value).all (·.oneCell')=true):=hid (by simp [Value.oneCell'])
 clear hx2 hxn hbn hwn hN2
 have HB3:=hid (HB2.out.trans (HBN.out.mono HB2.out.size))
 have HX3:=hid (HX2.out.later HBN.out)
 go_wp2_with ((try rw [HNN.out]);(with_reducible refine z0q #[.bool false,.bool true,.bool false,.bool false,.bool false,.bool false] HS6.out HA6.out HPZ.out ?_ ?_ ?_);rfl;rfl;rw [HWN.out])
 refine (z6o w3 w3 512 (Below.refl _ _)).mono ?_
 rintro e w4 ⟨Bw,rfl,hkk⟩
 rw [show lim 512=512 from rfl] at hkk
 have HK4:=hid hkk
 clear hkk
 have gp:=z0b HPX.out HK4.out.below
 have HGX:=hid (HX3.out.later HK4.out.below)
 have p0:w4.cell? ⟨N2,0,none⟩=some (.bool false):=z0a gp rfl
 have p1:w4.cell? ⟨N2,1,none⟩=some (.bool true):=z0a gp rfl
 have p2:w4.cell? ⟨N2,2,none⟩=some (.bool false):=z0a gp rfl
 have p3:w4.cell? ⟨N2,3,none⟩=some (.bool false):=z0a gp rfl
 have p4:w4.cell? ⟨N2,4,none⟩=some (.bool false):=z0a gp rfl
 have p5:w4.cell? ⟨N2,5,none⟩=some (.bool false):=z0a gp rfl
 obtain⟨c0,c1,c2,c3,c4,c5,c6,c7,c8,c9⟩:=HGX.out.at
 rw [hk] at c0
 clear gp
 go_wp2_with fail
 refine (z4c HK4.out 7 (by omega) (by simp)).mono ?_
 rintro e w5 ⟨rfl,hkk⟩
 have HK5:=hid hkk
 clear hkk HK4
 clear p0 p1 p2 p3 p4 p5 c0 c1 c2 c3 c4 c5 c6 c7 c8 c9 HGX
 have gp:=z0b HPX.out HK5.out.below
 have HGX:=hid (HX3.out.later HK5.out.below)
 have p0:w5.cell? ⟨N2,0,none⟩=some (.bool false):=z0a gp rfl
 have p1:w5.cell? ⟨N2,1,none⟩=some (.bool true):=z0a gp rfl
 have p2:w5.cell? ⟨N2,2,none⟩=some (.bool false):=z0a gp rfl
 have p3:w5.cell? ⟨N2,3,none⟩=some (.bool false):=z0a gp rfl
 have p4:w5.cell? ⟨N2,4,none⟩=some (.bool false):=z0a gp rfl
 have p5:w5.cell? ⟨N2,5,none⟩=some (.bool false):=z0a gp rfl
 obtain⟨c0,c1,c2,c3,c4,c5,c6,c7,c8,c9⟩:=HGX.out.at
 rw [hk] at c0
 clear gp
 go_wp2_with fail
 refine (z4l HK5.out r.tx HOK.out.tx (by simp only [List.length_append,List.length_nil,z0r];omega)).mono ?_
 rintro e w6 ⟨rfl,hkk⟩
 have HK6:=hid hkk
 clear hkk HK5
 clear p0 p1 p2 p3 p4 p5 c0 c1 c2 c3 c4 c5 c6 c7 c8 c9 HGX
 have gp:=z0b HPX.out HK6.out.below
 have HGX:=hid (HX3.out.later HK6.out.below)
 have p0:w6.cell? ⟨N2,0,none⟩=some (.bool false):=z0a gp rfl
 have p1:w6.cell? ⟨N2,1,none⟩=some (.bool true):=z0a gp rfl
 have p2:w6.cell? ⟨N2,2,none⟩=some (.bool false):=z0a gp rfl
 have p3:w6.cell? ⟨N2,3,none⟩=some (.bool false):=z0a gp rfl
 have p4:w6.cell? ⟨N2,4,none⟩=some (.bool false):=z0a gp rfl
 have p5:w6.cell? ⟨N2,5,none⟩=some (.bool false):=z0a gp rfl
 obtain⟨c0,c1,c2,c3,c4,c5,c6,c7,c8,c9⟩:=HGX.out.at
 rw [hk] at c0
 clear gp
 go_wp2_with fail
 have hbx:((([]:List Nat)++le ((7:Int)).toNat 1)++le r.tx.toNat 4)=z0o (r.x L T M):=by
  unfold z0o
  rw [show ((r.x L T M)).k=7 from hk]
  simp [kS,kT,kB,kA,kO,kP,Rv.x,List.append_assoc]
 have hlx:(z0o (r.x L T M)).length≤100000:=by rw [← hbx];simp only [List.length_append,List.length_nil,List.length_cons,z0r,keyB];omega
 have HKz:Hid (WrOk w3 w6 Bw 512 (0,z0o (r.x L T M))):=hid (by rw [← hbx];exact HK6.out)
 clear hbx HK6
 generalize z0o (r.x L T M)=Z at *
 refine (z3i w3 w6 Bw 512 Z HKz.out hlx).mono ?_
 rintro e w7 ⟨pz',cz,rfl,hbz,hsz,_⟩
 have HF:Hid (z3k W Z (.returned (.tuple #[.slice pz' Z.length cz,.int .i64 0])) w7):=hid ⟨pz',cz,rfl,hsz,HB3.out.trans (hbz.mono HB3.out.size)⟩
 clear hbz hsz hlx
 generalize Z.length=nz at *
 clear p0 p1 p2 p3 p4 p5 c0 c1 c2 c3 c4 c5 c6 c7 c8 c9 HGX
 go_wp2_with fail
 go_ret2
 exact HF.out
theorem rec_write8 (r:Rv) (L:List Ln) (T:List Tk) (M:List Ln) (W:World) (hok:Rxok (r.x L T M)) (hk:r.k=8):Calls Tryz.prog 105 #[.agg (rcs r)] W (z3k W (z0o (r.x L T M))):=by
 obtain⟨W1,hW1,hb1⟩:∃ W1,W.alloc (.cells (rcs r) 40)=W1∧Below W.heap.size W W1:=⟨_,rfl,(Below.refl _ _).alloc (Nat.le_refl _) _⟩
 obtain⟨B,hB⟩:∃ B,W.heap.size=B:=⟨_,rfl⟩
 have hrb:=RB.new W r
 rw [hW1,hB] at hrb
 have HX1:=hid hrb
 have HW1:=hid hW1
 have HB1:=hid hb1
 have HRE:=hid hB
 have c0:W1.cell? ⟨B,0,none⟩=some (.int .u8 r.k):=z0a hrb rfl
 rw [hk] at c0
 clear hW1 hb1 hB hrb
 have HOK:=hid hok
 have u1:=wrap_u64 hok.sg
 have u2:=wrap_u64 hok.tx
 have u3:IntKind.u64.wrap r.st=r.st:=wrap_u64 ⟨hok.st.1,Int.le_trans hok.st.2 (by decide)⟩
 have u4:IntKind.u64.wrap r.o=r.o:=wrap_u64 ⟨hok.o.1,Int.le_trans hok.o.2 (by decide)⟩
 change IntKind.u64.wrap r.sg=r.sg at u1
 change IntKind.u64.wrap r.tx=r.tx at u2
 have hpa:=z2u 8 W1
 unfold z2e at hpa
 rw [show ptc 8=#[.bool true,.bool false,.bool false,.bool false,.bool false,.bool false] from rfl] at hpa
 clear hok
 go_enter Tryz.func105,Tryz.ntmps105
 go_upto_region 1 with (fail)
 rw [HW1.out,HRE.out]
 go_wp2_with fail
 refine hpa.mono ?_
 rintro e w2 ⟨rfl,h2⟩
 have HB2:=hid (HB1.out.trans (h2.mono HB1.out.size))
 have HX2:=hid (HX1.out.later h2)
 clear h2 hpa c0
 obtain⟨N2,hN2⟩:∃ n,w2.heap.size=n:=⟨_,rfl⟩
 obtain⟨w3,hwn,hxn,hbn⟩:∃ w3,(w2.alloc (.cells pz 97)).setRow N2 #[.bool true,.bool false,.bool false,.bool false,.bool false,.bool false]=w3∧w3.heap[N2]?=some (.cells #[.bool true,.bool false,.bool false,.bool false,.bool false,.bool false] 97 (0,0))∧Below w2.heap.size w2 w3:=⟨_,rfl,by rw [← hN2];exact setRow_heap _ _ _ _ _ _ (z0c w2 _),below_setRow ((Below.refl _ _).alloc (Nat.le_refl _) _) (by omega) _⟩
 have hx2:=z0c w2 (.cells pz 97)
 rw [hN2] at hx2
 have HPX:=hid hxn
 have HPZ:=hid hx2
 have HBN:=hid hbn
 have HWN:=hid hwn
 have HNN:=hid hN2
 have HS6:Hid ((#[.bool true,.bool false,.bool false,.bool false,.bool false,.bool false]:Array Value).size=6):=hid rfl
 have HA6:Hid ((#[.bool true,.bool false,.bool false,.bool false,.bool false,.bool false]:Array Value).all (·.oneCell')=true):=hid (by simp [Value.oneCell'])
 clear hx2 hxn hbn hwn hN2
 have HB3:=hid (HB2.out.trans (HBN.out.mono HB2.out.size))
 have HX3:=hid (HX2.out.later HBN.out)
 go_wp2_with ((try rw [HNN.out]);(with_reducible refine z0q #[.bool true,.bool false,.bool false,.bool false,.bool false,.bool false] HS6.out HA6.out HPZ.out ?_ ?_ ?_);rfl;rfl;rw [HWN.out])
 refine (z6o w3 w3 512 (Below.refl _ _)).mono ?_
 rintro e w4 ⟨Bw,rfl,hkk⟩
 rw [show lim 512=512 from rfl] at hkk
 have HK4:=hid hkk
 clear hkk
 have gp:=z0b HPX.out HK4.out.below
 have HGX:=hid (HX3.out.later HK4.out.below)
 have p0:w4.cell? ⟨N2,0,none⟩=some (.bool true):=z0a gp rfl
 have p1:w4.cell? ⟨N2,1,none⟩=some (.bool false):=z0a gp rfl
 have p2:w4.cell? ⟨N2,2,none⟩=some (.bool false):=z0a gp rfl
 have p3:w4.cell? ⟨N2,3,none⟩=some (.bool false):=z0a gp rfl
 have p4:w4.cell? ⟨N2,4,none⟩=some (.bool false):=z0a gp rfl
 have p5:w4.cell? ⟨N2,5,none⟩=some (.bool false):=z0a gp rfl
 obtain⟨c0,c1,c2,c3,c4,c5,c6,c7,c8,c9⟩:=HGX.out.at
 rw [hk] at c0
 clear gp
 go_wp2_with fail
 refine (z4c HK4.out 8 (by omega) (by simp)).mono ?_
 rintro e w5 ⟨rfl,hkk⟩
 have HK5:=hid hkk
 clear hkk HK4
 clear p0 p1 p2 p3 p4 p5 c0 c1 c2 c3 c4 c5 c6 c7 c8 c9 HGX
 have gp:=z0b HPX.out HK5.out.below
 have HGX:=hid (HX3.out.later HK5.out.below)
 have p0:w5.cell? ⟨N2,0,none⟩=some (.bool true):=z0a gp rfl
 have p1:w5.cell? ⟨N2,1,none⟩=some (.bool false):=z0a gp rfl
 have p2:w5.cell? ⟨N2,2,none⟩=some (.bool false):=z0a gp rfl
 have p3:w5.cell? ⟨N2,3,none⟩=some (.bool false):=z0a gp rfl
 have p4:w5.cell? ⟨N2,4,none⟩=some (.bool false):=z0a gp rfl
 have p5:w5.cell? ⟨N2,5,none⟩=some (.bool false):=z0a gp rfl
 obtain⟨c0,c1,c2,c3,c4,c5,c6,c7,c8,c9⟩:=HGX.out.at
 rw [hk] at c0
 clear gp
 go_wp2_with fail
 refine (z4l HK5.out r.sg HOK.out.sg (by simp only [List.length_append,List.length_nil,z0r];omega)).mono ?_
 rintro e w6 ⟨rfl,hkk⟩
 have HK6:=hid hkk
 clear hkk HK5
 clear p0 p1 p2 p3 p4 p5 c0 c1 c2 c3 c4 c5 c6 c7 c8 c9 HGX
 have gp:=z0b HPX.out HK6.out.below
 have HGX:=hid (HX3.out.later HK6.out.below)
 have p0:w6.cell? ⟨N2,0,none⟩=some (.bool true):=z0a gp rfl
 have p1:w6.cell? ⟨N2,1,none⟩=some (.bool false):=z0a gp rfl
 have p2:w6.cell? ⟨N2,2,none⟩=some (.bool false):=z0a gp rfl
 have p3:w6.cell? ⟨N2,3,none⟩=some (.bool false):=z0a gp rfl
 have p4:w6.cell? ⟨N2,4,none⟩=some (.bool false):=z0a gp rfl
 have p5:w6.cell? ⟨N2,5,none⟩=some (.bool false):=z0a gp rfl
 obtain⟨c0,c1,c2,c3,c4,c5,c6,c7,c8,c9⟩:=HGX.out.at
 rw [hk] at c0
 clear gp
 go_wp2_with fail
 have hbx:((([]:List Nat)++le ((8:Int)).toNat 1)++le r.sg.toNat 4)=z0o (r.x L T M):=by
  unfold z0o
  rw [show ((r.x L T M)).k=8 from hk]
  simp [kS,kT,kB,kA,kO,kP,Rv.x,List.append_assoc]
 have hlx:(z0o (r.x L T M)).length≤100000:=by rw [← hbx];simp only [List.length_append,List.length_nil,List.length_cons,z0r,keyB];omega
 have HKz:Hid (WrOk w3 w6 Bw 512 (0,z0o (r.x L T M))):=hid (by rw [← hbx];exact HK6.out)
 clear hbx HK6
 generalize z0o (r.x L T M)=Z at *
 refine (z3i w3 w6 Bw 512 Z HKz.out hlx).mono ?_
 rintro e w7 ⟨pz',cz,rfl,hbz,hsz,_⟩
 have HF:Hid (z3k W Z (.returned (.tuple #[.slice pz' Z.length cz,.int .i64 0])) w7):=hid ⟨pz',cz,rfl,hsz,HB3.out.trans (hbz.mono HB3.out.size)⟩
 clear hbz hsz hlx
 generalize Z.length=nz at *
 clear p0 p1 p2 p3 p4 p5 c0 c1 c2 c3 c4 c5 c6 c7 c8 c9 HGX
 go_wp2_with fail
 go_ret2
 exact HF.out
theorem rec_write9 (r:Rv) (L:List Ln) (T:List Tk) (M:List Ln) (W:World) (hok:Rxok (r.x L T M)) (hk:r.k=9):Calls Tryz.prog 105 #[.agg (rcs r)] W (z3k W (z0o (r.x L T M))):=by
 obtain⟨W1,hW1,hb1⟩:∃ W1,W.alloc (.cells (rcs r) 40)=W1∧Below W.heap.size W W1:=⟨_,rfl,(Below.refl _ _).alloc (Nat.le_refl _) _⟩
 obtain⟨B,hB⟩:∃ B,W.heap.size=B:=⟨_,rfl⟩
 have hrb:=RB.new W r
 rw [hW1,hB] at hrb
 have HX1:=hid hrb
 have HW1:=hid hW1
 have HB1:=hid hb1
 have HRE:=hid hB
 have c0:W1.cell? ⟨B,0,none⟩=some (.int .u8 r.k):=z0a hrb rfl
 rw [hk] at c0
 clear hW1 hb1 hB hrb
 have HOK:=hid hok
 have u1:=wrap_u64 hok.sg
 have u2:=wrap_u64 hok.tx
 have u3:IntKind.u64.wrap r.st=r.st:=wrap_u64 ⟨hok.st.1,Int.le_trans hok.st.2 (by decide)⟩
 have u4:IntKind.u64.wrap r.o=r.o:=wrap_u64 ⟨hok.o.1,Int.le_trans hok.o.2 (by decide)⟩
 change IntKind.u64.wrap r.sg=r.sg at u1
 change IntKind.u64.wrap r.tx=r.tx at u2
 have hpa:=z2u 9 W1
 unfold z2e at hpa
 rw [show ptc 9=#[.bool true,.bool false,.bool false,.bool false,.bool true,.bool false] from rfl] at hpa
 clear hok
 go_enter Tryz.func105,Tryz.ntmps105
 go_upto_region 1 with (fail)
 rw [HW1.out,HRE.out]
 go_wp2_with fail
 refine hpa.mono ?_
 rintro e w2 ⟨rfl,h2⟩
 have HB2:=hid (HB1.out.trans (h2.mono HB1.out.size))
 have HX2:=hid (HX1.out.later h2)
 clear h2 hpa c0
 obtain⟨N2,hN2⟩:∃ n,w2.heap.size=n:=⟨_,rfl⟩
 obtain⟨w3,hwn,hxn,hbn⟩:∃ w3,(w2.alloc (.cells pz 97)).setRow N2 #[.bool true,.bool false,.bool false,.bool false,.bool true,.bool false]=w3∧w3.heap[N2]?=some (.cells #[.bool true,.bool false,.bool false,.bool false,.bool true,.bool false] 97 (0,0))∧Below w2.heap.size w2 w3:=⟨_,rfl,by rw [← hN2];exact setRow_heap _ _ _ _ _ _ (z0c w2 _),below_setRow ((Below.refl _ _).alloc (Nat.le_refl _) _) (by omega) _⟩
 have hx2:=z0c w2 (.cells pz 97)
 rw [hN2] at hx2
 have HPX:=hid hxn
 have HPZ:=hid hx2
 have HBN:=hid hbn
 have HWN:=hid hwn
 have HNN:=hid hN2
 have HS6:Hid ((#[.bool true,.bool false,.bool false,.bool false,.bool true,.bool false]:Array Value).size=6):=hid rfl
 have HA6:Hid ((#[.bool true,.bool false,.bool false,.bool false,.bool true,.bool false]:Array Value).all (·.oneCell')=true):=hid (by simp [Value.oneCell'])
 clear hx2 hxn hbn hwn hN2
 have HB3:=hid (HB2.out.trans (HBN.out.mono HB2.out.size))
 have HX3:=hid (HX2.out.later HBN.out)
 go_wp2_with ((try rw [HNN.out]);(with_reducible refine z0q #[.bool true,.bool false,.bool false,.bool false,.bool true,.bool false] HS6.out HA6.out HPZ.out ?_ ?_ ?_);rfl;rfl;rw [HWN.out])
 refine (z6o w3 w3 512 (Below.refl _ _)).mono ?_
 rintro e w4 ⟨Bw,rfl,hkk⟩
 rw [show lim 512=512 from rfl] at hkk
 have HK4:=hid hkk
 clear hkk
 have gp:=z0b HPX.out HK4.out.below
 have HGX:=hid (HX3.out.later HK4.out.below)
 have p0:w4.cell? ⟨N2,0,none⟩=some (.bool true):=z0a gp rfl
 have p1:w4.cell? ⟨N2,1,none⟩=some (.bool false):=z0a gp rfl
 have p2:w4.cell? ⟨N2,2,none⟩=some (.bool false):=z0a gp rfl
 have p3:w4.cell? ⟨N2,3,none⟩=some (.bool false):=z0a gp rfl
 have p4:w4.cell? ⟨N2,4,none⟩=some (.bool true):=z0a gp rfl
 have p5:w4.cell? ⟨N2,5,none⟩=some (.bool false):=z0a gp rfl
 obtain⟨c0,c1,c2,c3,c4,c5,c6,c7,c8,c9⟩:=HGX.out.at
 rw [hk] at c0
 clear gp
 go_wp2_with fail
 refine (z4c HK4.out 9 (by omega) (by simp)).mono ?_
 rintro e w5 ⟨rfl,hkk⟩
 have HK5:=hid hkk
 clear hkk HK4
 clear p0 p1 p2 p3 p4 p5 c0 c1 c2 c3 c4 c5 c6 c7 c8 c9 HGX
 have gp:=z0b HPX.out HK5.out.below
 have HGX:=hid (HX3.out.later HK5.out.below)
 have p0:w5.cell? ⟨N2,0,none⟩=some (.bool true):=z0a gp rfl
 have p1:w5.cell? ⟨N2,1,none⟩=some (.bool false):=z0a gp rfl
 have p2:w5.cell? ⟨N2,2,none⟩=some (.bool false):=z0a gp rfl
 have p3:w5.cell? ⟨N2,3,none⟩=some (.bool false):=z0a gp rfl
 have p4:w5.cell? ⟨N2,4,none⟩=some (.bool true):=z0a gp rfl
 have p5:w5.cell? ⟨N2,5,none⟩=some (.bool false):=z0a gp rfl
 obtain⟨c0,c1,c2,c3,c4,c5,c6,c7,c8,c9⟩:=HGX.out.at
 rw [hk] at c0
 clear gp
 go_wp2_with fail
 refine (z4l HK5.out r.sg HOK.out.sg (by simp only [List.length_append,List.length_nil,z0r];omega)).mono ?_
 rintro e w6 ⟨rfl,hkk⟩
 have HK6:=hid hkk
 clear hkk HK5
 clear p0 p1 p2 p3 p4 p5 c0 c1 c2 c3 c4 c5 c6 c7 c8 c9 HGX
 have gp:=z0b HPX.out HK6.out.below
 have HGX:=hid (HX3.out.later HK6.out.below)
 have p0:w6.cell? ⟨N2,0,none⟩=some (.bool true):=z0a gp rfl
 have p1:w6.cell? ⟨N2,1,none⟩=some (.bool false):=z0a gp rfl
 have p2:w6.cell? ⟨N2,2,none⟩=some (.bool false):=z0a gp rfl
 have p3:w6.cell? ⟨N2,3,none⟩=some (.bool false):=z0a gp rfl
 have p4:w6.cell? ⟨N2,4,none⟩=some (.bool true):=z0a gp rfl
 have p5:w6.cell? ⟨N2,5,none⟩=some (.bool false):=z0a gp rfl
 obtain⟨c0,c1,c2,c3,c4,c5,c6,c7,c8,c9⟩:=HGX.out.at
 rw [hk] at c0
 clear gp
 go_wp2_with fail
 refine (z4c HK6.out r.o HOK.out.o (by simp only [List.length_append,List.length_nil,z0r];omega)).mono ?_
 rintro e w7 ⟨rfl,hkk⟩
 have HK7:=hid hkk
 clear hkk HK6
 clear p0 p1 p2 p3 p4 p5 c0 c1 c2 c3 c4 c5 c6 c7 c8 c9 HGX
 have gp:=z0b HPX.out HK7.out.below
 have HGX:=hid (HX3.out.later HK7.out.below)
 have p0:w7.cell? ⟨N2,0,none⟩=some (.bool true):=z0a gp rfl
 have p1:w7.cell? ⟨N2,1,none⟩=some (.bool false):=z0a gp rfl
 have p2:w7.cell? ⟨N2,2,none⟩=some (.bool false):=z0a gp rfl
 have p3:w7.cell? ⟨N2,3,none⟩=some (.bool false):=z0a gp rfl
 have p4:w7.cell? ⟨N2,4,none⟩=some (.bool true):=z0a gp rfl
 have p5:w7.cell? ⟨N2,5,none⟩=some (.bool false):=z0a gp rfl
 obtain⟨c0,c1,c2,c3,c4,c5,c6,c7,c8,c9⟩:=HGX.out.at
 rw [hk] at c0
 clear gp
 go_wp2_with fail
 have hbx:(((([]:List Nat)++le ((9:Int)).toNat 1)++le r.sg.toNat 4)++le r.o.toNat 1)=z0o (r.x L T M):=by
  unfold z0o
  rw [show ((r.x L T M)).k=9 from hk]
  simp [kS,kT,kB,kA,kO,kP,Rv.x,List.append_assoc]
 have hlx:(z0o (r.x L T M)).length≤100000:=by rw [← hbx];simp only [List.length_append,List.length_nil,List.length_cons,z0r,keyB];omega
 have HKz:Hid (WrOk w3 w7 Bw 512 (0,z0o (r.x L T M))):=hid (by rw [← hbx];exact HK7.out)
 clear hbx HK7
 generalize z0o (r.x L T M)=Z at *
 refine (z3i w3 w7 Bw 512 Z HKz.out hlx).mono ?_
 rintro e w8 ⟨pz',cz,rfl,hbz,hsz,_⟩
 have HF:Hid (z3k W Z (.returned (.tuple #[.slice pz' Z.length cz,.int .i64 0])) w8):=hid ⟨pz',cz,rfl,hsz,HB3.out.trans (hbz.mono HB3.out.size)⟩
 clear hbz hsz hlx
 generalize Z.length=nz at *
 clear p0 p1 p2 p3 p4 p5 c0 c1 c2 c3 c4 c5 c6 c7 c8 c9 HGX
 go_wp2_with fail
 go_ret2
 exact HF.out
end Go.Proofs.YtnpjpelbcmgodaaGreatDoor
