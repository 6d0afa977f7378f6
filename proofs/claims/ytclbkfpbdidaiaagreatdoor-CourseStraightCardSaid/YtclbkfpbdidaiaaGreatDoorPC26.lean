import Derived.Test.YtclbkfpbdidaiaaGreatDoorPC99
import Derived.Test.YtclbkfpbdidaiaaGreatDoorPC16
import Derived.Test.YtclbkfpbdidaiaaGreatDoorPC25
namespace Go.Proofs.YtclbkfpbdidaiaaGreatDoor
open Go.Lib (hid)
set_option maxHeartbeats 16000000
open Go.RowKit Go.ChangeShapes Go.WideShapes
set_option linter.unusedVariables false
set_option linter.unusedSimpArgs false
set_option maxRecDepth 10000
abbrev zc:Array Value:=#[.int .u8 0,.int .u32 0,.int .u8 0,.slice none 0 0,.slice none 0 0,.slice none 0 0,.int .u8 0,.int .u8 0,.int .u8 0,.int .i64 0]
def Far (Y:Nat) (p:Option Addr):Prop:=∀ a,p=some a→Y<a.block
theorem z8d {α:Type} {enc:α→List Value} {k:Nat} {d:α} {w:World} {Y:Nat} {p:Option Addr} {n c:Nat} {L:List α} (hf:Far Y p) (hl:SlG enc k d w p n c L) (j:Nat) (v:Value):SlG enc k d (w.setCell ⟨Y,j,none⟩ v) p n c L :=
 hl.turn (by simp [World.setCell]) fun _ a ha _=>Below.heap_setCell _ _ _ _ (by have:=hf a ha;show a.block≠Y;omega)
theorem z7z {s w:Int} {P:Pg} (h:z0l s w P=true):P.lines.length≤3∧P.takes.length≤12∧P.owes.length≤3:=by
 unfold z0l at h
 simp only [Bool.and_eq_true,decide_eq_true_eq] at h
 obtain⟨⟨_,ha⟩,hq⟩:=h
 have hl:∀ {s:Int} {L:List Ln},z0q s L=true→L.length≤3:=fun h=>(z3m h).1
 have ht:∀ {s w o:Int} {T:List Tk},z0s s w o T=true→T.length≤12:=fun h=>((z3v _ _ _ _).1 h).1
 unfold askP at ha
 unfold qofP at hq
 split at ha
 · rename_i h1
   simp only [Bool.and_eq_true] at ha
   exact⟨hl ha.1.1.1.1.2,ht ha.1.1.1.2,hl ha.1.1.2⟩
 · rename_i n1
   rw [if_neg n1] at hq
   split at ha
   · rename_i h2
     rw [if_pos h2] at hq
     simp only [Bool.and_eq_true] at ha
     have:=congrArg (fun P=>P.lines.length) hq
     simp only [List.length_nil] at this
     exact⟨by omega,ht ha.1.1.2,hl ha.1.2⟩
   · rename_i n2
     rw [if_neg n2] at hq
     split at ha
     · rename_i h3
       rw [if_pos h3] at hq
       simp only [Bool.and_eq_true] at ha
       have h1:=congrArg (fun P=>P.lines.length) hq
       have h2:=congrArg (fun P=>P.owes.length) hq
       simp only [List.length_nil] at h1 h2
       exact⟨by omega,ht ha.1.2,by omega⟩
     · rename_i n3
       rw [if_neg n3] at hq
       split at ha
       · rename_i h5
         rw [if_pos h5] at hq
         simp only [Bool.and_eq_true] at ha
         have h1:=congrArg (fun P=>P.lines.length) hq
         have h2:=congrArg (fun P=>P.owes.length) hq
         simp only [List.length_nil] at h1 h2
         have h3:=ha.2
         refine⟨by omega,?_,by omega⟩
         by_cases hT:P.takes.length≤12
         · exact hT
         · rw [fills_long hT] at h3
           cases h3
       · rename_i n5
         rw [if_neg n5] at hq
         have h1:=congrArg (fun P=>P.lines.length) hq
         have h2:=congrArg (fun P=>P.owes.length) hq
         have h3:=congrArg (fun P=>P.takes.length) hq
         simp only [List.length_nil] at h1 h2 h3
         omega
def q1v (W:World) (P:Pg) (e:Ending) (w':World):Prop:=Below W.heap.size W w'∧if z0l 4 4 P=true then ∃ p c,e=.returned (.tuple #[.slice p (z3a P).length c,.int .i64 0])∧Sl w' p (z3a P).length c (z3a P)∧c≤maxLen∧∀ a,p=some a→W.heap.size≤a.block else e=.returned (.tuple #[.slice none 0 0,.int .i64 1])
theorem encode_no (k od po:Int) (lp:Option Addr) (ln lcp:Nat) (tp:Option Addr) (tn tcp:Nat) (wp:Option Addr) (wn wcp:Nat) (sk fr to q:Int) (L:List Ln) (T:List Tk) (M:List Ln) (W:World) (hw:Words W) (hP:PgM W lp ln lcp L tp tn tcp T wp wn wcp M) (hok:Pgok ⟨k,od,po,L,T,M,sk,fr,to,q⟩) (h1:ln≤400∧tn≤400∧wn≤400) (hg:z0l 4 4 ⟨k,od,po,L,T,M,sk,fr,to,q⟩=false) :
 Calls Tryz.prog 103 #[.agg #[.int .u8 k,.int .u32 od,.int .u8 po,.slice lp ln lcp,.slice tp tn tcp,.slice wp wn wcp,.int .u8 sk,.int .u8 fr,.int .u8 to,.int .i64 q]] W (q1v W ⟨k,od,po,L,T,M,sk,fr,to,q⟩):=by
 obtain⟨W1,hW1,hbx,hb1⟩:∃ W1,W.alloc (.cells #[.int .u8 k,.int .u32 od,.int .u8 po,.slice lp ln lcp,.slice tp tn tcp,.slice wp wn wcp,.int .u8 sk,.int .u8 fr,.int .u8 to,.int .i64 q] 26)=W1∧W1.heap[W.heap.size]?=some (.cells #[.int .u8 k,.int .u32 od,.int .u8 po,.slice lp ln lcp,.slice tp tn tcp,.slice wp wn wcp,.int .u8 sk,.int .u8 fr,.int .u8 to,.int .i64 q] 26 (0,0))∧Below W.heap.size W W1:=⟨_,rfl,z0c W _,(Below.refl _ _).alloc (Nat.le_refl _) _⟩
 have hgd:=z5v 4 4 k od po lp ln lcp tp tn tcp wp wn wcp sk fr to q L T M W1 (hw.later hb1) (hP.later hb1) hok h1
 rw [hg] at hgd
 have HG:=hid hg
 have HW1:=hid hW1
 have HB1:=hid hb1
 obtain⟨a0,a1,a2,a3,a4,a5,a6,a7,a8,a9⟩:=z0d k od po lp ln lcp tp tn tcp wp wn wcp sk fr to q hbx
 clear hW1 hb1 hbx hP hok hg hw h1
 go_enter Tryz.func103,Tryz.ntmps103
 go_wp2_with fail
 rw [HW1.out]
 refine hgd.mono ?_
 rintro e w2 ⟨rfl,h2⟩
 have HB2:=hid h2
 clear hgd h2 a0 a1 a2 a3 a4 a5 a6 a7 a8 a9
 go_wp2_with fail
 go_ret2
 refine⟨HB1.out.trans (HB2.out.mono HB1.out.size),?_⟩
 rw [HG.out,if_neg (by decide)]
 rfl
theorem encode_yes (k od po:Int) (lp:Option Addr) (ln lcp:Nat) (tp:Option Addr) (tn tcp:Nat) (wp:Option Addr) (wn wcp:Nat) (sk fr to q:Int) (L:List Ln) (T:List Tk) (M:List Ln) (W:World) (hw:Words W) (hP:PgM W lp ln lcp L tp tn tcp T wp wn wcp M) (hok:Pgok ⟨k,od,po,L,T,M,sk,fr,to,q⟩) (h1:ln≤400∧tn≤400∧wn≤400) (hg:z0l 4 4 ⟨k,od,po,L,T,M,sk,fr,to,q⟩=true) :
 Calls Tryz.prog 103 #[.agg #[.int .u8 k,.int .u32 od,.int .u8 po,.slice lp ln lcp,.slice tp tn tcp,.slice wp wn wcp,.int .u8 sk,.int .u8 fr,.int .u8 to,.int .i64 q]] W (q1v W ⟨k,od,po,L,T,M,sk,fr,to,q⟩):=by
 obtain⟨hs1,hs2,hs3⟩:=z7z hg
 dsimp only at hs1 hs2 hs3
 rw [hP.l.len] at hs1
 rw [hP.t.len] at hs2
 rw [hP.o.len] at hs3
 obtain⟨nk,ek⟩:∃ nk:Nat,k=(nk:Int):=⟨k.toNat,by have:=hok.kind;dsimp only at this;omega⟩
 have bk:nk<256 ^ 1:=by have:=hok.kind;dsimp only at this;omega
 have ck:IntKind.u64.wrap k=nk:=by rw [ek];exact z1y _ (by omega)
 obtain⟨nod,eod⟩:∃ nod:Nat,od=(nod:Int):=⟨od.toNat,by have:=hok.order;dsimp only at this;omega⟩
 have bod:nod<256 ^ 4:=by have:=hok.order;dsimp only at this;omega
 have cod:IntKind.u64.wrap od=nod:=by rw [eod];exact z1y _ (by omega)
 obtain⟨npo,epo⟩:∃ npo:Nat,po=(npo:Int):=⟨po.toNat,by have:=hok.policy;dsimp only at this;omega⟩
 have bpo:npo<256 ^ 1:=by have:=hok.policy;dsimp only at this;omega
 have cpo:IntKind.u64.wrap po=npo:=by rw [epo];exact z1y _ (by omega)
 obtain⟨nsk,esk⟩:∃ nsk:Nat,sk=(nsk:Int):=⟨sk.toNat,by have:=hok.sku;dsimp only at this;omega⟩
 have bsk:nsk<256 ^ 1:=by have:=hok.sku;dsimp only at this;omega
 have csk:IntKind.u64.wrap sk=nsk:=by rw [esk];exact z1y _ (by omega)
 obtain⟨nfr,efr⟩:∃ nfr:Nat,fr=(nfr:Int):=⟨fr.toNat,by have:=hok.frm;dsimp only at this;omega⟩
 have bfr:nfr<256 ^ 1:=by have:=hok.frm;dsimp only at this;omega
 have cfr:IntKind.u64.wrap fr=nfr:=by rw [efr];exact z1y _ (by omega)
 obtain⟨nto,eto⟩:∃ nto:Nat,to=(nto:Int):=⟨to.toNat,by have:=hok.to;dsimp only at this;omega⟩
 have bto:nto<256 ^ 1:=by have:=hok.to;dsimp only at this;omega
 have cto:IntKind.u64.wrap to=nto:=by rw [eto];exact z1y _ (by omega)
 have hq:In64 q:=hok.qty
 have HQ:=hid hq
 have HBY:Hid (z3a ⟨k,od,po,L,T,M,sk,fr,to,q⟩=le nk 1++le nod 4++le npo 1++(le ln 1++L.flatMap lnB)++(le tn 1++T.flatMap tkBy)++(le wn 1++M.flatMap lnB)++le nsk 1++le nfr 1++le nto 1++le (u64 q) 8):=hid (by
  unfold z3a lnsB tksB
  dsimp only
  rw [hP.l.len,hP.t.len,hP.o.len,ek,eod,epo,esk,efr,eto]
  rfl)
 have HBN:Hid ((z3a ⟨k,od,po,L,T,M,sk,fr,to,q⟩).length≤400):=hid (by
  unfold z3a
  simp only [List.length_append,lnsB_len,tksB_len,z0t]
  rw [hP.l.len,hP.t.len,hP.o.len]
  omega)
 have HLL:Hid ((L.flatMap lnB).length=9*ln):=hid (by rw [z7y,hP.l.len])
 have HTT:Hid ((T.flatMap tkBy).length=14*tn):=hid (by rw [z8s,hP.t.len])
 have HMM:Hid ((M.flatMap lnB).length=9*wn):=hid (by rw [z7y,hP.o.len])
 obtain⟨W1,hW1,hbx,hb1⟩:∃ W1,W.alloc (.cells #[.int .u8 k,.int .u32 od,.int .u8 po,.slice lp ln lcp,.slice tp tn tcp,.slice wp wn wcp,.int .u8 sk,.int .u8 fr,.int .u8 to,.int .i64 q] 26)=W1∧W1.heap[W.heap.size]?=some (.cells #[.int .u8 k,.int .u32 od,.int .u8 po,.slice lp ln lcp,.slice tp tn tcp,.slice wp wn wcp,.int .u8 sk,.int .u8 fr,.int .u8 to,.int .i64 q] 26 (0,0))∧Below W.heap.size W W1:=⟨_,rfl,z0c W _,(Below.refl _ _).alloc (Nat.le_refl _) _⟩
 have hgd:=z5v 4 4 k od po lp ln lcp tp tn tcp wp wn wcp sk fr to q L T M W1 (hw.later hb1) (hP.later hb1) hok h1
 rw [hg] at hgd
 have HG:=hid hg
 have HW1:=hid hW1
 have HB1:=hid hb1
 have HX1:=hid hbx
 have HP1:=hid (hP.later hb1)
 have HOK:=hid hok
 obtain⟨a0,a1,a2,a3,a4,a5,a6,a7,a8,a9⟩:=z0d k od po lp ln lcp tp tn tcp wp wn wcp sk fr to q hbx
 clear hW1 hb1 hbx hP hok hg hw h1 ek eod epo esk efr eto hq
 go_enter Tryz.func103,Tryz.ntmps103
 go_wp2_with fail
 rw [HW1.out]
 refine hgd.mono ?_
 rintro e W2 ⟨rfl,h2⟩
 have HB2:=hid h2
 clear hgd h2 a0 a1 a2 a3 a4 a5 a6 a7 a8 a9
 go_wp2_with fail
 refine (new_any 512 W2).mono ?_
 rintro e W3 ⟨rfl,rfl⟩
 -- the writer,and its box
 obtain⟨B,hB⟩:∃ B,W2.heap.size=B:=⟨_,rfl⟩
 obtain⟨W4,hW4,hs4,hbw,hb4⟩:∃ W4,(W2.alloc (.cells #[.int .i64 0,.int .i64 512,.slice none 0 0] 158)).alloc (wbox B)=W4∧W4.heap.size=B+2∧W4.heap[B+1]?=some (.cells #[.pointer (some ⟨B,0,none⟩)] 163 (0,0))∧Below W2.heap.size W2 W4:=⟨_,rfl,by simp [hB],by have:=z0c (W2.alloc (.cells #[.int .i64 0,.int .i64 512,.slice none 0 0] 158)) (wbox B);rwa [World.size_alloc,hB] at this,((Below.refl _ _).alloc (Nat.le_refl _) _).alloc (by simp) _⟩
 have hwr4:Wr W4 B (.slice none 0 0) 512 (0,[]):=by
  have h0:=new_wr W2 512
  rw [hB] at h0
  rw [← hW4]
  exact h0.chg (Chg.of_below (S:=fun _=>False) ((Below.refl _ _).alloc (Nat.le_refl _) _)) (fun h=>h) (fun _ _ h=>h)
 have hWB:W.heap.size<B:=by have:=z0g HX1.out;have:=HB2.out.size;omega
 have hx4:=z0b HX1.out (HB2.out.trans (hb4.mono HB2.out.size))
 have HC:Hid (∀ w',Chg (fun k=>k=B∨(Value.slice none 0 0).ownBlock=some k) W4 w'→(w'.heap[W.heap.size]?=some (.cells #[.int .u8 k,.int .u32 od,.int .u8 po,.slice lp ln lcp,.slice tp tn tcp,.slice wp wn wcp,.int .u8 sk,.int .u8 fr,.int .u8 to,.int .i64 q] 26 (0,0))∧w'.cell? ⟨B+1,0,none⟩=some (.pointer (some ⟨B,0,none⟩)))):=hid fun w' hc=>⟨(hc.block _ (z0g hx4) (fun hk=>by rcases hk with hk | hk;omega;cases hk)).trans hx4,z0a ((hc.block _ (by omega) (fun hk=>by rcases hk with hk | hk;omega;cases hk)).trans hbw) rfl⟩
 have HPM:Hid (∀ w',Chg (fun k=>k=B∨(Value.slice none 0 0).ownBlock=some k) W4 w'→PgM w' lp ln lcp L tp tn tcp T wp wn wcp M):=hid fun w' hc=>HP1.out.later (HB2.out.trans ((Chg.below (W:=W2) (B:=W2.heap.size) hb4 (by omega) hc (fun k hk=>by rcases hk with hk | hk;omega;cases hk)).mono HB2.out.size))
 have HBE:Hid (∀ w',Chg (fun k=>k=B∨(Value.slice none 0 0).ownBlock=some k) W4 w'→Below W.heap.size W w'):=hid fun w' hc=>HB1.out.trans ((HB2.out.trans ((Chg.below (W:=W2) (B:=W2.heap.size) hb4 (by omega) hc (fun k hk=>by rcases hk with hk | hk;omega;cases hk)).mono HB2.out.size)).mono HB1.out.size)
 have HW4:=hid hW4
 have H0:=hid (Wrote.same hwr4)
 have HBB:=hid hB
 clear hW4 hs4 hbw hb4 hwr4 hWB hx4
 rw [hB]
 clear hB
 go_upto_region 4 with (fail)
 rw [HW4.out]
 rw [HBB.out]
 obtain⟨hpx,x0⟩:=HC.out _ H0.out.chg
 obtain⟨a0,a1,a2,a3,a4,a5,a6,a7,a8,a9⟩:=z0d k od po lp ln lcp tp tn tcp wp wn wcp sk fr to q hpx
 clear hpx
 go_wp2_with fail
 obtain⟨v0,h0,o0⟩:=H0.out.wr
 refine (z7d B v0 ([]) nk 1 W4 h0 (by omega) (by omega) bk (by first | omega | (simp only [List.length_append,List.length_nil,z0t,HLL.out,HTT.out,HMM.out];omega))).mono ?_
 rintro e wk0 ⟨rfl,hw⟩
 have H1:=hid (H0.out.next o0 hw)
 clear hw h0 o0 x0 a0 a1 a2 a3 a4 a5 a6 a7 a8 a9
 obtain⟨hpx,x0⟩:=HC.out _ H1.out.chg
 obtain⟨a0,a1,a2,a3,a4,a5,a6,a7,a8,a9⟩:=z0d k od po lp ln lcp tp tn tcp wp wn wcp sk fr to q hpx
 clear hpx
 go_wp2_with fail
 obtain⟨v1,h1,o1⟩:=H1.out.wr
 refine (z7d B v1 ([]++le nk 1) nod 4 wk0 h1 (by omega) (by omega) bod (by first | omega | (simp only [List.length_append,List.length_nil,z0t,HLL.out,HTT.out,HMM.out];omega))).mono ?_
 rintro e wk1 ⟨rfl,hw⟩
 have H2:=hid (H1.out.next o1 hw)
 clear hw h1 o1 x0 a0 a1 a2 a3 a4 a5 a6 a7 a8 a9
 obtain⟨hpx,x0⟩:=HC.out _ H2.out.chg
 obtain⟨a0,a1,a2,a3,a4,a5,a6,a7,a8,a9⟩:=z0d k od po lp ln lcp tp tn tcp wp wn wcp sk fr to q hpx
 clear hpx
 go_wp2_with fail
 obtain⟨v2,h2,o2⟩:=H2.out.wr
 refine (z7d B v2 ([]++le nk 1++le nod 4) npo 1 wk1 h2 (by omega) (by omega) bpo (by first | omega | (simp only [List.length_append,List.length_nil,z0t,HLL.out,HTT.out,HMM.out];omega))).mono ?_
 rintro e wk2 ⟨rfl,hw⟩
 have H3:=hid (H2.out.next o2 hw)
 clear hw h2 o2 x0 a0 a1 a2 a3 a4 a5 a6 a7 a8 a9
 obtain⟨hpx,x0⟩:=HC.out _ H3.out.chg
 obtain⟨a0,a1,a2,a3,a4,a5,a6,a7,a8,a9⟩:=z0d k od po lp ln lcp tp tn tcp wp wn wcp sk fr to q hpx
 clear hpx
 go_wp2_with fail
 obtain⟨v3,h3,o3⟩:=H3.out.wr
 refine (wlist_ln B v3 ([]++le nk 1++le nod 4++le npo 1) lp ln lcp L wk2 h3 (fun w' hc=>(HPM.out w' (H3.out.chg.trans hc fun k hk hb=>by
  rcases hb with hb | hb
  · exact .inl hb
  · rcases o3 k hb with hb | hb
    · exact .inr hb
    · omega)).l) HOK.out.lines (by omega) (by first | omega | (simp only [List.length_append,List.length_nil,z0t,HLL.out,HTT.out,HMM.out];omega))).mono ?_
 rintro e wk3 ⟨rfl,hw⟩
 have H4:=hid (H3.out.next o3 hw)
 clear hw h3 o3 x0 a0 a1 a2 a3 a4 a5 a6 a7 a8 a9
 obtain⟨hpx,x0⟩:=HC.out _ H4.out.chg
 obtain⟨a0,a1,a2,a3,a4,a5,a6,a7,a8,a9⟩:=z0d k od po lp ln lcp tp tn tcp wp wn wcp sk fr to q hpx
 clear hpx
 go_wp2_with fail
 obtain⟨v4,h4,o4⟩:=H4.out.wr
 refine (wlist_tk B v4 ([]++le nk 1++le nod 4++le npo 1++le ln 1++L.flatMap lnB) tp tn tcp T wk3 h4 (fun w' hc=>(HPM.out w' (H4.out.chg.trans hc fun k hk hb=>by
  rcases hb with hb | hb
  · exact .inl hb
  · rcases o4 k hb with hb | hb
    · exact .inr hb
    · omega)).t) HOK.out.takes (by omega) (by first | omega | (simp only [List.length_append,List.length_nil,z0t,HLL.out,HTT.out,HMM.out];omega))).mono ?_
 rintro e wk4 ⟨rfl,hw⟩
 have H5:=hid (H4.out.next o4 hw)
 clear hw h4 o4 x0 a0 a1 a2 a3 a4 a5 a6 a7 a8 a9
 obtain⟨hpx,x0⟩:=HC.out _ H5.out.chg
 obtain⟨a0,a1,a2,a3,a4,a5,a6,a7,a8,a9⟩:=z0d k od po lp ln lcp tp tn tcp wp wn wcp sk fr to q hpx
 clear hpx
 go_wp2_with fail
 obtain⟨v5,h5,o5⟩:=H5.out.wr
 refine (wlist_ln B v5 ([]++le nk 1++le nod 4++le npo 1++le ln 1++L.flatMap lnB++le tn 1++T.flatMap tkBy) wp wn wcp M wk4 h5 (fun w' hc=>(HPM.out w' (H5.out.chg.trans hc fun k hk hb=>by
  rcases hb with hb | hb
  · exact .inl hb
  · rcases o5 k hb with hb | hb
    · exact .inr hb
    · omega)).o) HOK.out.owes (by omega) (by first | omega | (simp only [List.length_append,List.length_nil,z0t,HLL.out,HTT.out,HMM.out];omega))).mono ?_
 rintro e wk5 ⟨rfl,hw⟩
 have H6:=hid (H5.out.next o5 hw)
 clear hw h5 o5 x0 a0 a1 a2 a3 a4 a5 a6 a7 a8 a9
 obtain⟨hpx,x0⟩:=HC.out _ H6.out.chg
 obtain⟨a0,a1,a2,a3,a4,a5,a6,a7,a8,a9⟩:=z0d k od po lp ln lcp tp tn tcp wp wn wcp sk fr to q hpx
 clear hpx
 go_wp2_with fail
 obtain⟨v6,h6,o6⟩:=H6.out.wr
 refine (z7d B v6 ([]++le nk 1++le nod 4++le npo 1++le ln 1++L.flatMap lnB++le tn 1++T.flatMap tkBy++le wn 1++M.flatMap lnB) nsk 1 wk5 h6 (by omega) (by omega) bsk (by first | omega | (simp only [List.length_append,List.length_nil,z0t,HLL.out,HTT.out,HMM.out];omega))).mono ?_
 rintro e wk6 ⟨rfl,hw⟩
 have H7:=hid (H6.out.next o6 hw)
 clear hw h6 o6 x0 a0 a1 a2 a3 a4 a5 a6 a7 a8 a9
 obtain⟨hpx,x0⟩:=HC.out _ H7.out.chg
 obtain⟨a0,a1,a2,a3,a4,a5,a6,a7,a8,a9⟩:=z0d k od po lp ln lcp tp tn tcp wp wn wcp sk fr to q hpx
 clear hpx
 go_wp2_with fail
 obtain⟨v7,h7,o7⟩:=H7.out.wr
 refine (z7d B v7 ([]++le nk 1++le nod 4++le npo 1++le ln 1++L.flatMap lnB++le tn 1++T.flatMap tkBy++le wn 1++M.flatMap lnB++le nsk 1) nfr 1 wk6 h7 (by omega) (by omega) bfr (by first | omega | (simp only [List.length_append,List.length_nil,z0t,HLL.out,HTT.out,HMM.out];omega))).mono ?_
 rintro e wk7 ⟨rfl,hw⟩
 have H8:=hid (H7.out.next o7 hw)
 clear hw h7 o7 x0 a0 a1 a2 a3 a4 a5 a6 a7 a8 a9
 obtain⟨hpx,x0⟩:=HC.out _ H8.out.chg
 obtain⟨a0,a1,a2,a3,a4,a5,a6,a7,a8,a9⟩:=z0d k od po lp ln lcp tp tn tcp wp wn wcp sk fr to q hpx
 clear hpx
 go_wp2_with fail
 obtain⟨v8,h8,o8⟩:=H8.out.wr
 refine (z7d B v8 ([]++le nk 1++le nod 4++le npo 1++le ln 1++L.flatMap lnB++le tn 1++T.flatMap tkBy++le wn 1++M.flatMap lnB++le nsk 1++le nfr 1) nto 1 wk7 h8 (by omega) (by omega) bto (by first | omega | (simp only [List.length_append,List.length_nil,z0t,HLL.out,HTT.out,HMM.out];omega))).mono ?_
 rintro e wk8 ⟨rfl,hw⟩
 have H9:=hid (H8.out.next o8 hw)
 clear hw h8 o8 x0 a0 a1 a2 a3 a4 a5 a6 a7 a8 a9
 obtain⟨hpx,x0⟩:=HC.out _ H9.out.chg
 obtain⟨a0,a1,a2,a3,a4,a5,a6,a7,a8,a9⟩:=z0d k od po lp ln lcp tp tn tcp wp wn wcp sk fr to q hpx
 clear hpx
 go_wp2_with fail
 obtain⟨v9,h9,o9⟩:=H9.out.wr
 refine (q2o B v9 ([]++le nk 1++le nod 4++le npo 1++le ln 1++L.flatMap lnB++le tn 1++T.flatMap tkBy++le wn 1++M.flatMap lnB++le nsk 1++le nfr 1++le nto 1) q wk8 h9 HQ.out (by first | omega | (simp only [List.length_append,List.length_nil,z0t,HLL.out,HTT.out,HMM.out];omega))).mono ?_
 rintro e wk9 ⟨rfl,hw⟩
 have H10:=hid (H9.out.next o9 hw)
 clear hw h9 o9 x0 a0 a1 a2 a3 a4 a5 a6 a7 a8 a9
 obtain⟨hpx,x0⟩:=HC.out _ H10.out.chg
 obtain⟨a0,a1,a2,a3,a4,a5,a6,a7,a8,a9⟩:=z0d k od po lp ln lcp tp tn tcp wp wn wcp sk fr to q hpx
 clear hpx
 go_wp2_with fail
 obtain⟨v10,h10,o10⟩:=H10.out.wr
 have hby:([]++le nk 1++le nod 4++le npo 1++le ln 1++L.flatMap lnB++le tn 1++T.flatMap tkBy++le wn 1++M.flatMap lnB++le nsk 1++le nfr 1++le nto 1++le (u64 q) 8:List Nat)=z3a ⟨k,od,po,L,T,M,sk,fr,to,q⟩:=by
  rw [HBY.out]
  simp only [List.append_assoc,List.nil_append]
 rw [hby] at h10
 refine (done_any B v10 512 (0,z3a ⟨k,od,po,L,T,M,sk,fr,to,q⟩) wk9 h10 (by have:=HBN.out;dsimp only;omega)).mono ?_
 rintro e w11 ⟨hb11,hd⟩
 rw [if_pos rfl] at hd
 obtain⟨vv,rfl,hrow,hown⟩:=hd
 obtain⟨pp,cc,hv,hcm,hsl,hbk⟩:=hrow.sl
 subst hv
 have hbe:=HBE.out _ H10.out.chg
 have HF:Hid (q1v W ⟨k,od,po,L,T,M,sk,fr,to,q⟩ (.returned (.tuple #[.slice pp (z3a ⟨k,od,po,L,T,M,sk,fr,to,q⟩).length cc,.int .i64 0])) w11):=hid ⟨hbe.trans (hb11.mono hbe.size),by
  rw [if_pos HG.out]
  exact⟨pp,cc,rfl,hsl,hcm,fun a ha=>Nat.le_trans hbe.size (hown _ (hbk a ha))⟩⟩
 clear hb11 hrow hown hcm hsl hbk h10 o10 x0 a0 a1 a2 a3 a4 a5 a6 a7 a8 a9 hby hbe
 generalize z3a ⟨k,od,po,L,T,M,sk,fr,to,q⟩=bb at *
 go_wp2_with fail
 go_ret2
 exact HF.out
theorem encode_p (k od po:Int) (lp:Option Addr) (ln lcp:Nat) (tp:Option Addr) (tn tcp:Nat) (wp:Option Addr) (wn wcp:Nat) (sk fr to q:Int) (L:List Ln) (T:List Tk) (M:List Ln) (W:World) (hw:Words W) (hP:PgM W lp ln lcp L tp tn tcp T wp wn wcp M) (hok:Pgok ⟨k,od,po,L,T,M,sk,fr,to,q⟩) (h1:ln≤400∧tn≤400∧wn≤400) :
 Calls Tryz.prog 103 #[.agg #[.int .u8 k,.int .u32 od,.int .u8 po,.slice lp ln lcp,.slice tp tn tcp,.slice wp wn wcp,.int .u8 sk,.int .u8 fr,.int .u8 to,.int .i64 q]] W (q1v W ⟨k,od,po,L,T,M,sk,fr,to,q⟩):=by
 cases hg:z0l 4 4 ⟨k,od,po,L,T,M,sk,fr,to,q⟩ with
 | false=>exact encode_no k od po lp ln lcp tp tn tcp wp wn wcp sk fr to q L T M W hw hP hok h1 hg
 | true=>exact encode_yes k od po lp ln lcp tp tn tcp wp wn wcp sk fr to q L T M W hw hP hok h1 hg
structure Rx where
 k:Int
 sg:Int
 tx:Int
 st:Int
 cp:Bool
 key:K
 d:Int
 o:Int
 pg:Pg
deriving DecidableEq
structure Rxok (X:Rx):Prop where
 k:0≤X.k∧X.k≤255
 sg:0≤X.sg∧X.sg≤4294967295
 tx:0≤X.tx∧X.tx≤4294967295
 st:0≤X.st∧X.st≤255
 key:Kok X.key
 d:In64 X.d
 o:0≤X.o∧X.o≤255
 pg:Pgok X.pg
def kS (k:Int):Bool:=k==1 || k==2 || k==8 || k==9
def kT (k:Int):Bool:=k==2 || k==3 || k==4 || k==5 || k==6 || k==7
def kB (k:Int):Bool:=k==2
def kA (k:Int):Bool:=k==3 || k==6
def kO (k:Int):Bool:=k==9
def kP (k:Int):Bool:=k==1
def kOk (k:Int):Bool:=k==1 || k==2 || k==3 || k==4 || k==5 || k==6 || k==7 || k==8 || k==9
def z7s (h:Bool) (st:Int) (cp:Bool):Bool:=if h then decide (st<5) else (st==0 && !cp)
def addB (h:Bool) (key:K) (d:Int):Bool:=if h then (z5o 4 4 key.1 key.2.1 key.2.2 && d != 0) && d != -9223372036854775808 else (decide (key=(0,0,0)) && d==0)
def outB (h:Bool) (o:Int):Bool:=if h then (o==1 || o==2) else o==0
def z8g (h:Bool) (pg:Pg):Bool:=if h then z0l 4 4 pg else decide (pg=noP)
def z1j (X:Rx):Bool:=kOk X.k && (kS X.k==(X.sg != 0)) && (kT X.k==(X.tx != 0)) && z7s (kB X.k) X.st X.cp && addB (kA X.k) X.key X.d && outB (kO X.k) X.o && z8g (kP X.k) X.pg
def noX:Rx:=⟨0,0,0,0,false,(0,0,0),0,0,noP⟩
def bitN (b:Bool):Nat:=if b then 1 else 0
def keyB (k:K):List Nat:=[k.1.toNat,k.2.1.toNat,k.2.2.toNat]
def z0r (X:Rx):List Nat:=le X.k.toNat 1++((if kS X.k then le X.sg.toNat 4 else [])++((if kT X.k then le X.tx.toNat 4 else [])++((if kB X.k then le X.st.toNat 1 ++ [bitN X.cp] else [])++((if kA X.k then keyB X.key++le (u64 X.d) 8 else [])++((if kO X.k then le X.o.toNat 1 else [])++(if kP X.k then le (z3a X.pg).length 2++z3a X.pg else []))))))
theorem z7h {k:Int} (h:kOk k=true):k=1∨k=2∨k=3∨k=4∨k=5∨k=6∨k=7∨k=8∨k=9:=by
 simp only [kOk,Bool.or_eq_true,beq_iff_eq] at h
 omega
theorem z7k {X:Rx} (h:z1j X=true):kOk X.k=true:=by
 unfold z1j at h
 simp only [Bool.and_eq_true] at h
 exact h.1.1.1.1.1.1
theorem z8b {X:Rx} (h:z1j X=true):z8g (kP X.k) X.pg=true:=by
 unfold z1j at h
 simp only [Bool.and_eq_true] at h
 exact h.2
theorem pg_few {P:Pg} (h:z0l 4 4 P=true):(z3a P).length≤400:=by
 obtain⟨s1,s2,s3⟩:=z7z h
 unfold z3a lnsB tksB
 simp only [List.length_append,z0t,z7y,z8s]
 omega
def lenK (k:Int):Nat:=if k=1 then 7 else if k=2 then 11 else if k=3∨k=6 then 16 else if k=9 then 6 else 5
theorem bytes_len {X:Rx} (h:kOk X.k=true):(z0r X).length=lenK X.k+if X.k=1 then (z3a X.pg).length else 0:=by
 unfold z0r
 rcases z7h h with h | h | h | h | h | h | h | h | h <;> rw [h] <;> simp [kS,kT,kB,kA,kO,kP,lenK,z0t,keyB] <;> omega
end Go.Proofs.YtclbkfpbdidaiaaGreatDoor
namespace Go.Proofs.YtclbkfpbdidaiaaGreatDoor
open Go.Lib (hid)
set_option maxHeartbeats 16000000
open Go.RowKit
set_option linter.unusedVariables false
set_option maxRecDepth 10000
set_option linter.unusedSimpArgs false
def z9i (s:Stp):Prop:=z3i 4 4 s.1 s.2.1 s.2.2=true∧(0≤s.1∧s.1≤255)∧(0≤s.2.1∧s.2.1≤255)∧(∀ y∈s.2.2,Lnok y)∧s.2.2.length≤3
theorem z7c {t r a q:Int} (ht:1≤t∧t≤6) (ha:0≤a∧a<4) (hr:0≤r∧r<4) (hq:1≤q∧q≤9223372036854775807):z9i (t,r,[(a,q)]):=by
 refine⟨(q0g 4 4 t r (a,q) (by decide) ht).2 ⟨ha.2,hq.1,hr.2⟩,⟨by show 0≤t;omega,by show t≤255;omega⟩,⟨hr.1,by show r≤255;omega⟩,fun y hy=>?_,by simp⟩
 obtain rfl:=List.mem_singleton.1 hy
 exact⟨⟨ha.1,by show a≤255;omega⟩,by show -9223372036854775808≤q;omega,hq.2⟩
theorem z9x {t:Int} {M:List Ln} (ht:t=7∨t=8) (h1:1≤M.length) (hM:z0q 4 M=true) (hok:∀ x∈M,Lnok x):z9i (t,0,M):=by
 refine⟨?_,⟨by show 0≤t;omega,by show t≤255;omega⟩,by show (0:Int)≤0∧(0:Int)≤255;omega,hok,(z3m hM).1⟩
 show z3i 4 4 t 0 M=true
 unfold z3i
 rw [hM,decide_eq_true h1,decide_eq_true (show 1≤t∧t≤8 by omega),if_pos (show 7≤t by omega)]
 rfl
theorem pay_fine {a q:Int} (ha:0≤a∧a<4) (hq:1≤q∧q≤9223372036854775807):z9i (8,0,[(a,q)]):=by
 refine z9x (.inr rfl) (by simp) ?_ fun y hy=>?_
 · simp [z0q,z2e,List.range_succ]
   omega
 · obtain rfl:=List.mem_singleton.1 hy
   exact⟨⟨ha.1,by show a≤255;omega⟩,by show -9223372036854775808≤q;omega,hq.2⟩
theorem house_fine {K o:Int} {T:List Tk} (hK:1≤K∧K≤6) (hT:∀ x∈T,Tkok x) (h:z0s 4 4 o T=true):∀ s∈z1a K T,z9i s:=by
 intro s hs
 obtain⟨j,hj,rfl⟩:=List.mem_iff_getElem.1 hs
 have e:(z1a K T)[j]=(z1a K T).getD j (0,0,[]):=by simp [List.getD,List.getElem?_eq_getElem hj]
 rw [e]
 have hh:z9h 4 4 (z1a K T):=by
  have:=(z6q 4 4 K T (by decide) hK T.length (Nat.le_refl _)).2
  rw [List.take_length] at this
  exact this ((z3v 4 4 o T).1 h).2.2
 have h1:=hh j hj
 unfold z3o at h1
 rw [Bool.and_eq_true] at h1
 obtain⟨f1,f2,f3,_⟩:=houses_each K T hT hj
 exact⟨h1.2,by rw [f1];omega,f2,f3,(z4v h1.2).2.2.2.1⟩
theorem house_len {K o:Int} {T:List Tk} (hT:∀ x∈T,Tkok x) (h:z0s 4 4 o T=true):(z1a K T).length≤4∧(1≤T.length→1≤(z1a K T).length):=by
 have hh:=q0f K o T (fun x hx=>(hT x hx).2.2.1.1) h T.length (Nat.le_refl _)
 rw [List.take_length] at hh
 constructor
 · rw [hh]
   have hl:∀ v,(atS K v T).length≤1:=fun v=>by unfold atS;split <;> simp
   have hflat:∀ f:Nat→List Stp,(List.range 4).flatMap f=f 0++f 1++f 2++f 3:=fun f=>by simp [List.range_succ]
   rw [hflat]
   simp only [List.length_append]
   have:=hl ((0:Nat):Int)
   have:=hl ((1:Nat):Int)
   have:=hl ((2:Nat):Int)
   have:=hl ((3:Nat):Int)
   omega
 · intro h1
   obtain⟨S,L,q,R⟩:=z9u K T T.length h1 (Nat.le_refl _)
   have:=R.eq
   rw [List.take_length] at this
   rw [this]
   simp
theorem z8r:∀ {l:List Int},(∀ x∈l,1≤x)→(l.length:Int)≤z1h l
 | [],_=>by simp [z1h]
 | x::l,h=>by
  have h1:=h x (List.mem_cons.2 (.inl rfl))
  have h2:=z8r (fun y hy=>h y (List.mem_cons.2 (.inr hy)))
  simp only [z1h,List.length_cons]
  omega
theorem cover_some {L M:List Ln} {T:List Tk} (hL:z0q 4 L=true) (h1:1≤L.length) (hok:∀ x∈L,Lnok x) (hc:z2i T M L=true):1≤T.length+M.length:=by
 rcases Nat.lt_or_ge 0 (T.length+M.length) with h | h
 · exact h
 · obtain rfl:T=[]:=List.eq_nil_of_length_eq_zero (by omega)
   obtain rfl:M=[]:=List.eq_nil_of_length_eq_zero (by omega)
   have hl:=(z3m hL).2 0 h1
   unfold z2e at hl
   simp only [Bool.and_eq_true,decide_eq_true_eq] at hl
   have hk:=(z8n hok h1).1.1
   have h2:z3y [] [] L (L.getD 0 l0).1.toNat=true:=by
    unfold z2i at hc
    exact List.all_eq_true.1 hc _ (List.mem_range.2 (by omega))
   unfold z3y at h2
   simp only [Bool.and_eq_true,decide_eq_true_eq] at h2
   have e:(((L.getD 0 l0).1.toNat:Nat):Int)=(L.getD 0 l0).1:=Int.toNat_of_nonneg hk
   rw [e] at h2
   have h3:=h2.2
   have z0:z1c [] [] (L.getD 0 l0).1=0:=rfl
   rw [z0] at h3
   unfold z1c at h3
   have z1:z1f [] (L.getD 0 l0).1=[]:=rfl
   rw [z1,List.nil_append] at h3
   have hm:(L.getD 0 l0).2∈z0z L (L.getD 0 l0).1:=by
    unfold z0z
    refine List.mem_map.2 ⟨L.getD 0 l0,List.mem_filter.2 ⟨?_,by simp⟩,rfl⟩
    rw [List.getD,List.getElem?_eq_getElem h1]
    exact List.getElem_mem _
   have hp:∀ x∈z0z L (L.getD 0 l0).1,1≤x:=fun x hx=>by
    obtain⟨y,hy,rfl⟩:=List.mem_map.1 hx
    obtain⟨j,hj,rfl⟩:=z3t l0 (List.mem_filter.1 hy).1
    have:=(z3m hL).2 j hj
    unfold z2e at this
    simp only [Bool.and_eq_true,decide_eq_true_eq] at this
    exact this.1.2
   have:=z8r hp
   have:=List.length_pos_of_mem hm
   omega
theorem fills_pos {sk to q:Int} {T:List Tk} (h:z2c sk to q T=true) (h1:1≤T.length):1≤z1c T [] sk:=by
 rw [z8y T sk (fills_sku h)]
 have hp:∀ x∈allT T,1≤x:=fun x hx=>by
  obtain⟨y,hy,rfl⟩:=List.mem_map.1 hx
  obtain⟨j,hj,rfl⟩:=z3t tk0 hy
  unfold z2c at h
  rw [Bool.and_eq_true,List.all_eq_true] at h
  have:=h.1 j (List.mem_range.2 hj)
  unfold z4f at this
  simp only [Bool.and_eq_true,decide_eq_true_eq] at this
  exact this.1.2
 have:=z8r hp
 have e:(allT T).length=T.length:=by unfold allT;simp
 omega
theorem z1r {P:Pg} (h:z0l 4 4 P=true) (hok:Pgok P):(1≤(z0k P).length∧(z0k P).length≤5)∧∀ s∈z0k P,z9i s:=by
 obtain⟨k,od,po,L,T,M,sk,fr,to,q⟩:=P
 have h2:(z0m 4 4 && askP 4 4 ⟨k,od,po,L,T,M,sk,fr,to,q⟩ && decide ((⟨k,od,po,L,T,M,sk,fr,to,q⟩:Pg)=qofP ⟨k,od,po,L,T,M,sk,fr,to,q⟩))=true:=h
 have hsk:0≤sk:=hok.sku.1
 have hfr:0≤fr:=hok.frm.1
 have hto:0≤to:=hok.to.1
 have hqq:q≤9223372036854775807:=hok.qty.2
 have house:∀ K:Int,k=K→(K=1∨K=2∨K=3∨K=4)→z0s 4 4 od T=true→(∀ s∈z7a K M,z9i s)→(1≤T.length∨1≤(z7a K M).length)→(1≤(z0k ⟨k,od,po,L,T,M,sk,fr,to,q⟩).length∧(z0k ⟨k,od,po,L,T,M,sk,fr,to,q⟩).length≤5)∧∀ s∈z0k ⟨k,od,po,L,T,M,sk,fr,to,q⟩,z9i s:=by
  intro K hk hK ht ho h1
  subst hk
  rw [z3w hK hok.takes h]
  have hl:=house_len (K:=k) hok.takes ht
  have hol:(z7a k M).length≤1:=by unfold z7a;split <;> (try split) <;> simp
  refine⟨?_,fun s hs=>?_⟩
  · rw [List.length_append]
    rcases h1 with h1 | h1
    · have:=hl.2 h1;omega
    · omega
  rcases List.mem_append.1 hs with hs | hs
  · exact house_fine (by omega) hok.takes ht s hs
  · exact ho s hs
 by_cases k1:k=1
 · subst k1
   rw [ask1] at h2
   simp only [Bool.and_eq_true,decide_eq_true_eq] at h2
   obtain⟨⟨_,⟨⟨⟨⟨⟨⟨⟨_,_⟩,a3⟩,a4⟩,a5⟩,a6⟩,a7⟩,_⟩⟩,_⟩:=h2
   have hs:=cover_some a4 a3 hok.lines a7
   by_cases hm:1≤M.length
   · refine house 1 rfl (by omega) a5 (by rw [q2i hm];exact fun s hs=>by obtain rfl:=List.mem_singleton.1 hs;exact z9x (.inl rfl) hm a6 hok.owes) (.inr (by rw [q2i hm];simp))
   · obtain rfl:M=[]:=List.eq_nil_of_length_eq_zero (by omega)
     exact house 1 rfl (by omega) a5 (by rw [q1p];exact fun s hs=>by cases hs) (.inl (by simpa using hs))
 by_cases k2:k=2
 · subst k2
   rw [ask2] at h2
   simp only [Bool.and_eq_true,decide_eq_true_eq] at h2
   obtain⟨⟨_,⟨⟨⟨_,a2⟩,a3⟩,a4⟩⟩,_⟩:=h2
   by_cases hm:1≤M.length
   · refine house 2 rfl (by omega) a2 (by rw [q2h hm];exact fun s hs=>by obtain rfl:=List.mem_singleton.1 hs;exact z9x (.inr rfl) hm a3 hok.owes) (.inr (by rw [q2h hm];simp))
   · obtain rfl:M=[]:=List.eq_nil_of_length_eq_zero (by omega)
     exact house 2 rfl (by omega) a2 (by rw [q1p];exact fun s hs=>by cases hs) (.inl (by simpa using a4))
 by_cases k3:k=3
 · subst k3
   rw [ask3] at h2
   simp only [Bool.and_eq_true,decide_eq_true_eq] at h2
   obtain⟨⟨_,⟨⟨_,a2⟩,a3⟩⟩,_⟩:=h2
   exact house 3 rfl (by omega) a2 (by rw [z9w (.inl rfl)];exact fun s hs=>by cases hs) (.inl a3)
 by_cases k4:k=4
 · subst k4
   rw [ask4] at h2
   simp only [Bool.and_eq_true,decide_eq_true_eq] at h2
   obtain⟨⟨_,⟨⟨_,a2⟩,a3⟩⟩,_⟩:=h2
   exact house 4 rfl (by omega) a2 (by rw [z9w (.inr rfl)];exact fun s hs=>by cases hs) (.inl a3)
 by_cases k5:k=5
 · subst k5
   rw [steps_five od po L T M sk fr to q h]
   have hz:=five_ok od po L T M sk fr to q h
   rw [ask5] at h2
   simp only [Bool.and_eq_true,decide_eq_true_eq] at h2
   obtain⟨⟨_,⟨⟨⟨a1,a2⟩,a3⟩,a4⟩⟩,_⟩:=h2
   have hz2:=(z3x _).1 hz
   by_cases ht:1≤T.length
   · rw [if_pos ht]
     have hp:=fills_pos a4 ht
     refine⟨by simp,fun s hs=>?_⟩
     simp only [List.cons_append,List.nil_append,List.mem_cons,List.not_mem_nil,or_false] at hs
     rcases hs with rfl | rfl | rfl
     · exact z7c (by omega) ⟨hsk,a1⟩ ⟨hto,a2⟩ ⟨a3,hqq⟩
     · exact z7c (by omega) ⟨hsk,a1⟩ ⟨hto,a2⟩ ⟨hp,hz2.2⟩
     · exact pay_fine ⟨hsk,a1⟩ ⟨hp,hz2.2⟩
   · rw [if_neg ht]
     refine⟨by simp,fun s hs=>?_⟩
     simp only [List.append_nil,List.mem_cons,List.not_mem_nil,or_false] at hs
     subst hs
     exact z7c (by omega) ⟨hsk,a1⟩ ⟨hto,a2⟩ ⟨a3,hqq⟩
 by_cases k6:k=6
 · subst k6
   rw [steps_six od po L T M sk fr to q h]
   rw [ask6] at h2
   simp only [Bool.and_eq_true,decide_eq_true_eq] at h2
   obtain⟨⟨_,⟨⟨⟨⟨a1,a2⟩,a3⟩,_⟩,a5⟩⟩,_⟩:=h2
   refine⟨by simp,fun s hs=>?_⟩
   simp only [List.mem_cons,List.not_mem_nil,or_false] at hs
   rcases hs with rfl | rfl
   · exact z7c (by omega) ⟨hsk,a1⟩ ⟨hfr,a2⟩ ⟨a5,hqq⟩
   · exact z7c (by omega) ⟨hsk,a1⟩ ⟨hto,a3⟩ ⟨a5,hqq⟩
 have:=z6e (s:=4) (w:=4) (P:=⟨k,od,po,L,T,M,sk,fr,to,q⟩) ⟨k1,k2,k3,k4,k5,k6⟩
 rw [h] at this
 cases this
structure Crs where
 sg:Int
 P:Pg
 bk:Bool
 st:Int
 tr:Int
 tx:Int
deriving DecidableEq
structure Crok (c:Crs):Prop where
 sg:0≤c.sg∧c.sg≤4294967295
 P:Pgok c.P
 st:In64 c.st
 tr:In64 c.tr
 tx:0≤c.tx∧c.tx≤4294967295
def lenC (c:Crs):Int:=((z0k c.P).length:Int)
def z3c (c:Crs):Bool:=(c.sg != 0) && z0l 4 4 c.P && decide (0≤c.st) && decide (c.st≤lenC c) && decide (0≤c.tr)
theorem z2x {c:Crs} (h:z3c c=true):c.sg≠0∧z0l 4 4 c.P=true∧0≤c.st∧c.st≤lenC c∧0≤c.tr:=by
 unfold z3c at h
 simp only [Bool.and_eq_true,bne_iff_ne,ne_eq,decide_eq_true_eq] at h
 exact⟨h.1.1.1.1,h.1.1.1.2,h.1.1.2,h.1.2,h.2⟩
theorem goodC_of {c:Crs} (h1:c.sg≠0) (h2:z0l 4 4 c.P=true) (h3:0≤c.st) (h4:c.st≤lenC c) (h5:0≤c.tr):z3c c=true:=by
 unfold z3c
 simp [h1,h2,h3,h4,h5]
theorem z5s {c:Crs} (h:z3c c=true) (hok:Pgok c.P):1≤lenC c∧lenC c≤5:=by
 have:=(z1r (z2x h).2.1 hok).1
 unfold lenC
 omega
def z1u (c:Crs):Int × Bool:=if c.bk then (c.st-1,decide (0<c.st)) else (c.st,decide (c.st<lenC c))
def outC (c:Crs):Int:=if c.bk then 2 else 1
def z8h (c:Crs) (X:Rx):Bool :=
 let bt:=(X.sg==c.sg) && (c.tx==0)
 let wi:=X.tx==c.tx
 if X.k=2 then bt && (z1u c).2 && (X.cp==c.bk) && (X.st==(z1u c).1)
 else if X.k=3∨X.k=6∨X.k=7 then wi
 else if X.k=4 then wi && (z1u c).2
 else if X.k=5 then wi && !c.bk && decide (c.tr<9223372036854775807)
 else if X.k=8 then bt && !c.bk
 else if X.k=9 then bt && !(z1u c).2 && (X.o==outC c)
 else false
def z9f (c:Crs) (X:Rx):Crs :=
 if X.k=2 then { c with tx:=X.tx }
 else if X.k=4 then { c with st:=if c.bk then c.st-1 else c.st+1,tx:=0 }
 else if X.k=5 then { c with tr:=c.tr+1 }
 else if X.k=7 then { c with tx:=0 }
 else if X.k=8 then { c with bk:=true }
 else c
def appX (c:Crs) (X:Rx):Crs × Int :=
 if z3c c=false then (c,12) else if z1j X=false∨X.k=1 then (c,1) else if z8h c X=false then (c,12) else (z9f c X,0)
def noC:Crs:=⟨0,noP,false,0,0,0⟩
def z6j (X:Rx):Crs × Int:=if X.k=1∧z1j X=true then (⟨X.sg,X.pg,false,0,0,0⟩,0) else (noC,1)
def stp0:Stp:=(0,0,[])
def opsT (s:Stp):List O:=opsS s.1 s.2.1 s.2.2
def stpC (c:Crs):Stp:=(z0k c.P).getD (z1u c).1.toNat stp0
def opsC (c:Crs):List O:=if z3c c=false∨(z1u c).2=false then [] else if c.bk then negF (opsT (stpC c)) else opsT (stpC c)
def recK (k sg tx st:Int) (cp:Bool) (key:K) (d o:Int):Rx:=⟨k,sg,tx,st,cp,key,d,o,noP⟩
def z6i (t:Tc):Rx:=if (z2r t).2 then recK 6 0 t.id 0 false (z2r t).1.1 (z2r t).1.2 0 else recK 7 0 t.id 0 false (0,0,0) 0 0
def z5i (c:Crs) (id:Int):Rx:=if (z1u c).2 then recK 2 c.sg id (z1u c).1 c.bk (0,0,0) 0 0 else recK 9 c.sg 0 0 false (0,0,0) 0 (outC c)
def z3j (c:Crs) (t:Tc):Rx:=if t.dn.length<(opsC c).length then recK 3 0 t.id 0 false ((opsC c).getD t.dn.length o0).1 ((opsC c).getD t.dn.length o0).2 0 else recK 4 0 t.id 0 false (0,0,0) 0 0
def z2d (c:Crs) (t:Tc) (retry id:Int):Rx :=
 if z3c c=false then noX
 else if c.tx≠0 then (if t.dd then z6i t else z3j c t)
 else if c.bk=false∧retry<c.tr then recK 8 c.sg 0 0 false (0,0,0) 0 0
 else z5i c id
theorem goodX_k {X:Rx} (h:z1j X=true):(kOk X.k=true∧(kS X.k==(X.sg != 0))=true∧(kT X.k==(X.tx != 0))=true∧z7s (kB X.k) X.st X.cp=true∧addB (kA X.k) X.key X.d=true∧outB (kO X.k) X.o=true∧z8g (kP X.k) X.pg=true):=by
 unfold z1j at h
 simp only [Bool.and_eq_true] at h
 exact⟨h.1.1.1.1.1.1,h.1.1.1.1.1.2,h.1.1.1.1.2,h.1.1.1.2,h.1.1.2,h.1.2,h.2⟩
theorem aft_ok {c:Crs} {X:Rx} (hc:Crok c) (hg:z3c c=true) (hok:Rxok X) (hf:z8h c X=true):Crok (z9f c X):=by
 obtain⟨g1,g2,g3,g4,g5⟩:=z2x hg
 have hl:=z5s hg hc.P
 have h6:X.k=5→c.tr<9223372036854775807:=fun e=>by
  unfold z8h at hf
  simp [e] at hf
  exact hf.2
 have ht:=hc.tr
 unfold In64 at ht
 unfold z9f
 split
 · exact⟨hc.sg,hc.P,hc.st,hc.tr,hok.tx⟩
 split
 · refine⟨hc.sg,hc.P,?_,hc.tr,⟨Int.le_refl 0,by show (0:Int)≤4294967295;omega⟩⟩
   show In64 (if c.bk then c.st-1 else c.st+1)
   unfold In64
   split <;> omega
 split
 · rename_i h5
   have:=h6 h5
   exact⟨hc.sg,hc.P,hc.st,by show In64 (c.tr+1);unfold In64;omega,hc.tx⟩
 split
 · exact⟨hc.sg,hc.P,hc.st,hc.tr,⟨Int.le_refl 0,by show (0:Int)≤4294967295;omega⟩⟩
 split
 · exact⟨hc.sg,hc.P,hc.st,hc.tr,hc.tx⟩
 · exact hc
end Go.Proofs.YtclbkfpbdidaiaaGreatDoor
namespace Go.Proofs.YtclbkfpbdidaiaaGreatDoor
open Go.Lib (hid)
set_option maxHeartbeats 16000000
open Go.RowKit Go.ChangeShapes Go.WideShapes
set_option linter.unusedVariables false
set_option maxRecDepth 10000
set_option linter.unusedSimpArgs false
structure Rv where
 k:Int
 sg:Int
 tx:Int
 st:Int
 cp:Bool
 ka:Int
 kb:Int
 kc:Int
 d:Int
 o:Int
 pk:Int
 od:Int
 po:Int
 lp:Option Addr
 ln:Nat
 lcp:Nat
 tp:Option Addr
 tn:Nat
 tcp:Nat
 wp:Option Addr
 wn:Nat
 wcp:Nat
 sk:Int
 fr:Int
 to:Int
 q:Int
def pcs (r:Rv):Array Value:=#[.int .u8 r.pk,.int .u32 r.od,.int .u8 r.po,.slice r.lp r.ln r.lcp,.slice r.tp r.tn r.tcp,.slice r.wp r.wn r.wcp,.int .u8 r.sk,.int .u8 r.fr,.int .u8 r.to,.int .i64 r.q]
def rcs (r:Rv):Array Value:=#[.int .u8 r.k,.int .u32 r.sg,.int .u32 r.tx,.int .u8 r.st,.bool r.cp,.int .u8 r.ka,.int .u8 r.kb,.int .u8 r.kc,.int .i64 r.d,.int .u8 r.o,.int .u8 r.pk,.int .u32 r.od,.int .u8 r.po,.slice r.lp r.ln r.lcp,.slice r.tp r.tn r.tcp,.slice r.wp r.wn r.wcp,.int .u8 r.sk,.int .u8 r.fr,.int .u8 r.to,.int .i64 r.q]
def rz:Rv:=⟨0,0,0,0,false,0,0,0,0,0,0,0,0,none,0,0,none,0,0,none,0,0,0,0,0,0⟩
def Rv.pg (r:Rv) (L:List Ln) (T:List Tk) (M:List Ln):Pg:=⟨r.pk,r.od,r.po,L,T,M,r.sk,r.fr,r.to,r.q⟩
def Rv.x (r:Rv) (L:List Ln) (T:List Tk) (M:List Ln):Rx:=⟨r.k,r.sg,r.tx,r.st,r.cp,(r.ka,r.kb,r.kc),r.d,r.o,r.pg L T M⟩
abbrev RvM (w:World) (r:Rv) (L:List Ln) (T:List Tk) (M:List Ln):Prop:=PgM w r.lp r.ln r.lcp L r.tp r.tn r.tcp T r.wp r.wn r.wcp M
theorem rz_m (w:World):RvM w rz [] [] []:=⟨SlG.empty _,SlG.empty _,SlG.empty _⟩
theorem z9v (r:Rv):(rcs r).all (·.oneCell')=true:=by simp [rcs,Value.oneCell']
def RB (w:World) (B:Nat) (r:Rv):Prop:=w.heap[B]?=some (.cells (rcs r) 42 (0,0))
theorem RB.later {w w':World} {B:Nat} {r:Rv} (h:RB w B r) (hb:Below w.heap.size w w'):RB w' B r:=z0b h hb
theorem RB.new (w:World) (r:Rv):RB (w.alloc (.cells (rcs r) 42)) w.heap.size r:=z0c _ _
theorem RB.lt {w:World} {B:Nat} {r:Rv} (h:RB w B r):B<w.heap.size:=z0g h
theorem RB.at {w:World} {B:Nat} {r:Rv} (h:RB w B r):w.cell? ⟨B,0,none⟩=some (.int .u8 r.k)∧w.cell? ⟨B,1,none⟩=some (.int .u32 r.sg)∧w.cell? ⟨B,2,none⟩=some (.int .u32 r.tx)∧w.cell? ⟨B,3,none⟩=some (.int .u8 r.st)∧w.cell? ⟨B,4,none⟩=some (.bool r.cp)∧w.cell? ⟨B,5,none⟩=some (.int .u8 r.ka)∧w.cell? ⟨B,6,none⟩=some (.int .u8 r.kb)∧w.cell? ⟨B,7,none⟩=some (.int .u8 r.kc)∧w.cell? ⟨B,8,none⟩=some (.int .i64 r.d)∧w.cell? ⟨B,9,none⟩=some (.int .u8 r.o) :=
 ⟨z0a h rfl,z0a h rfl,z0a h rfl,z0a h rfl,z0a h rfl,z0a h rfl,z0a h rfl,z0a h rfl,z0a h rfl,z0a h rfl⟩
theorem RB.chg {S:Nat→Prop} {w w':World} {B:Nat} {r:Rv} (h:RB w B r) (hc:Chg S w w') (hs:¬ S B):RB w' B r:=(hc.block B (z0g h) hs).trans h
theorem RB.set {w:World} {B:Nat} {r:Rv} (h:RB w B r) (r':Rv):RB (w.setRow B (rcs r')) B r':=setRow_heap _ _ _ _ _ _ h
theorem z0j {ops:Array Oper} {rest:List Oper} {a:Act} {w:World} {Q:Exit→Act→World→Prop} {dst:Option Tmp} {x:Operand} {ty:TypeId} {pos:String} {after:Array Edge} {B:Nat} {r:Rv} (hC:RB w B r) (hx:a.eval x=.pointer (some ⟨B,0,none⟩))
 (h:wpList Tryz.prog ops Q rest (a.put dst (.agg (rcs r))) w):wpList Tryz.prog ops Q (Oper.mk dst (.load 42 x) ty pos after none::rest) a w :=
 wpList_load_row rfl 42 x rfl B hx 42 (rcs r) (0,0) _ hC Tryz.underlying42 rfl (by kernel_rfl) h
theorem z0w {ops:Array Oper} {rest:List Oper} {a:Act} {w:World} {Q:Exit→Act→World→Prop} {dst:Option Tmp} {x:Operand} {ty:TypeId} {pos:String} {after:Array Edge} {gd:Option (Nat × Bool)} {B:Nat} {r:Rv} (hC:RB w B r) (hw:Region.wanted (Oper.mk dst (.load 42 x) ty pos after gd) (yielded ops a.tmps)=true) (hx:a.eval x=.pointer (some ⟨B,0,none⟩))
 (h:wpList Tryz.prog ops Q rest (a.put dst (.agg (rcs r))) w):wpList Tryz.prog ops Q (Oper.mk dst (.load 42 x) ty pos after gd::rest) a w :=
 wpList_step fun K hK=>by
  rw [if_pos hw]
  exact wp_load_row 42 x rfl B hx 42 (rcs r) (0,0) _ hC Tryz.underlying42 rfl (by kernel_rfl) (hK _ _ h)
theorem rcs_prog (r:Rv):∀ j,j<(pcs r).size→(rcs r)[10+j]?=(pcs r)[j]?:=by
 intro j hj
 have h10:j<10:=hj
 rcases (by omega:j=0∨j=1∨j=2∨j=3∨j=4∨j=5∨j=6∨j=7∨j=8∨j=9) with rfl | rfl | rfl | rfl | rfl | rfl | rfl | rfl | rfl | rfl <;> rfl
theorem z4g {ops:Array Oper} {rest:List Oper} {a:Act} {w:World} {Q:Exit→Act→World→Prop} {dst:Option Tmp} {x:Operand} {ty:TypeId} {pos:String} {after:Array Edge} {B:Nat} {r:Rv} (hC:RB w B r) (hx:a.eval x=.pointer (some ⟨B,10,none⟩))
 (h:wpList Tryz.prog ops Q rest (a.put dst (.agg (pcs r))) w):wpList Tryz.prog ops Q (Oper.mk dst (.load 26 x) ty pos after none::rest) a w :=
 z2u rfl 26 x rfl B 10 hx 42 (rcs r) (pcs r) (0,0) _ hC (rcs_prog r) Tryz.underlying26 rfl (by kernel_rfl) h
theorem z0y (r':Rv) {ops:Array Oper} {rest:List Oper} {a:Act} {w:World} {Q:Exit→Act→World→Prop} {dst:Option Tmp} {x y:Operand} {ty:TypeId} {pos:String} {after:Array Edge} {B:Nat} {r:Rv} (hB:RB w B r)
 (hx:a.eval x=.pointer (some ⟨B,0,none⟩)) (hy:a.eval y=.agg (rcs r'))
 (h:wpList Tryz.prog ops Q rest (a.put dst undef) (w.setRow B (rcs r'))):wpList Tryz.prog ops Q (Oper.mk dst (.store 42 x y) ty pos after none::rest) a w :=
 wpList_store_row rfl 42 x y rfl B (rcs r') hx hy 42 (rcs r) hB (by kernel_rfl) rfl (z9v r') h
def Rv.withP (r p:Rv):Rv:={ r with pk:=p.pk,od:=p.od,po:=p.po,lp:=p.lp,ln:=p.ln,lcp:=p.lcp,tp:=p.tp,tn:=p.tn,tcp:=p.tcp,wp:=p.wp,wn:=p.wn,wcp:=p.wcp,sk:=p.sk,fr:=p.fr,to:=p.to,q:=p.q }
theorem pcs_one (r:Rv):(pcs r).all (·.oneCell')=true:=by simp [pcs,Value.oneCell']
structure Cv where
 sg:Int
 p:Rv
 bk:Bool
 st:Int
 tr:Int
 tx:Int
def ccs (c:Cv):Array Value:=#[.int .u32 c.sg,.int .u8 c.p.pk,.int .u32 c.p.od,.int .u8 c.p.po,.slice c.p.lp c.p.ln c.p.lcp,.slice c.p.tp c.p.tn c.p.tcp,.slice c.p.wp c.p.wn c.p.wcp,.int .u8 c.p.sk,.int .u8 c.p.fr,.int .u8 c.p.to,.int .i64 c.p.q,.bool c.bk,.int .i64 c.st,.int .i64 c.tr,.int .u32 c.tx]
def cz:Cv:=⟨0,rz,false,0,0,0⟩
def Cv.x (c:Cv) (L:List Ln) (T:List Tk) (M:List Ln):Crs:=⟨c.sg,c.p.pg L T M,c.bk,c.st,c.tr,c.tx⟩
theorem cz_x:cz.x [] [] []=noC:=rfl
abbrev CvM (w:World) (c:Cv) (L:List Ln) (T:List Tk) (M:List Ln):Prop:=RvM w c.p L T M
theorem q0l (c:Cv):(ccs c).all (·.oneCell')=true:=by simp [ccs,Value.oneCell']
def CB (w:World) (B:Nat) (c:Cv):Prop:=w.heap[B]?=some (.cells (ccs c) 34 (0,0))
theorem CB.later {w w':World} {B:Nat} {c:Cv} (h:CB w B c) (hb:Below w.heap.size w w'):CB w' B c:=z0b h hb
theorem CB.new (w:World) (c:Cv):CB (w.alloc (.cells (ccs c) 34)) w.heap.size c:=z0c _ _
theorem CB.lt {w:World} {B:Nat} {c:Cv} (h:CB w B c):B<w.heap.size:=z0g h
theorem CB.at {w:World} {B:Nat} {c:Cv} (h:CB w B c):w.cell? ⟨B,0,none⟩=some (.int .u32 c.sg)∧w.cell? ⟨B,11,none⟩=some (.bool c.bk)∧w.cell? ⟨B,12,none⟩=some (.int .i64 c.st)∧w.cell? ⟨B,13,none⟩=some (.int .i64 c.tr)∧w.cell? ⟨B,14,none⟩=some (.int .u32 c.tx) :=
 ⟨z0a h rfl,z0a h rfl,z0a h rfl,z0a h rfl,z0a h rfl⟩
theorem CB.free {w:World} {B:Nat} {c:Cv} (h:CB w B c) (j:Nat):w.frozen? ⟨B,j,none⟩=false:=z0o j h
theorem CB.put {w:World} {B:Nat} {c:Cv} (h:CB w B c) (j:Nat) (v:Value) (c':Cv) (he:(ccs c).setIfInBounds j v=ccs c'):CB (w.setCell ⟨B,j,none⟩ v) B c':=by
 have:=z0u j v h
 rw [he] at this
 exact this
theorem CB.chg {S:Nat→Prop} {w w':World} {B:Nat} {c:Cv} (h:CB w B c) (hc:Chg S w w') (hs:¬ S B):CB w' B c:=(hc.block B (z0g h) hs).trans h
theorem CB.set {w:World} {B:Nat} {c:Cv} (h:CB w B c) (c':Cv):CB (w.setRow B (ccs c')) B c':=setRow_heap _ _ _ _ _ _ h
theorem z0f {ops:Array Oper} {rest:List Oper} {a:Act} {w:World} {Q:Exit→Act→World→Prop} {dst:Option Tmp} {x:Operand} {ty:TypeId} {pos:String} {after:Array Edge} {B:Nat} {c:Cv} (hC:CB w B c) (hx:a.eval x=.pointer (some ⟨B,0,none⟩))
 (h:wpList Tryz.prog ops Q rest (a.put dst (.agg (ccs c))) w):wpList Tryz.prog ops Q (Oper.mk dst (.load 34 x) ty pos after none::rest) a w :=
 wpList_load_row rfl 34 x rfl B hx 34 (ccs c) (0,0) _ hC Tryz.underlying34 rfl (by kernel_rfl) h
theorem ccs_prog (c:Cv):∀ j,j<(pcs c.p).size→(ccs c)[1+j]?=(pcs c.p)[j]?:=by
 intro j hj
 have h10:j<10:=hj
 rcases (by omega:j=0∨j=1∨j=2∨j=3∨j=4∨j=5∨j=6∨j=7∨j=8∨j=9) with rfl | rfl | rfl | rfl | rfl | rfl | rfl | rfl | rfl | rfl <;> rfl
theorem wpList_load_cp {ops:Array Oper} {rest:List Oper} {a:Act} {w:World} {Q:Exit→Act→World→Prop} {dst:Option Tmp} {x:Operand} {ty:TypeId} {pos:String} {after:Array Edge} {B:Nat} {c:Cv} (hC:CB w B c) (hx:a.eval x=.pointer (some ⟨B,1,none⟩))
 (h:wpList Tryz.prog ops Q rest (a.put dst (.agg (pcs c.p))) w):wpList Tryz.prog ops Q (Oper.mk dst (.load 26 x) ty pos after none::rest) a w :=
 z2u rfl 26 x rfl B 1 hx 34 (ccs c) (pcs c.p) (0,0) _ hC (ccs_prog c) Tryz.underlying26 rfl (by kernel_rfl) h
theorem z0p (c':Cv) {ops:Array Oper} {rest:List Oper} {a:Act} {w:World} {Q:Exit→Act→World→Prop} {dst:Option Tmp} {x y:Operand} {ty:TypeId} {pos:String} {after:Array Edge} {B:Nat} {c:Cv} (hB:CB w B c)
 (hx:a.eval x=.pointer (some ⟨B,0,none⟩)) (hy:a.eval y=.agg (ccs c'))
 (h:wpList Tryz.prog ops Q rest (a.put dst undef) (w.setRow B (ccs c'))):wpList Tryz.prog ops Q (Oper.mk dst (.store 34 x y) ty pos after none::rest) a w :=
 wpList_store_row rfl 34 x y rfl B (ccs c') hx hy 34 (ccs c) hB (by kernel_rfl) rfl (q0l c') h
def Cv.withP (c:Cv) (p:Rv):Cv:={ c with p:=p }
theorem put_cprog (c:Cv) (p:Rv):q0u (ccs c) 1 (pcs p).toList=ccs (c.withP p):=by simp [q0u,ccs,pcs,Cv.withP]
theorem wpList_store_cp (p:Rv) {ops:Array Oper} {rest:List Oper} {a:Act} {w:World} {Q:Exit→Act→World→Prop} {dst:Option Tmp} {x y:Operand} {ty:TypeId} {pos:String} {after:Array Edge} {B:Nat} {c:Cv} (hB:CB w B c)
 (hx:a.eval x=.pointer (some ⟨B,1,none⟩)) (hy:a.eval y=.agg (pcs p))
 (h:wpList Tryz.prog ops Q rest (a.put dst undef) (w.setRow B (ccs (c.withP p)))):wpList Tryz.prog ops Q (Oper.mk dst (.store 26 x y) ty pos after none::rest) a w :=
 wpList_store_part rfl 26 x y rfl B 1 (pcs p) hx hy 34 (ccs c) hB (by kernel_rfl) (by show 1+10≤15;omega) (pcs_one p) (by rw [put_cprog];exact h)
theorem z2h {a:Act} {w:World} {dst:Option Tmp} {x:Operand} {ty:TypeId} {pos:String} {after:Array Edge} {gd:Option (Nat × Bool)} {B:Nat} {c:Cv} (hx:a.eval x=.pointer (some ⟨B,1,none⟩)) (hC:CB w B c) :
 (execOp a.eval (Oper.mk dst (.load 26 x) ty pos after gd)).run Tryz.prog w=.ok (.value (.agg (pcs c.p))) w:=by
 unfold execOp
 simp only [hx,Instr.loadAt,Instr.sureAddr,Sem.run_bind,Sem.run_pure,Result.andThen_ok,z2v w B 1 34 26 (ccs c) (pcs c.p) (0,0) _ hC (ccs_prog c) Tryz.underlying26 rfl (by kernel_rfl)]
theorem z4e {a:Act} {w:World} {dst:Option Tmp} {x:Operand} {ty:TypeId} {pos:String} {after:Array Edge} {gd:Option (Nat × Bool)} {B:Nat} {c:Cv} (hx:a.eval x=.pointer (some ⟨B,0,none⟩)) (hC:CB w B c) :
 (execOp a.eval (Oper.mk dst (.load 34 x) ty pos after gd)).run Tryz.prog w=.ok (.value (.agg (ccs c))) w:=by
 unfold execOp
 simp only [hx,Instr.loadAt,Instr.sureAddr,Sem.run_bind,Sem.run_pure,Result.andThen_ok,run_loadVar_row w B 34 34 (ccs c) (0,0) _ hC Tryz.underlying34 rfl (by kernel_rfl)]
theorem q1j (c:Cv) (L:List Ln) (T:List Tk) (M:List Ln) (W:World) (hw:Words W) (hP:CvM W c L T M) (hok:Crok (c.x L T M)) (h1:c.p.ln≤400∧c.p.tn≤400∧c.p.wn≤400):Calls Tryz.prog 49 #[.agg (ccs c)] W fun e w'=>e=.returned (.bool (z3c (c.x L T M)))∧Below W.heap.size W w':=by
 obtain⟨W1,hW1,hx,hb1⟩:∃ W1,W.alloc (.cells (ccs c) 34)=W1∧CB W1 W.heap.size c∧Below W.heap.size W W1:=⟨_,rfl,CB.new W c,(Below.refl _ _).alloc (Nat.le_refl _) _⟩
 obtain⟨B,hB⟩:∃ B,W.heap.size=B:=⟨_,rfl⟩
 rw [hB] at hx
 have HX:=hid hx
 have HW1:=hid hW1
 have HB1:=hid hb1
 have HRE:=hid hB
 have HG:Hid (∀ w',Below W1.heap.size W1 w'→Calls Tryz.prog 80 #[.int .i64 4,.int .i64 4,.agg (pcs c.p)] w' fun e w''=>e=.returned (.bool (z0l 4 4 (c.p.pg L T M)))∧Below w'.heap.size w' w''):=hid fun w' hb=>z5v 4 4 c.p.pk c.p.od c.p.po c.p.lp c.p.ln c.p.lcp c.p.tp c.p.tn c.p.tcp c.p.wp c.p.wn c.p.wcp c.p.sk c.p.fr c.p.to c.p.q L T M w' (hw.later (hb1.trans (hb.mono hb1.size))) ((hP.later hb1).later hb) hok.P h1
 have HS:Hid (∀ w',Below W1.heap.size W1 w'→Calls Tryz.prog 48 #[.agg (pcs c.p)] w' (GivesS w' (z0k (c.p.pg L T M)))):=hid fun w' hb=>q0y c.p.pk c.p.od c.p.po c.p.lp c.p.ln c.p.lcp c.p.tp c.p.tn c.p.tcp c.p.wp c.p.wn c.p.wcp c.p.sk c.p.fr c.p.to c.p.q L T M w' (hw.later (hb1.trans (hb.mono hb1.size))) ((hP.later hb1).later hb) hok.P h1
 have HGC:Hid (z3c (c.x L T M)=((c.sg != 0) && z0l 4 4 (c.p.pg L T M) && decide (0≤c.st) && decide (c.st≤((z0k (c.p.pg L T M)).length:Int)) && decide (0≤c.tr))):=hid rfl
 obtain⟨g,hg⟩:∃ g,z0l 4 4 (c.p.pg L T M)=g:=⟨_,rfl⟩
 obtain⟨S,hS⟩:∃ S,z0k (c.p.pg L T M)=S:=⟨_,rfl⟩
 rw [hg] at HG HGC
 rw [hS] at HS HGC
 generalize z3c (c.x L T M)=G at *
 clear hW1 hx hb1 hB hg hS hw hP hok h1
 cases q1:(c.sg != 0)
 case false =>
  go_enter Tryz.func49,Tryz.ntmps49
  go_upto_region 1 with (fail)
  rw [HW1.out,HRE.out]
  have hbd:Below W1.heap.size W1 W1.drew:=(Below.refl _ _).drew
  refine wp_region_held_drew (S:=fun w'=>Hid (Below W1.heap.size W1 w')) (by kernel_rfl) (hid hbd) (fun hHeld=>?_)
  clear hbd
  generalize W1.drew=Wd at *
  refine wpAnyH_take (i:=0) (oi:=⟨some 3,_,_,_,_,_⟩) (v:=.pointer (some ⟨B,0,none⟩)) rfl (by kernel_rfl) (by kernel_rfl) (by kernel_rfl) (fun _ _ _ h=>h) (Or.inl ⟨by rfl,fun w' hw'=>?_⟩) (by assumption) ?_
  · clear hHeld
    go_simp
  try simp only [Act.put,sIB,sCZ,sCS]
  refine wpAnyH_take (i:=1) (oi:=⟨some 4,_,_,_,_,_⟩) (v:=.int .u32 c.sg) rfl (by kernel_rfl) (by kernel_rfl) (by kernel_rfl) (fun _ _ _ h=>h) (Or.inl ⟨by rfl,fun w' hw'=>?_⟩) (by assumption) ?_
  · have hcx:=(HX.out.later hw'.out).at.1
    clear hHeld hw'
    go_simp
  try simp only [Act.put,sIB,sCZ,sCS]
  refine wpAnyH_take (i:=2) (oi:=⟨some 5,_,_,_,_,_⟩) (v:=.bool false) rfl (by kernel_rfl) (by kernel_rfl) (by kernel_rfl) (fun _ _ _ h=>h) (Or.inl ⟨by rfl,fun w' hw'=>?_⟩) (by assumption) ?_
  · clear hHeld
    go_simp
  try simp only [Act.put,sIB,sCZ,sCS]
  refine wpAnyH_take (i:=3) (oi:=⟨some 6,_,_,_,_,_⟩) (v:=.bool false) rfl (by kernel_rfl) (by kernel_rfl) (by kernel_rfl) (fun _ _ _ h=>h) (Or.inl ⟨by rfl,fun w' hw'=>?_⟩) (by assumption) ?_
  · clear hHeld
    go_simp
  try simp only [Act.put,sIB,sCZ,sCS]
  refine wpAnyH_take (i:=4) (oi:=⟨some 7,_,_,_,_,_⟩) (v:=undef) rfl (by kernel_rfl) (by kernel_rfl) (by kernel_rfl) (fun _ _ _ h=>h) (Or.inr ⟨by rfl,rfl⟩) (by assumption) ?_
  try simp only [Act.put,sIB,sCZ,sCS]
  refine wpAnyH_take (i:=5) (oi:=⟨some 8,_,_,_,_,_⟩) (v:=undef) rfl (by kernel_rfl) (by kernel_rfl) (by kernel_rfl) (fun _ _ _ h=>h) (Or.inr ⟨by rfl,rfl⟩) (by assumption) ?_
  try simp only [Act.put,sIB,sCZ,sCS]
  refine wpAnyH_take (i:=6) (oi:=⟨some 9,_,_,_,_,_⟩) (v:=undef) rfl (by kernel_rfl) (by kernel_rfl) (by kernel_rfl) (fun _ _ _ h=>h) (Or.inr ⟨by rfl,rfl⟩) (by assumption) ?_
  try simp only [Act.put,sIB,sCZ,sCS]
  refine wpAnyH_take (i:=7) (oi:=⟨some 10,_,_,_,_,_⟩) (v:=.bool false) rfl (by kernel_rfl) (by kernel_rfl) (by kernel_rfl) (fun _ _ _ h=>h) (Or.inl ⟨by rfl,fun w' hw'=>?_⟩) (by assumption) ?_
  · clear hHeld
    go_simp
  try simp only [Act.put,sIB,sCZ,sCS]
  refine wpAnyH_take (i:=8) (oi:=⟨some 11,_,_,_,_,_⟩) (v:=.bool false) rfl (by kernel_rfl) (by kernel_rfl) (by kernel_rfl) (fun _ _ _ h=>h) (Or.inl ⟨by rfl,fun w' hw'=>?_⟩) (by assumption) ?_
  · clear hHeld
    go_simp
  try simp only [Act.put,sIB,sCZ,sCS]
  refine wpAnyH_take (i:=9) (oi:=⟨some 12,_,_,_,_,_⟩) (v:=undef) rfl (by kernel_rfl) (by kernel_rfl) (by kernel_rfl) (fun _ _ _ h=>h) (Or.inr ⟨by rfl,rfl⟩) (by assumption) ?_
  try simp only [Act.put,sIB,sCZ,sCS]
  refine wpAnyH_take (i:=10) (oi:=⟨some 13,_,_,_,_,_⟩) (v:=undef) rfl (by kernel_rfl) (by kernel_rfl) (by kernel_rfl) (fun _ _ _ h=>h) (Or.inr ⟨by rfl,rfl⟩) (by assumption) ?_
  try simp only [Act.put,sIB,sCZ,sCS]
  refine wpAnyH_take (i:=11) (oi:=⟨some 14,_,_,_,_,_⟩) (v:=undef) rfl (by kernel_rfl) (by kernel_rfl) (by kernel_rfl) (fun _ _ _ h=>h) (Or.inr ⟨by rfl,rfl⟩) (by assumption) ?_
  try simp only [Act.put,sIB,sCZ,sCS]
  refine wpAnyH_take (i:=12) (oi:=⟨some 15,_,_,_,_,_⟩) (v:=.bool false) rfl (by kernel_rfl) (by kernel_rfl) (by kernel_rfl) (fun _ _ _ h=>h) (Or.inl ⟨by rfl,fun w' hw'=>?_⟩) (by assumption) ?_
  · clear hHeld
    go_simp
  try simp only [Act.put,sIB,sCZ,sCS]
  refine wpAnyH_take (i:=13) (oi:=⟨some 16,_,_,_,_,_⟩) (v:=.bool false) rfl (by kernel_rfl) (by kernel_rfl) (by kernel_rfl) (fun _ _ _ h=>h) (Or.inl ⟨by rfl,fun w' hw'=>?_⟩) (by assumption) ?_
  · clear hHeld
    go_simp
  try simp only [Act.put,sIB,sCZ,sCS]
  refine wpAnyH_take (i:=14) (oi:=⟨some 17,_,_,_,_,_⟩) (v:=undef) rfl (by kernel_rfl) (by kernel_rfl) (by kernel_rfl) (fun _ _ _ h=>h) (Or.inr ⟨by rfl,rfl⟩) (by assumption) ?_
  try simp only [Act.put,sIB,sCZ,sCS]
  refine wpAnyH_take (i:=15) (oi:=⟨some 18,_,_,_,_,_⟩) (v:=undef) rfl (by kernel_rfl) (by kernel_rfl) (by kernel_rfl) (fun _ _ _ h=>h) (Or.inr ⟨by rfl,rfl⟩) (by assumption) ?_
  try simp only [Act.put,sIB,sCZ,sCS]
  refine wpAnyH_take (i:=16) (oi:=⟨some 19,_,_,_,_,_⟩) (v:=undef) rfl (by kernel_rfl) (by kernel_rfl) (by kernel_rfl) (fun _ _ _ h=>h) (Or.inr ⟨by rfl,rfl⟩) (by assumption) ?_
  try simp only [Act.put,sIB,sCZ,sCS]
  refine wpAnyH_take (i:=17) (oi:=⟨some 20,_,_,_,_,_⟩) (v:=undef) rfl (by kernel_rfl) (by kernel_rfl) (by kernel_rfl) (fun _ _ _ h=>h) (Or.inr ⟨by rfl,rfl⟩) (by assumption) ?_
  try simp only [Act.put,sIB,sCZ,sCS]
  refine wpAnyH_take (i:=18) (oi:=⟨some 21,_,_,_,_,_⟩) (v:=undef) rfl (by kernel_rfl) (by kernel_rfl) (by kernel_rfl) (fun _ _ _ h=>h) (Or.inr ⟨by rfl,rfl⟩) (by assumption) ?_
  try simp only [Act.put,sIB,sCZ,sCS]
  refine wpAnyH_take (i:=19) (oi:=⟨some 22,_,_,_,_,_⟩) (v:=undef) rfl (by kernel_rfl) (by kernel_rfl) (by kernel_rfl) (fun _ _ _ h=>h) (Or.inr ⟨by rfl,rfl⟩) (by assumption) ?_
  try simp only [Act.put,sIB,sCZ,sCS]
  refine wpAnyH_take (i:=20) (oi:=⟨some 23,_,_,_,_,_⟩) (v:=undef) rfl (by kernel_rfl) (by kernel_rfl) (by kernel_rfl) (fun _ _ _ h=>h) (Or.inr ⟨by rfl,rfl⟩) (by assumption) ?_
  try simp only [Act.put,sIB,sCZ,sCS]
  refine wpAnyH_take (i:=21) (oi:=⟨some 24,_,_,_,_,_⟩) (v:=.bool false) rfl (by kernel_rfl) (by kernel_rfl) (by kernel_rfl) (fun _ _ _ h=>h) (Or.inl ⟨by rfl,fun w' hw'=>?_⟩) (by assumption) ?_
  · clear hHeld
    go_simp
  try simp only [Act.put,sIB,sCZ,sCS]
  refine wpAnyH_take (i:=22) (oi:=⟨some 25,_,_,_,_,_⟩) (v:=.bool false) rfl (by kernel_rfl) (by kernel_rfl) (by kernel_rfl) (fun _ _ _ h=>h) (Or.inl ⟨by rfl,fun w' hw'=>?_⟩) (by assumption) ?_
  · clear hHeld
    go_simp
  try simp only [Act.put,sIB,sCZ,sCS]
  refine wpAnyH_take (i:=23) (oi:=⟨some 26,_,_,_,_,_⟩) (v:=undef) rfl (by kernel_rfl) (by kernel_rfl) (by kernel_rfl) (fun _ _ _ h=>h) (Or.inr ⟨by rfl,rfl⟩) (by assumption) ?_
  try simp only [Act.put,sIB,sCZ,sCS]
  refine wpAnyH_take (i:=24) (oi:=⟨some 27,_,_,_,_,_⟩) (v:=undef) rfl (by kernel_rfl) (by kernel_rfl) (by kernel_rfl) (fun _ _ _ h=>h) (Or.inr ⟨by rfl,rfl⟩) (by assumption) ?_
  try simp only [Act.put,sIB,sCZ,sCS]
  refine wpAnyH_take (i:=25) (oi:=⟨some 28,_,_,_,_,_⟩) (v:=undef) rfl (by kernel_rfl) (by kernel_rfl) (by kernel_rfl) (fun _ _ _ h=>h) (Or.inr ⟨by rfl,rfl⟩) (by assumption) ?_
  try simp only [Act.put,sIB,sCZ,sCS]
  refine wpAnyH_take (i:=26) (oi:=⟨some 29,_,_,_,_,_⟩) (v:=.bool false) rfl (by kernel_rfl) (by kernel_rfl) (by kernel_rfl) (fun _ _ _ h=>h) (Or.inl ⟨by rfl,fun w' hw'=>?_⟩) (by assumption) ?_
  · clear hHeld
    go_simp
  try simp only [Act.put,sIB,sCZ,sCS]
  refine wpAnyH_take (i:=27) (oi:=⟨some 2,_,_,_,_,_⟩) (v:=.bool false) rfl (by kernel_rfl) (by kernel_rfl) (by kernel_rfl) (fun _ _ _ h=>h) (Or.inl ⟨by rfl,fun w' hw'=>?_⟩) (by assumption) ?_
  · clear hHeld
    go_simp
  try simp only [Act.put,sIB,sCZ,sCS]
  have hfin:=hHeld.out
  refine wpAnyH_done (by kernel_rfl) ?_ _
  clear hHeld
  go_wp2_with fail
  go_ret
  refine⟨?_,HB1.out.trans (hfin.mono HB1.out.size)⟩
  rw [HGC.out]
  first | (simp [*];done) | (rw [decide_eq_false (show ¬ 0≤c.st by omega)];simp;done) | (rw [decide_eq_false (show ¬ c.st≤(S.length:Int) by omega)];simp;done)
 cases g
 case false =>
  go_enter Tryz.func49,Tryz.ntmps49
  go_upto_region 1 with (fail)
  rw [HW1.out,HRE.out]
  have hbd:Below W1.heap.size W1 W1.drew:=(Below.refl _ _).drew
  refine wp_region_held_drew (S:=fun w'=>Hid (Below W1.heap.size W1 w')) (by kernel_rfl) (hid hbd) (fun hHeld=>?_)
  clear hbd
  generalize W1.drew=Wd at *
  refine wpAnyH_take (i:=0) (oi:=⟨some 3,_,_,_,_,_⟩) (v:=.pointer (some ⟨B,0,none⟩)) rfl (by kernel_rfl) (by kernel_rfl) (by kernel_rfl) (fun _ _ _ h=>h) (Or.inl ⟨by rfl,fun w' hw'=>?_⟩) (by assumption) ?_
  · clear hHeld
    go_simp
  try simp only [Act.put,sIB,sCZ,sCS]
  refine wpAnyH_take (i:=1) (oi:=⟨some 4,_,_,_,_,_⟩) (v:=.int .u32 c.sg) rfl (by kernel_rfl) (by kernel_rfl) (by kernel_rfl) (fun _ _ _ h=>h) (Or.inl ⟨by rfl,fun w' hw'=>?_⟩) (by assumption) ?_
  · have hcx:=(HX.out.later hw'.out).at.1
    clear hHeld hw'
    go_simp
  try simp only [Act.put,sIB,sCZ,sCS]
  refine wpAnyH_take (i:=2) (oi:=⟨some 5,_,_,_,_,_⟩) (v:=.bool true) rfl (by kernel_rfl) (by kernel_rfl) (by kernel_rfl) (fun _ _ _ h=>h) (Or.inl ⟨by rfl,fun w' hw'=>?_⟩) (by assumption) ?_
  · clear hHeld
    go_simp
  try simp only [Act.put,sIB,sCZ,sCS]
  refine wpAnyH_take (i:=3) (oi:=⟨some 6,_,_,_,_,_⟩) (v:=.bool true) rfl (by kernel_rfl) (by kernel_rfl) (by kernel_rfl) (fun _ _ _ h=>h) (Or.inl ⟨by rfl,fun w' hw'=>?_⟩) (by assumption) ?_
  · clear hHeld
    go_simp
  try simp only [Act.put,sIB,sCZ,sCS]
  refine wpAnyH_take (i:=4) (oi:=⟨some 7,_,_,_,_,_⟩) (v:=.pointer (some ⟨B,1,none⟩)) rfl (by kernel_rfl) (by kernel_rfl) (by kernel_rfl) (fun _ _ _ h=>h) (Or.inl ⟨by rfl,fun w' hw'=>?_⟩) (by assumption) ?_
  · clear hHeld
    go_simp
  try simp only [Act.put,sIB,sCZ,sCS]
  refine wpAnyH_take (i:=5) (oi:=⟨some 8,_,_,_,_,_⟩) (v:=.agg (pcs c.p)) rfl (by kernel_rfl) (by kernel_rfl) (by kernel_rfl) (fun _ _ _ h=>h) (Or.inl ⟨by rfl,fun w' hw'=>z2h rfl (HX.out.later (Hid.out hw'))⟩) (by assumption) ?_
  try simp only [Act.put,sIB,sCZ,sCS]
  refine wpAnyH_ready (rs:=[6]) (by kernel_rfl) (by simp) (AllReadyH.cons rfl (fun K hK=>?_) (AllReadyH.nil))
  go_simp
  go_wp2_with fail
  refine (HG.out _ hHeld.out).mono ?_
  rintro e w2 ⟨rfl,hb2⟩
  have hSN:Hid (Below W1.heap.size W1 w2):=hid (hHeld.out.trans (hb2.mono hHeld.out.size))
  clear hb2
  go_wp2_with fail
  refine hK.out _ _ hSN (fun hHeld2=>?_)
  try simp only [Act.put,sIB,sCZ,sCS]
  clear hSN hK K hHeld
  have hHeld:=hHeld2
  clear hHeld2
  refine wpAnyH_take (i:=7) (oi:=⟨some 10,_,_,_,_,_⟩) (v:=.bool false) rfl (by kernel_rfl) (by kernel_rfl) (by kernel_rfl) (fun _ _ _ h=>h) (Or.inl ⟨by rfl,fun w' hw'=>?_⟩) (by assumption) ?_
  · clear hHeld
    go_simp
  try simp only [Act.put,sIB,sCZ,sCS]
  refine wpAnyH_take (i:=8) (oi:=⟨some 11,_,_,_,_,_⟩) (v:=.bool false) rfl (by kernel_rfl) (by kernel_rfl) (by kernel_rfl) (fun _ _ _ h=>h) (Or.inl ⟨by rfl,fun w' hw'=>?_⟩) (by assumption) ?_
  · clear hHeld
    go_simp
  try simp only [Act.put,sIB,sCZ,sCS]
  refine wpAnyH_take (i:=9) (oi:=⟨some 12,_,_,_,_,_⟩) (v:=undef) rfl (by kernel_rfl) (by kernel_rfl) (by kernel_rfl) (fun _ _ _ h=>h) (Or.inr ⟨by rfl,rfl⟩) (by assumption) ?_
  try simp only [Act.put,sIB,sCZ,sCS]
  refine wpAnyH_take (i:=10) (oi:=⟨some 13,_,_,_,_,_⟩) (v:=undef) rfl (by kernel_rfl) (by kernel_rfl) (by kernel_rfl) (fun _ _ _ h=>h) (Or.inr ⟨by rfl,rfl⟩) (by assumption) ?_
  try simp only [Act.put,sIB,sCZ,sCS]
  refine wpAnyH_take (i:=11) (oi:=⟨some 14,_,_,_,_,_⟩) (v:=undef) rfl (by kernel_rfl) (by kernel_rfl) (by kernel_rfl) (fun _ _ _ h=>h) (Or.inr ⟨by rfl,rfl⟩) (by assumption) ?_
  try simp only [Act.put,sIB,sCZ,sCS]
  refine wpAnyH_take (i:=12) (oi:=⟨some 15,_,_,_,_,_⟩) (v:=.bool false) rfl (by kernel_rfl) (by kernel_rfl) (by kernel_rfl) (fun _ _ _ h=>h) (Or.inl ⟨by rfl,fun w' hw'=>?_⟩) (by assumption) ?_
  · clear hHeld
    go_simp
  try simp only [Act.put,sIB,sCZ,sCS]
  refine wpAnyH_take (i:=13) (oi:=⟨some 16,_,_,_,_,_⟩) (v:=.bool false) rfl (by kernel_rfl) (by kernel_rfl) (by kernel_rfl) (fun _ _ _ h=>h) (Or.inl ⟨by rfl,fun w' hw'=>?_⟩) (by assumption) ?_
  · clear hHeld
    go_simp
  try simp only [Act.put,sIB,sCZ,sCS]
  refine wpAnyH_take (i:=14) (oi:=⟨some 17,_,_,_,_,_⟩) (v:=undef) rfl (by kernel_rfl) (by kernel_rfl) (by kernel_rfl) (fun _ _ _ h=>h) (Or.inr ⟨by rfl,rfl⟩) (by assumption) ?_
  try simp only [Act.put,sIB,sCZ,sCS]
  refine wpAnyH_take (i:=15) (oi:=⟨some 18,_,_,_,_,_⟩) (v:=undef) rfl (by kernel_rfl) (by kernel_rfl) (by kernel_rfl) (fun _ _ _ h=>h) (Or.inr ⟨by rfl,rfl⟩) (by assumption) ?_
  try simp only [Act.put,sIB,sCZ,sCS]
  refine wpAnyH_take (i:=16) (oi:=⟨some 19,_,_,_,_,_⟩) (v:=undef) rfl (by kernel_rfl) (by kernel_rfl) (by kernel_rfl) (fun _ _ _ h=>h) (Or.inr ⟨by rfl,rfl⟩) (by assumption) ?_
  try simp only [Act.put,sIB,sCZ,sCS]
  refine wpAnyH_take (i:=17) (oi:=⟨some 20,_,_,_,_,_⟩) (v:=undef) rfl (by kernel_rfl) (by kernel_rfl) (by kernel_rfl) (fun _ _ _ h=>h) (Or.inr ⟨by rfl,rfl⟩) (by assumption) ?_
  try simp only [Act.put,sIB,sCZ,sCS]
  refine wpAnyH_take (i:=18) (oi:=⟨some 21,_,_,_,_,_⟩) (v:=undef) rfl (by kernel_rfl) (by kernel_rfl) (by kernel_rfl) (fun _ _ _ h=>h) (Or.inr ⟨by rfl,rfl⟩) (by assumption) ?_
  try simp only [Act.put,sIB,sCZ,sCS]
  refine wpAnyH_take (i:=19) (oi:=⟨some 22,_,_,_,_,_⟩) (v:=undef) rfl (by kernel_rfl) (by kernel_rfl) (by kernel_rfl) (fun _ _ _ h=>h) (Or.inr ⟨by rfl,rfl⟩) (by assumption) ?_
  try simp only [Act.put,sIB,sCZ,sCS]
  refine wpAnyH_take (i:=20) (oi:=⟨some 23,_,_,_,_,_⟩) (v:=undef) rfl (by kernel_rfl) (by kernel_rfl) (by kernel_rfl) (fun _ _ _ h=>h) (Or.inr ⟨by rfl,rfl⟩) (by assumption) ?_
  try simp only [Act.put,sIB,sCZ,sCS]
  refine wpAnyH_take (i:=21) (oi:=⟨some 24,_,_,_,_,_⟩) (v:=.bool false) rfl (by kernel_rfl) (by kernel_rfl) (by kernel_rfl) (fun _ _ _ h=>h) (Or.inl ⟨by rfl,fun w' hw'=>?_⟩) (by assumption) ?_
  · clear hHeld
    go_simp
  try simp only [Act.put,sIB,sCZ,sCS]
  refine wpAnyH_take (i:=22) (oi:=⟨some 25,_,_,_,_,_⟩) (v:=.bool false) rfl (by kernel_rfl) (by kernel_rfl) (by kernel_rfl) (fun _ _ _ h=>h) (Or.inl ⟨by rfl,fun w' hw'=>?_⟩) (by assumption) ?_
  · clear hHeld
    go_simp
  try simp only [Act.put,sIB,sCZ,sCS]
  refine wpAnyH_take (i:=23) (oi:=⟨some 26,_,_,_,_,_⟩) (v:=undef) rfl (by kernel_rfl) (by kernel_rfl) (by kernel_rfl) (fun _ _ _ h=>h) (Or.inr ⟨by rfl,rfl⟩) (by assumption) ?_
  try simp only [Act.put,sIB,sCZ,sCS]
  refine wpAnyH_take (i:=24) (oi:=⟨some 27,_,_,_,_,_⟩) (v:=undef) rfl (by kernel_rfl) (by kernel_rfl) (by kernel_rfl) (fun _ _ _ h=>h) (Or.inr ⟨by rfl,rfl⟩) (by assumption) ?_
  try simp only [Act.put,sIB,sCZ,sCS]
  refine wpAnyH_take (i:=25) (oi:=⟨some 28,_,_,_,_,_⟩) (v:=undef) rfl (by kernel_rfl) (by kernel_rfl) (by kernel_rfl) (fun _ _ _ h=>h) (Or.inr ⟨by rfl,rfl⟩) (by assumption) ?_
  try simp only [Act.put,sIB,sCZ,sCS]
  refine wpAnyH_take (i:=26) (oi:=⟨some 29,_,_,_,_,_⟩) (v:=.bool false) rfl (by kernel_rfl) (by kernel_rfl) (by kernel_rfl) (fun _ _ _ h=>h) (Or.inl ⟨by rfl,fun w' hw'=>?_⟩) (by assumption) ?_
  · clear hHeld
    go_simp
  try simp only [Act.put,sIB,sCZ,sCS]
  refine wpAnyH_take (i:=27) (oi:=⟨some 2,_,_,_,_,_⟩) (v:=.bool false) rfl (by kernel_rfl) (by kernel_rfl) (by kernel_rfl) (fun _ _ _ h=>h) (Or.inl ⟨by rfl,fun w' hw'=>?_⟩) (by assumption) ?_
  · clear hHeld
    go_simp
  try simp only [Act.put,sIB,sCZ,sCS]
  have hfin:=hHeld.out
  refine wpAnyH_done (by kernel_rfl) ?_ _
  clear hHeld
  go_wp2_with fail
  go_ret
  refine⟨?_,HB1.out.trans (hfin.mono HB1.out.size)⟩
  rw [HGC.out]
  first | (simp [*];done) | (rw [decide_eq_false (show ¬ 0≤c.st by omega)];simp;done) | (rw [decide_eq_false (show ¬ c.st≤(S.length:Int) by omega)];simp;done)
 by_cases q3:0≤c.st
 case neg =>
  go_enter Tryz.func49,Tryz.ntmps49
  go_upto_region 1 with (fail)
  rw [HW1.out,HRE.out]
  have hbd:Below W1.heap.size W1 W1.drew:=(Below.refl _ _).drew
  refine wp_region_held_drew (S:=fun w'=>Hid (Below W1.heap.size W1 w')) (by kernel_rfl) (hid hbd) (fun hHeld=>?_)
  clear hbd
  generalize W1.drew=Wd at *
  refine wpAnyH_take (i:=0) (oi:=⟨some 3,_,_,_,_,_⟩) (v:=.pointer (some ⟨B,0,none⟩)) rfl (by kernel_rfl) (by kernel_rfl) (by kernel_rfl) (fun _ _ _ h=>h) (Or.inl ⟨by rfl,fun w' hw'=>?_⟩) (by assumption) ?_
  · clear hHeld
    go_simp
  try simp only [Act.put,sIB,sCZ,sCS]
  refine wpAnyH_take (i:=1) (oi:=⟨some 4,_,_,_,_,_⟩) (v:=.int .u32 c.sg) rfl (by kernel_rfl) (by kernel_rfl) (by kernel_rfl) (fun _ _ _ h=>h) (Or.inl ⟨by rfl,fun w' hw'=>?_⟩) (by assumption) ?_
  · have hcx:=(HX.out.later hw'.out).at.1
    clear hHeld hw'
    go_simp
  try simp only [Act.put,sIB,sCZ,sCS]
  refine wpAnyH_take (i:=2) (oi:=⟨some 5,_,_,_,_,_⟩) (v:=.bool true) rfl (by kernel_rfl) (by kernel_rfl) (by kernel_rfl) (fun _ _ _ h=>h) (Or.inl ⟨by rfl,fun w' hw'=>?_⟩) (by assumption) ?_
  · clear hHeld
    go_simp
  try simp only [Act.put,sIB,sCZ,sCS]
  refine wpAnyH_take (i:=3) (oi:=⟨some 6,_,_,_,_,_⟩) (v:=.bool true) rfl (by kernel_rfl) (by kernel_rfl) (by kernel_rfl) (fun _ _ _ h=>h) (Or.inl ⟨by rfl,fun w' hw'=>?_⟩) (by assumption) ?_
  · clear hHeld
    go_simp
  try simp only [Act.put,sIB,sCZ,sCS]
  refine wpAnyH_take (i:=4) (oi:=⟨some 7,_,_,_,_,_⟩) (v:=.pointer (some ⟨B,1,none⟩)) rfl (by kernel_rfl) (by kernel_rfl) (by kernel_rfl) (fun _ _ _ h=>h) (Or.inl ⟨by rfl,fun w' hw'=>?_⟩) (by assumption) ?_
  · clear hHeld
    go_simp
  try simp only [Act.put,sIB,sCZ,sCS]
  refine wpAnyH_take (i:=5) (oi:=⟨some 8,_,_,_,_,_⟩) (v:=.agg (pcs c.p)) rfl (by kernel_rfl) (by kernel_rfl) (by kernel_rfl) (fun _ _ _ h=>h) (Or.inl ⟨by rfl,fun w' hw'=>z2h rfl (HX.out.later (Hid.out hw'))⟩) (by assumption) ?_
  try simp only [Act.put,sIB,sCZ,sCS]
  refine wpAnyH_ready (rs:=[6]) (by kernel_rfl) (by simp) (AllReadyH.cons rfl (fun K hK=>?_) (AllReadyH.nil))
  go_simp
  go_wp2_with fail
  refine (HG.out _ hHeld.out).mono ?_
  rintro e w2 ⟨rfl,hb2⟩
  have hSN:Hid (Below W1.heap.size W1 w2):=hid (hHeld.out.trans (hb2.mono hHeld.out.size))
  clear hb2
  go_wp2_with fail
  refine hK.out _ _ hSN (fun hHeld2=>?_)
  try simp only [Act.put,sIB,sCZ,sCS]
  clear hSN hK K hHeld
  have hHeld:=hHeld2
  clear hHeld2
  refine wpAnyH_take (i:=7) (oi:=⟨some 10,_,_,_,_,_⟩) (v:=.bool true) rfl (by kernel_rfl) (by kernel_rfl) (by kernel_rfl) (fun _ _ _ h=>h) (Or.inl ⟨by rfl,fun w' hw'=>?_⟩) (by assumption) ?_
  · clear hHeld
    go_simp
  try simp only [Act.put,sIB,sCZ,sCS]
  refine wpAnyH_take (i:=8) (oi:=⟨some 11,_,_,_,_,_⟩) (v:=.bool true) rfl (by kernel_rfl) (by kernel_rfl) (by kernel_rfl) (fun _ _ _ h=>h) (Or.inl ⟨by rfl,fun w' hw'=>?_⟩) (by assumption) ?_
  · clear hHeld
    go_simp
  try simp only [Act.put,sIB,sCZ,sCS]
  refine wpAnyH_take (i:=9) (oi:=⟨some 12,_,_,_,_,_⟩) (v:=.pointer (some ⟨B,12,none⟩)) rfl (by kernel_rfl) (by kernel_rfl) (by kernel_rfl) (fun _ _ _ h=>h) (Or.inl ⟨by rfl,fun w' hw'=>?_⟩) (by assumption) ?_
  · clear hHeld
    go_simp
  try simp only [Act.put,sIB,sCZ,sCS]
  refine wpAnyH_take (i:=10) (oi:=⟨some 13,_,_,_,_,_⟩) (v:=.int .i64 c.st) rfl (by kernel_rfl) (by kernel_rfl) (by kernel_rfl) (fun _ _ _ h=>h) (Or.inl ⟨by rfl,fun w' hw'=>?_⟩) (by assumption) ?_
  · have hcx:=(HX.out.later hw'.out).at.2.2.1
    clear hHeld hw'
    go_simp
  try simp only [Act.put,sIB,sCZ,sCS]
  refine wpAnyH_take (i:=11) (oi:=⟨some 14,_,_,_,_,_⟩) (v:=.bool false) rfl (by kernel_rfl) (by kernel_rfl) (by kernel_rfl) (fun _ _ _ h=>h) (Or.inl ⟨by rfl,fun w' hw'=>?_⟩) (by assumption) ?_
  · clear hHeld
    go_simp
  try simp only [Act.put,sIB,sCZ,sCS]
  refine wpAnyH_take (i:=12) (oi:=⟨some 15,_,_,_,_,_⟩) (v:=.bool false) rfl (by kernel_rfl) (by kernel_rfl) (by kernel_rfl) (fun _ _ _ h=>h) (Or.inl ⟨by rfl,fun w' hw'=>?_⟩) (by assumption) ?_
  · clear hHeld
    go_simp
  try simp only [Act.put,sIB,sCZ,sCS]
  refine wpAnyH_take (i:=13) (oi:=⟨some 16,_,_,_,_,_⟩) (v:=.bool false) rfl (by kernel_rfl) (by kernel_rfl) (by kernel_rfl) (fun _ _ _ h=>h) (Or.inl ⟨by rfl,fun w' hw'=>?_⟩) (by assumption) ?_
  · clear hHeld
    go_simp
  try simp only [Act.put,sIB,sCZ,sCS]
  refine wpAnyH_take (i:=14) (oi:=⟨some 17,_,_,_,_,_⟩) (v:=undef) rfl (by kernel_rfl) (by kernel_rfl) (by kernel_rfl) (fun _ _ _ h=>h) (Or.inr ⟨by rfl,rfl⟩) (by assumption) ?_
  try simp only [Act.put,sIB,sCZ,sCS]
  refine wpAnyH_take (i:=15) (oi:=⟨some 18,_,_,_,_,_⟩) (v:=undef) rfl (by kernel_rfl) (by kernel_rfl) (by kernel_rfl) (fun _ _ _ h=>h) (Or.inr ⟨by rfl,rfl⟩) (by assumption) ?_
  try simp only [Act.put,sIB,sCZ,sCS]
  refine wpAnyH_take (i:=16) (oi:=⟨some 19,_,_,_,_,_⟩) (v:=undef) rfl (by kernel_rfl) (by kernel_rfl) (by kernel_rfl) (fun _ _ _ h=>h) (Or.inr ⟨by rfl,rfl⟩) (by assumption) ?_
  try simp only [Act.put,sIB,sCZ,sCS]
  refine wpAnyH_take (i:=17) (oi:=⟨some 20,_,_,_,_,_⟩) (v:=undef) rfl (by kernel_rfl) (by kernel_rfl) (by kernel_rfl) (fun _ _ _ h=>h) (Or.inr ⟨by rfl,rfl⟩) (by assumption) ?_
  try simp only [Act.put,sIB,sCZ,sCS]
  refine wpAnyH_take (i:=18) (oi:=⟨some 21,_,_,_,_,_⟩) (v:=undef) rfl (by kernel_rfl) (by kernel_rfl) (by kernel_rfl) (fun _ _ _ h=>h) (Or.inr ⟨by rfl,rfl⟩) (by assumption) ?_
  try simp only [Act.put,sIB,sCZ,sCS]
  refine wpAnyH_take (i:=19) (oi:=⟨some 22,_,_,_,_,_⟩) (v:=undef) rfl (by kernel_rfl) (by kernel_rfl) (by kernel_rfl) (fun _ _ _ h=>h) (Or.inr ⟨by rfl,rfl⟩) (by assumption) ?_
  try simp only [Act.put,sIB,sCZ,sCS]
  refine wpAnyH_take (i:=20) (oi:=⟨some 23,_,_,_,_,_⟩) (v:=undef) rfl (by kernel_rfl) (by kernel_rfl) (by kernel_rfl) (fun _ _ _ h=>h) (Or.inr ⟨by rfl,rfl⟩) (by assumption) ?_
  try simp only [Act.put,sIB,sCZ,sCS]
  refine wpAnyH_take (i:=21) (oi:=⟨some 24,_,_,_,_,_⟩) (v:=.bool false) rfl (by kernel_rfl) (by kernel_rfl) (by kernel_rfl) (fun _ _ _ h=>h) (Or.inl ⟨by rfl,fun w' hw'=>?_⟩) (by assumption) ?_
  · clear hHeld
    go_simp
  try simp only [Act.put,sIB,sCZ,sCS]
  refine wpAnyH_take (i:=22) (oi:=⟨some 25,_,_,_,_,_⟩) (v:=.bool false) rfl (by kernel_rfl) (by kernel_rfl) (by kernel_rfl) (fun _ _ _ h=>h) (Or.inl ⟨by rfl,fun w' hw'=>?_⟩) (by assumption) ?_
  · clear hHeld
    go_simp
  try simp only [Act.put,sIB,sCZ,sCS]
  refine wpAnyH_take (i:=23) (oi:=⟨some 26,_,_,_,_,_⟩) (v:=undef) rfl (by kernel_rfl) (by kernel_rfl) (by kernel_rfl) (fun _ _ _ h=>h) (Or.inr ⟨by rfl,rfl⟩) (by assumption) ?_
  try simp only [Act.put,sIB,sCZ,sCS]
  refine wpAnyH_take (i:=24) (oi:=⟨some 27,_,_,_,_,_⟩) (v:=undef) rfl (by kernel_rfl) (by kernel_rfl) (by kernel_rfl) (fun _ _ _ h=>h) (Or.inr ⟨by rfl,rfl⟩) (by assumption) ?_
  try simp only [Act.put,sIB,sCZ,sCS]
  refine wpAnyH_take (i:=25) (oi:=⟨some 28,_,_,_,_,_⟩) (v:=undef) rfl (by kernel_rfl) (by kernel_rfl) (by kernel_rfl) (fun _ _ _ h=>h) (Or.inr ⟨by rfl,rfl⟩) (by assumption) ?_
  try simp only [Act.put,sIB,sCZ,sCS]
  refine wpAnyH_take (i:=26) (oi:=⟨some 29,_,_,_,_,_⟩) (v:=.bool false) rfl (by kernel_rfl) (by kernel_rfl) (by kernel_rfl) (fun _ _ _ h=>h) (Or.inl ⟨by rfl,fun w' hw'=>?_⟩) (by assumption) ?_
  · clear hHeld
    go_simp
  try simp only [Act.put,sIB,sCZ,sCS]
  refine wpAnyH_take (i:=27) (oi:=⟨some 2,_,_,_,_,_⟩) (v:=.bool false) rfl (by kernel_rfl) (by kernel_rfl) (by kernel_rfl) (fun _ _ _ h=>h) (Or.inl ⟨by rfl,fun w' hw'=>?_⟩) (by assumption) ?_
  · clear hHeld
    go_simp
  try simp only [Act.put,sIB,sCZ,sCS]
  have hfin:=hHeld.out
  refine wpAnyH_done (by kernel_rfl) ?_ _
  clear hHeld
  go_wp2_with fail
  go_ret
  refine⟨?_,HB1.out.trans (hfin.mono HB1.out.size)⟩
  rw [HGC.out]
  first | (simp [*];done) | (rw [decide_eq_false (show ¬ 0≤c.st by omega)];simp;done) | (rw [decide_eq_false (show ¬ c.st≤(S.length:Int) by omega)];simp;done)
 by_cases q4:c.st≤(S.length:Int)
 case neg =>
  go_enter Tryz.func49,Tryz.ntmps49
  go_upto_region 1 with (fail)
  rw [HW1.out,HRE.out]
  have hbd:Below W1.heap.size W1 W1.drew:=(Below.refl _ _).drew
  refine wp_region_held_drew (S:=fun w'=>Hid (Below W1.heap.size W1 w')) (by kernel_rfl) (hid hbd) (fun hHeld=>?_)
  clear hbd
  generalize W1.drew=Wd at *
  refine wpAnyH_take (i:=0) (oi:=⟨some 3,_,_,_,_,_⟩) (v:=.pointer (some ⟨B,0,none⟩)) rfl (by kernel_rfl) (by kernel_rfl) (by kernel_rfl) (fun _ _ _ h=>h) (Or.inl ⟨by rfl,fun w' hw'=>?_⟩) (by assumption) ?_
  · clear hHeld
    go_simp
  try simp only [Act.put,sIB,sCZ,sCS]
  refine wpAnyH_take (i:=1) (oi:=⟨some 4,_,_,_,_,_⟩) (v:=.int .u32 c.sg) rfl (by kernel_rfl) (by kernel_rfl) (by kernel_rfl) (fun _ _ _ h=>h) (Or.inl ⟨by rfl,fun w' hw'=>?_⟩) (by assumption) ?_
  · have hcx:=(HX.out.later hw'.out).at.1
    clear hHeld hw'
    go_simp
  try simp only [Act.put,sIB,sCZ,sCS]
  refine wpAnyH_take (i:=2) (oi:=⟨some 5,_,_,_,_,_⟩) (v:=.bool true) rfl (by kernel_rfl) (by kernel_rfl) (by kernel_rfl) (fun _ _ _ h=>h) (Or.inl ⟨by rfl,fun w' hw'=>?_⟩) (by assumption) ?_
  · clear hHeld
    go_simp
  try simp only [Act.put,sIB,sCZ,sCS]
  refine wpAnyH_take (i:=3) (oi:=⟨some 6,_,_,_,_,_⟩) (v:=.bool true) rfl (by kernel_rfl) (by kernel_rfl) (by kernel_rfl) (fun _ _ _ h=>h) (Or.inl ⟨by rfl,fun w' hw'=>?_⟩) (by assumption) ?_
  · clear hHeld
    go_simp
  try simp only [Act.put,sIB,sCZ,sCS]
  refine wpAnyH_take (i:=4) (oi:=⟨some 7,_,_,_,_,_⟩) (v:=.pointer (some ⟨B,1,none⟩)) rfl (by kernel_rfl) (by kernel_rfl) (by kernel_rfl) (fun _ _ _ h=>h) (Or.inl ⟨by rfl,fun w' hw'=>?_⟩) (by assumption) ?_
  · clear hHeld
    go_simp
  try simp only [Act.put,sIB,sCZ,sCS]
  refine wpAnyH_take (i:=5) (oi:=⟨some 8,_,_,_,_,_⟩) (v:=.agg (pcs c.p)) rfl (by kernel_rfl) (by kernel_rfl) (by kernel_rfl) (fun _ _ _ h=>h) (Or.inl ⟨by rfl,fun w' hw'=>z2h rfl (HX.out.later (Hid.out hw'))⟩) (by assumption) ?_
  try simp only [Act.put,sIB,sCZ,sCS]
  refine wpAnyH_ready (rs:=[6]) (by kernel_rfl) (by simp) (AllReadyH.cons rfl (fun K hK=>?_) (AllReadyH.nil))
  go_simp
  go_wp2_with fail
  refine (HG.out _ hHeld.out).mono ?_
  rintro e w2 ⟨rfl,hb2⟩
  have hSN:Hid (Below W1.heap.size W1 w2):=hid (hHeld.out.trans (hb2.mono hHeld.out.size))
  clear hb2
  go_wp2_with fail
  refine hK.out _ _ hSN (fun hHeld2=>?_)
  try simp only [Act.put,sIB,sCZ,sCS]
  clear hSN hK K hHeld
  have hHeld:=hHeld2
  clear hHeld2
  refine wpAnyH_take (i:=7) (oi:=⟨some 10,_,_,_,_,_⟩) (v:=.bool true) rfl (by kernel_rfl) (by kernel_rfl) (by kernel_rfl) (fun _ _ _ h=>h) (Or.inl ⟨by rfl,fun w' hw'=>?_⟩) (by assumption) ?_
  · clear hHeld
    go_simp
  try simp only [Act.put,sIB,sCZ,sCS]
  refine wpAnyH_take (i:=8) (oi:=⟨some 11,_,_,_,_,_⟩) (v:=.bool true) rfl (by kernel_rfl) (by kernel_rfl) (by kernel_rfl) (fun _ _ _ h=>h) (Or.inl ⟨by rfl,fun w' hw'=>?_⟩) (by assumption) ?_
  · clear hHeld
    go_simp
  try simp only [Act.put,sIB,sCZ,sCS]
  refine wpAnyH_take (i:=9) (oi:=⟨some 12,_,_,_,_,_⟩) (v:=.pointer (some ⟨B,12,none⟩)) rfl (by kernel_rfl) (by kernel_rfl) (by kernel_rfl) (fun _ _ _ h=>h) (Or.inl ⟨by rfl,fun w' hw'=>?_⟩) (by assumption) ?_
  · clear hHeld
    go_simp
  try simp only [Act.put,sIB,sCZ,sCS]
  refine wpAnyH_take (i:=10) (oi:=⟨some 13,_,_,_,_,_⟩) (v:=.int .i64 c.st) rfl (by kernel_rfl) (by kernel_rfl) (by kernel_rfl) (fun _ _ _ h=>h) (Or.inl ⟨by rfl,fun w' hw'=>?_⟩) (by assumption) ?_
  · have hcx:=(HX.out.later hw'.out).at.2.2.1
    clear hHeld hw'
    go_simp
  try simp only [Act.put,sIB,sCZ,sCS]
  refine wpAnyH_take (i:=11) (oi:=⟨some 14,_,_,_,_,_⟩) (v:=.bool true) rfl (by kernel_rfl) (by kernel_rfl) (by kernel_rfl) (fun _ _ _ h=>h) (Or.inl ⟨by rfl,fun w' hw'=>?_⟩) (by assumption) ?_
  · clear hHeld
    go_simp
  try simp only [Act.put,sIB,sCZ,sCS]
  refine wpAnyH_take (i:=12) (oi:=⟨some 15,_,_,_,_,_⟩) (v:=.bool true) rfl (by kernel_rfl) (by kernel_rfl) (by kernel_rfl) (fun _ _ _ h=>h) (Or.inl ⟨by rfl,fun w' hw'=>?_⟩) (by assumption) ?_
  · clear hHeld
    go_simp
  try simp only [Act.put,sIB,sCZ,sCS]
  refine wpAnyH_take (i:=13) (oi:=⟨some 16,_,_,_,_,_⟩) (v:=.bool true) rfl (by kernel_rfl) (by kernel_rfl) (by kernel_rfl) (fun _ _ _ h=>h) (Or.inl ⟨by rfl,fun w' hw'=>?_⟩) (by assumption) ?_
  · clear hHeld
    go_simp
  try simp only [Act.put,sIB,sCZ,sCS]
  refine wpAnyH_take (i:=14) (oi:=⟨some 17,_,_,_,_,_⟩) (v:=.pointer (some ⟨B,12,none⟩)) rfl (by kernel_rfl) (by kernel_rfl) (by kernel_rfl) (fun _ _ _ h=>h) (Or.inl ⟨by rfl,fun w' hw'=>?_⟩) (by assumption) ?_
  · clear hHeld
    go_simp
  try simp only [Act.put,sIB,sCZ,sCS]
  refine wpAnyH_take (i:=15) (oi:=⟨some 18,_,_,_,_,_⟩) (v:=.int .i64 c.st) rfl (by kernel_rfl) (by kernel_rfl) (by kernel_rfl) (fun _ _ _ h=>h) (Or.inl ⟨by rfl,fun w' hw'=>?_⟩) (by assumption) ?_
  · have hcx:=(HX.out.later hw'.out).at.2.2.1
    clear hHeld hw'
    go_simp
  try simp only [Act.put,sIB,sCZ,sCS]
  refine wpAnyH_take (i:=16) (oi:=⟨some 19,_,_,_,_,_⟩) (v:=.pointer (some ⟨B,1,none⟩)) rfl (by kernel_rfl) (by kernel_rfl) (by kernel_rfl) (fun _ _ _ h=>h) (Or.inl ⟨by rfl,fun w' hw'=>?_⟩) (by assumption) ?_
  · clear hHeld
    go_simp
  try simp only [Act.put,sIB,sCZ,sCS]
  refine wpAnyH_take (i:=17) (oi:=⟨some 20,_,_,_,_,_⟩) (v:=.agg (pcs c.p)) rfl (by kernel_rfl) (by kernel_rfl) (by kernel_rfl) (fun _ _ _ h=>h) (Or.inl ⟨by rfl,fun w' hw'=>z2h rfl (HX.out.later (Hid.out hw'))⟩) (by assumption) ?_
  try simp only [Act.put,sIB,sCZ,sCS]
  refine wpAnyH_ready (rs:=[18]) (by kernel_rfl) (by simp) (AllReadyH.cons rfl (fun K hK=>?_) (AllReadyH.nil))
  go_simp
  go_wp2_with fail
  refine (HS.out _ hHeld.out).mono ?_
  rintro e w3 ⟨p3,c3,H3,rfl,hs3,hb3⟩
  have hSN:Hid (Below W1.heap.size W1 w3):=hid (hHeld.out.trans (hb3.mono hHeld.out.size))
  clear hb3 hs3
  go_wp2_with fail
  refine hK.out _ _ hSN (fun hHeld2=>?_)
  try simp only [Act.put,sIB,sCZ,sCS]
  clear hSN hK K hHeld
  have hHeld:=hHeld2
  clear hHeld2
  refine wpAnyH_take (i:=19) (oi:=⟨some 22,_,_,_,_,_⟩) (v:=.int .i64 (S.length:Int)) rfl (by kernel_rfl) (by kernel_rfl) (by kernel_rfl) (fun _ _ _ h=>h) (Or.inl ⟨by rfl,fun w' hw'=>?_⟩) (by assumption) ?_
  · clear hHeld
    go_simp
  try simp only [Act.put,sIB,sCZ,sCS]
  refine wpAnyH_take (i:=20) (oi:=⟨some 23,_,_,_,_,_⟩) (v:=.bool false) rfl (by kernel_rfl) (by kernel_rfl) (by kernel_rfl) (fun _ _ _ h=>h) (Or.inl ⟨by rfl,fun w' hw'=>?_⟩) (by assumption) ?_
  · clear hHeld
    go_simp
  try simp only [Act.put,sIB,sCZ,sCS]
  refine wpAnyH_take (i:=21) (oi:=⟨some 24,_,_,_,_,_⟩) (v:=.bool false) rfl (by kernel_rfl) (by kernel_rfl) (by kernel_rfl) (fun _ _ _ h=>h) (Or.inl ⟨by rfl,fun w' hw'=>?_⟩) (by assumption) ?_
  · clear hHeld
    go_simp
  try simp only [Act.put,sIB,sCZ,sCS]
  refine wpAnyH_take (i:=22) (oi:=⟨some 25,_,_,_,_,_⟩) (v:=.bool false) rfl (by kernel_rfl) (by kernel_rfl) (by kernel_rfl) (fun _ _ _ h=>h) (Or.inl ⟨by rfl,fun w' hw'=>?_⟩) (by assumption) ?_
  · clear hHeld
    go_simp
  try simp only [Act.put,sIB,sCZ,sCS]
  refine wpAnyH_take (i:=23) (oi:=⟨some 26,_,_,_,_,_⟩) (v:=undef) rfl (by kernel_rfl) (by kernel_rfl) (by kernel_rfl) (fun _ _ _ h=>h) (Or.inr ⟨by rfl,rfl⟩) (by assumption) ?_
  try simp only [Act.put,sIB,sCZ,sCS]
  refine wpAnyH_take (i:=24) (oi:=⟨some 27,_,_,_,_,_⟩) (v:=undef) rfl (by kernel_rfl) (by kernel_rfl) (by kernel_rfl) (fun _ _ _ h=>h) (Or.inr ⟨by rfl,rfl⟩) (by assumption) ?_
  try simp only [Act.put,sIB,sCZ,sCS]
  refine wpAnyH_take (i:=25) (oi:=⟨some 28,_,_,_,_,_⟩) (v:=undef) rfl (by kernel_rfl) (by kernel_rfl) (by kernel_rfl) (fun _ _ _ h=>h) (Or.inr ⟨by rfl,rfl⟩) (by assumption) ?_
  try simp only [Act.put,sIB,sCZ,sCS]
  refine wpAnyH_take (i:=26) (oi:=⟨some 29,_,_,_,_,_⟩) (v:=.bool false) rfl (by kernel_rfl) (by kernel_rfl) (by kernel_rfl) (fun _ _ _ h=>h) (Or.inl ⟨by rfl,fun w' hw'=>?_⟩) (by assumption) ?_
  · clear hHeld
    go_simp
  try simp only [Act.put,sIB,sCZ,sCS]
  refine wpAnyH_take (i:=27) (oi:=⟨some 2,_,_,_,_,_⟩) (v:=.bool false) rfl (by kernel_rfl) (by kernel_rfl) (by kernel_rfl) (fun _ _ _ h=>h) (Or.inl ⟨by rfl,fun w' hw'=>?_⟩) (by assumption) ?_
  · clear hHeld
    go_simp
  try simp only [Act.put,sIB,sCZ,sCS]
  have hfin:=hHeld.out
  refine wpAnyH_done (by kernel_rfl) ?_ _
  clear hHeld
  go_wp2_with fail
  go_ret
  refine⟨?_,HB1.out.trans (hfin.mono HB1.out.size)⟩
  rw [HGC.out]
  first | (simp [*];done) | (rw [decide_eq_false (show ¬ 0≤c.st by omega)];simp;done) | (rw [decide_eq_false (show ¬ c.st≤(S.length:Int) by omega)];simp;done)
 case pos =>
  go_enter Tryz.func49,Tryz.ntmps49
  go_upto_region 1 with (fail)
  rw [HW1.out,HRE.out]
  have hbd:Below W1.heap.size W1 W1.drew:=(Below.refl _ _).drew
  refine wp_region_held_drew (S:=fun w'=>Hid (Below W1.heap.size W1 w')) (by kernel_rfl) (hid hbd) (fun hHeld=>?_)
  clear hbd
  generalize W1.drew=Wd at *
  refine wpAnyH_take (i:=0) (oi:=⟨some 3,_,_,_,_,_⟩) (v:=.pointer (some ⟨B,0,none⟩)) rfl (by kernel_rfl) (by kernel_rfl) (by kernel_rfl) (fun _ _ _ h=>h) (Or.inl ⟨by rfl,fun w' hw'=>?_⟩) (by assumption) ?_
  · clear hHeld
    go_simp
  try simp only [Act.put,sIB,sCZ,sCS]
  refine wpAnyH_take (i:=1) (oi:=⟨some 4,_,_,_,_,_⟩) (v:=.int .u32 c.sg) rfl (by kernel_rfl) (by kernel_rfl) (by kernel_rfl) (fun _ _ _ h=>h) (Or.inl ⟨by rfl,fun w' hw'=>?_⟩) (by assumption) ?_
  · have hcx:=(HX.out.later hw'.out).at.1
    clear hHeld hw'
    go_simp
  try simp only [Act.put,sIB,sCZ,sCS]
  refine wpAnyH_take (i:=2) (oi:=⟨some 5,_,_,_,_,_⟩) (v:=.bool true) rfl (by kernel_rfl) (by kernel_rfl) (by kernel_rfl) (fun _ _ _ h=>h) (Or.inl ⟨by rfl,fun w' hw'=>?_⟩) (by assumption) ?_
  · clear hHeld
    go_simp
  try simp only [Act.put,sIB,sCZ,sCS]
  refine wpAnyH_take (i:=3) (oi:=⟨some 6,_,_,_,_,_⟩) (v:=.bool true) rfl (by kernel_rfl) (by kernel_rfl) (by kernel_rfl) (fun _ _ _ h=>h) (Or.inl ⟨by rfl,fun w' hw'=>?_⟩) (by assumption) ?_
  · clear hHeld
    go_simp
  try simp only [Act.put,sIB,sCZ,sCS]
  refine wpAnyH_take (i:=4) (oi:=⟨some 7,_,_,_,_,_⟩) (v:=.pointer (some ⟨B,1,none⟩)) rfl (by kernel_rfl) (by kernel_rfl) (by kernel_rfl) (fun _ _ _ h=>h) (Or.inl ⟨by rfl,fun w' hw'=>?_⟩) (by assumption) ?_
  · clear hHeld
    go_simp
  try simp only [Act.put,sIB,sCZ,sCS]
  refine wpAnyH_take (i:=5) (oi:=⟨some 8,_,_,_,_,_⟩) (v:=.agg (pcs c.p)) rfl (by kernel_rfl) (by kernel_rfl) (by kernel_rfl) (fun _ _ _ h=>h) (Or.inl ⟨by rfl,fun w' hw'=>z2h rfl (HX.out.later (Hid.out hw'))⟩) (by assumption) ?_
  try simp only [Act.put,sIB,sCZ,sCS]
  refine wpAnyH_ready (rs:=[6]) (by kernel_rfl) (by simp) (AllReadyH.cons rfl (fun K hK=>?_) (AllReadyH.nil))
  go_simp
  go_wp2_with fail
  refine (HG.out _ hHeld.out).mono ?_
  rintro e w2 ⟨rfl,hb2⟩
  have hSN:Hid (Below W1.heap.size W1 w2):=hid (hHeld.out.trans (hb2.mono hHeld.out.size))
  clear hb2
  go_wp2_with fail
  refine hK.out _ _ hSN (fun hHeld2=>?_)
  try simp only [Act.put,sIB,sCZ,sCS]
  clear hSN hK K hHeld
  have hHeld:=hHeld2
  clear hHeld2
  refine wpAnyH_take (i:=7) (oi:=⟨some 10,_,_,_,_,_⟩) (v:=.bool true) rfl (by kernel_rfl) (by kernel_rfl) (by kernel_rfl) (fun _ _ _ h=>h) (Or.inl ⟨by rfl,fun w' hw'=>?_⟩) (by assumption) ?_
  · clear hHeld
    go_simp
  try simp only [Act.put,sIB,sCZ,sCS]
  refine wpAnyH_take (i:=8) (oi:=⟨some 11,_,_,_,_,_⟩) (v:=.bool true) rfl (by kernel_rfl) (by kernel_rfl) (by kernel_rfl) (fun _ _ _ h=>h) (Or.inl ⟨by rfl,fun w' hw'=>?_⟩) (by assumption) ?_
  · clear hHeld
    go_simp
  try simp only [Act.put,sIB,sCZ,sCS]
  refine wpAnyH_take (i:=9) (oi:=⟨some 12,_,_,_,_,_⟩) (v:=.pointer (some ⟨B,12,none⟩)) rfl (by kernel_rfl) (by kernel_rfl) (by kernel_rfl) (fun _ _ _ h=>h) (Or.inl ⟨by rfl,fun w' hw'=>?_⟩) (by assumption) ?_
  · clear hHeld
    go_simp
  try simp only [Act.put,sIB,sCZ,sCS]
  refine wpAnyH_take (i:=10) (oi:=⟨some 13,_,_,_,_,_⟩) (v:=.int .i64 c.st) rfl (by kernel_rfl) (by kernel_rfl) (by kernel_rfl) (fun _ _ _ h=>h) (Or.inl ⟨by rfl,fun w' hw'=>?_⟩) (by assumption) ?_
  · have hcx:=(HX.out.later hw'.out).at.2.2.1
    clear hHeld hw'
    go_simp
  try simp only [Act.put,sIB,sCZ,sCS]
  refine wpAnyH_take (i:=11) (oi:=⟨some 14,_,_,_,_,_⟩) (v:=.bool true) rfl (by kernel_rfl) (by kernel_rfl) (by kernel_rfl) (fun _ _ _ h=>h) (Or.inl ⟨by rfl,fun w' hw'=>?_⟩) (by assumption) ?_
  · clear hHeld
    go_simp
  try simp only [Act.put,sIB,sCZ,sCS]
  refine wpAnyH_take (i:=12) (oi:=⟨some 15,_,_,_,_,_⟩) (v:=.bool true) rfl (by kernel_rfl) (by kernel_rfl) (by kernel_rfl) (fun _ _ _ h=>h) (Or.inl ⟨by rfl,fun w' hw'=>?_⟩) (by assumption) ?_
  · clear hHeld
    go_simp
  try simp only [Act.put,sIB,sCZ,sCS]
  refine wpAnyH_take (i:=13) (oi:=⟨some 16,_,_,_,_,_⟩) (v:=.bool true) rfl (by kernel_rfl) (by kernel_rfl) (by kernel_rfl) (fun _ _ _ h=>h) (Or.inl ⟨by rfl,fun w' hw'=>?_⟩) (by assumption) ?_
  · clear hHeld
    go_simp
  try simp only [Act.put,sIB,sCZ,sCS]
  refine wpAnyH_take (i:=14) (oi:=⟨some 17,_,_,_,_,_⟩) (v:=.pointer (some ⟨B,12,none⟩)) rfl (by kernel_rfl) (by kernel_rfl) (by kernel_rfl) (fun _ _ _ h=>h) (Or.inl ⟨by rfl,fun w' hw'=>?_⟩) (by assumption) ?_
  · clear hHeld
    go_simp
  try simp only [Act.put,sIB,sCZ,sCS]
  refine wpAnyH_take (i:=15) (oi:=⟨some 18,_,_,_,_,_⟩) (v:=.int .i64 c.st) rfl (by kernel_rfl) (by kernel_rfl) (by kernel_rfl) (fun _ _ _ h=>h) (Or.inl ⟨by rfl,fun w' hw'=>?_⟩) (by assumption) ?_
  · have hcx:=(HX.out.later hw'.out).at.2.2.1
    clear hHeld hw'
    go_simp
  try simp only [Act.put,sIB,sCZ,sCS]
  refine wpAnyH_take (i:=16) (oi:=⟨some 19,_,_,_,_,_⟩) (v:=.pointer (some ⟨B,1,none⟩)) rfl (by kernel_rfl) (by kernel_rfl) (by kernel_rfl) (fun _ _ _ h=>h) (Or.inl ⟨by rfl,fun w' hw'=>?_⟩) (by assumption) ?_
  · clear hHeld
    go_simp
  try simp only [Act.put,sIB,sCZ,sCS]
  refine wpAnyH_take (i:=17) (oi:=⟨some 20,_,_,_,_,_⟩) (v:=.agg (pcs c.p)) rfl (by kernel_rfl) (by kernel_rfl) (by kernel_rfl) (fun _ _ _ h=>h) (Or.inl ⟨by rfl,fun w' hw'=>z2h rfl (HX.out.later (Hid.out hw'))⟩) (by assumption) ?_
  try simp only [Act.put,sIB,sCZ,sCS]
  refine wpAnyH_ready (rs:=[18]) (by kernel_rfl) (by simp) (AllReadyH.cons rfl (fun K hK=>?_) (AllReadyH.nil))
  go_simp
  go_wp2_with fail
  refine (HS.out _ hHeld.out).mono ?_
  rintro e w3 ⟨p3,c3,H3,rfl,hs3,hb3⟩
  have hSN:Hid (Below W1.heap.size W1 w3):=hid (hHeld.out.trans (hb3.mono hHeld.out.size))
  clear hb3 hs3
  go_wp2_with fail
  refine hK.out _ _ hSN (fun hHeld2=>?_)
  try simp only [Act.put,sIB,sCZ,sCS]
  clear hSN hK K hHeld
  have hHeld:=hHeld2
  clear hHeld2
  refine wpAnyH_take (i:=19) (oi:=⟨some 22,_,_,_,_,_⟩) (v:=.int .i64 (S.length:Int)) rfl (by kernel_rfl) (by kernel_rfl) (by kernel_rfl) (fun _ _ _ h=>h) (Or.inl ⟨by rfl,fun w' hw'=>?_⟩) (by assumption) ?_
  · clear hHeld
    go_simp
  try simp only [Act.put,sIB,sCZ,sCS]
  refine wpAnyH_take (i:=20) (oi:=⟨some 23,_,_,_,_,_⟩) (v:=.bool true) rfl (by kernel_rfl) (by kernel_rfl) (by kernel_rfl) (fun _ _ _ h=>h) (Or.inl ⟨by rfl,fun w' hw'=>?_⟩) (by assumption) ?_
  · clear hHeld
    go_simp
  try simp only [Act.put,sIB,sCZ,sCS]
  refine wpAnyH_take (i:=21) (oi:=⟨some 24,_,_,_,_,_⟩) (v:=.bool true) rfl (by kernel_rfl) (by kernel_rfl) (by kernel_rfl) (fun _ _ _ h=>h) (Or.inl ⟨by rfl,fun w' hw'=>?_⟩) (by assumption) ?_
  · clear hHeld
    go_simp
  try simp only [Act.put,sIB,sCZ,sCS]
  refine wpAnyH_take (i:=22) (oi:=⟨some 25,_,_,_,_,_⟩) (v:=.bool true) rfl (by kernel_rfl) (by kernel_rfl) (by kernel_rfl) (fun _ _ _ h=>h) (Or.inl ⟨by rfl,fun w' hw'=>?_⟩) (by assumption) ?_
  · clear hHeld
    go_simp
  try simp only [Act.put,sIB,sCZ,sCS]
  refine wpAnyH_take (i:=23) (oi:=⟨some 26,_,_,_,_,_⟩) (v:=.pointer (some ⟨B,13,none⟩)) rfl (by kernel_rfl) (by kernel_rfl) (by kernel_rfl) (fun _ _ _ h=>h) (Or.inl ⟨by rfl,fun w' hw'=>?_⟩) (by assumption) ?_
  · clear hHeld
    go_simp
  try simp only [Act.put,sIB,sCZ,sCS]
  refine wpAnyH_take (i:=24) (oi:=⟨some 27,_,_,_,_,_⟩) (v:=.int .i64 c.tr) rfl (by kernel_rfl) (by kernel_rfl) (by kernel_rfl) (fun _ _ _ h=>h) (Or.inl ⟨by rfl,fun w' hw'=>?_⟩) (by assumption) ?_
  · have hcx:=(HX.out.later hw'.out).at.2.2.2.1
    clear hHeld hw'
    go_simp
  try simp only [Act.put,sIB,sCZ,sCS]
  refine wpAnyH_take (i:=25) (oi:=⟨some 28,_,_,_,_,_⟩) (v:=.bool (decide (0≤c.tr))) rfl (by kernel_rfl) (by kernel_rfl) (by kernel_rfl) (fun _ _ _ h=>h) (Or.inl ⟨by rfl,fun w' hw'=>?_⟩) (by assumption) ?_
  · clear hHeld
    go_simp
  try simp only [Act.put,sIB,sCZ,sCS]
  refine wpAnyH_take (i:=26) (oi:=⟨some 29,_,_,_,_,_⟩) (v:=.bool (decide (0≤c.tr))) rfl (by kernel_rfl) (by kernel_rfl) (by kernel_rfl) (fun _ _ _ h=>h) (Or.inl ⟨by rfl,fun w' hw'=>?_⟩) (by assumption) ?_
  · clear hHeld
    go_simp
  try simp only [Act.put,sIB,sCZ,sCS]
  refine wpAnyH_take (i:=27) (oi:=⟨some 2,_,_,_,_,_⟩) (v:=.bool (decide (0≤c.tr))) rfl (by kernel_rfl) (by kernel_rfl) (by kernel_rfl) (fun _ _ _ h=>h) (Or.inl ⟨by rfl,fun w' hw'=>?_⟩) (by assumption) ?_
  · clear hHeld
    go_simp
  try simp only [Act.put,sIB,sCZ,sCS]
  have hfin:=hHeld.out
  refine wpAnyH_done (by kernel_rfl) ?_ _
  clear hHeld
  go_wp2_with fail
  go_ret
  refine⟨?_,HB1.out.trans (hfin.mono HB1.out.size)⟩
  rw [HGC.out]
  first | (simp [*];done) | (rw [decide_eq_false (show ¬ 0≤c.st by omega)];simp;done) | (rw [decide_eq_false (show ¬ c.st≤(S.length:Int) by omega)];simp;done)
end Go.Proofs.YtclbkfpbdidaiaaGreatDoor
