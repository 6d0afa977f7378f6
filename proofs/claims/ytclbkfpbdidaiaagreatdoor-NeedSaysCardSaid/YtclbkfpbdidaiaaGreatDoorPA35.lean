import Derived.Test.YtclbkfpbdidaiaaGreatDoorPA22
import Derived.Test.YtclbkfpbdidaiaaGreatDoorPA34
namespace Go.Proofs.YtclbkfpbdidaiaaGreatDoor
open Go.Lib (hid)
set_option maxHeartbeats 8000000
open Go.RowKit Go.ChangeShapes Go.WideShapes
set_option linter.unusedVariables false
set_option linter.unusedSimpArgs false
set_option maxRecDepth 10000
theorem isfew_p (k od po:Int) (lp:Option Addr) (ln lcp:Nat) (tp:Option Addr) (tn tcp:Nat) (wp:Option Addr) (wn wcp:Nat) (sk fr to q:Int) (W:World):Calls Tryz.prog 34 #[.agg #[.int .u8 k,.int .u32 od,.int .u8 po,.slice lp ln lcp,.slice tp tn tcp,.slice wp wn wcp,.int .u8 sk,.int .u8 fr,.int .u8 to,.int .i64 q]] W fun e w'=>e=.returned (.bool (decide (ln≤20∧tn≤30∧wn≤20)))∧Below W.heap.size W w':=by
 have HB:Hid (Below W.heap.size W (W.alloc (.cells #[.int .u8 k,.int .u32 od,.int .u8 po,.slice lp ln lcp,.slice tp tn tcp,.slice wp wn wcp,.int .u8 sk,.int .u8 fr,.int .u8 to,.int .i64 q] 26))):=hid ((Below.refl _ _).alloc (Nat.le_refl _) _)
 obtain⟨r,hr⟩:∃ r,decide (ln≤20∧tn≤30∧wn≤20)=r:=⟨_,rfl⟩
 have HR:=hid hr
 rw [hr]
 clear hr
 by_cases h1:ln≤20
 case neg =>
  have d1:decide ((ln:Int)≤20)=false:=decide_eq_false (by omega)
  obtain rfl:r=false:=by rw [← HR.out];exact decide_eq_false (by omega)
  go_enter Tryz.func34,Tryz.ntmps34
  go_wp2_with fail
  go_ret
  exact⟨rfl,HB.out⟩
 have d1:decide ((ln:Int)≤20)=true:=decide_eq_true (by omega)
 by_cases h2:tn≤30
 case neg =>
  have d2:decide ((tn:Int)≤30)=false:=decide_eq_false (by omega)
  obtain rfl:r=false:=by rw [← HR.out];exact decide_eq_false (by omega)
  go_enter Tryz.func34,Tryz.ntmps34
  go_wp2_with fail
  go_ret
  exact⟨rfl,HB.out⟩
 have d2:decide ((tn:Int)≤30)=true:=decide_eq_true (by omega)
 by_cases h3:wn≤20
 case neg =>
  have d3:decide ((wn:Int)≤20)=false:=decide_eq_false (by omega)
  obtain rfl:r=false:=by rw [← HR.out];exact decide_eq_false (by omega)
  go_enter Tryz.func34,Tryz.ntmps34
  go_wp2_with fail
  go_ret
  exact⟨rfl,HB.out⟩
 have d3:decide ((wn:Int)≤20)=true:=decide_eq_true (by omega)
 obtain rfl:r=true:=by rw [← HR.out];exact decide_eq_true (by omega)
 go_enter Tryz.func34,Tryz.ntmps34
 go_wp2_with fail
 go_ret
 exact⟨rfl,HB.out⟩
def fewI (ln tn wn:Nat):Int:=if ln≤20∧tn≤30∧wn≤20 then 1 else 0
theorem few_p (k od po:Int) (lp:Option Addr) (ln lcp:Nat) (tp:Option Addr) (tn tcp:Nat) (wp:Option Addr) (wn wcp:Nat) (sk fr to q:Int) (W:World):Calls Tryz.prog 7 #[.agg #[.int .u8 k,.int .u32 od,.int .u8 po,.slice lp ln lcp,.slice tp tn tcp,.slice wp wn wcp,.int .u8 sk,.int .u8 fr,.int .u8 to,.int .i64 q]] W fun e w'=>e=.returned (.int .i64 (fewI ln tn wn))∧Below W.heap.size W w':=by
 obtain⟨W1,hW1,hb1⟩:∃ W1,W.alloc (.cells #[.int .u8 k,.int .u32 od,.int .u8 po,.slice lp ln lcp,.slice tp tn tcp,.slice wp wn wcp,.int .u8 sk,.int .u8 fr,.int .u8 to,.int .i64 q] 26)=W1∧Below W.heap.size W W1:=⟨_,rfl,(Below.refl _ _).alloc (Nat.le_refl _) _⟩
 have HI:=hid (isfew_p k od po lp ln lcp tp tn tcp wp wn wcp sk fr to q W1)
 have HB1:=hid hb1
 have HW1:=hid hW1
 clear hW1 hb1
 by_cases h:ln≤20∧tn≤30∧wn≤20
 · have hi:=HI.out
   rw [decide_eq_true h] at hi
   have HF:Hid (fewI ln tn wn=1):=hid (if_pos h)
   clear h
   go_enter Tryz.func7,Tryz.ntmps7
   go_wp2_with fail
   rw [HW1.out]
   refine hi.mono ?_
   rintro e w2 ⟨rfl,h2⟩
   have HB2:=hid (HB1.out.trans (h2.mono HB1.out.size))
   clear hi h2
   go_wp2_with fail
   go_ret
   exact⟨by rw [HF.out];rfl,HB2.out⟩
 · have hi:=HI.out
   rw [decide_eq_false h] at hi
   have HF:Hid (fewI ln tn wn=0):=hid (if_neg h)
   clear h
   go_enter Tryz.func7,Tryz.ntmps7
   go_wp2_with fail
   rw [HW1.out]
   refine hi.mono ?_
   rintro e w2 ⟨rfl,h2⟩
   have HB2:=hid (HB1.out.trans (h2.mono HB1.out.size))
   clear hi h2
   go_wp2_with fail
   go_ret
   exact⟨by rw [HF.out];rfl,HB2.out⟩
def fewC (c:Cv) (t:Tv):Bool:=decide (c.p.ln≤20∧c.p.tn≤30∧c.p.wn≤20) && decide ((t.n:Int)≤20)
theorem fewC_small {c:Cv} {t:Tv} (h:fewC c t=true):(c.p.ln≤20∧c.p.tn≤30∧c.p.wn≤20)∧t.n≤20:=by
 unfold fewC at h
 simp only [Bool.and_eq_true,decide_eq_true_eq] at h
 exact⟨h.1,by omega⟩
theorem cr_two8 (W:World) (c:Cv) (t:Tv):∃ W1,(W.alloc (.cells (ccs c) 34)).alloc (.cells #[.int .u32 t.c.id,.int .u32 t.c.sg,.int .u8 t.c.st,.bool t.c.cp,.bool t.c.dd,.slice t.p t.n t.m,.int .i64 t.c.fs,.int .i64 t.c.sz] 46)=W1∧CB W1 W.heap.size c∧W1.heap[W.heap.size+1]?=some (.cells #[.int .u32 t.c.id,.int .u32 t.c.sg,.int .u8 t.c.st,.bool t.c.cp,.bool t.c.dd,.slice t.p t.n t.m,.int .i64 t.c.fs,.int .i64 t.c.sz] 46 (0,0))∧Below W.heap.size W W1:=by
 have hb0:Below W.heap.size W (W.alloc (.cells (ccs c) 34)):=(Below.refl _ _).alloc (Nat.le_refl _) _
 have hs:(W.alloc (.cells (ccs c) 34)).heap.size=W.heap.size+1:=by simp only [World.alloc,Array.size_push]
 have hb1:Below (W.alloc (.cells (ccs c) 34)).heap.size (W.alloc (.cells (ccs c) 34)) ((W.alloc (.cells (ccs c) 34)).alloc (.cells #[.int .u32 t.c.id,.int .u32 t.c.sg,.int .u8 t.c.st,.bool t.c.cp,.bool t.c.dd,.slice t.p t.n t.m,.int .i64 t.c.fs,.int .i64 t.c.sz] 46)):=(Below.refl _ _).alloc (Nat.le_refl _) _
 refine⟨_,rfl,(CB.new W c).later hb1,?_,hb0.trans (hb1.mono hb0.size)⟩
 have h:=z0c (W.alloc (.cells (ccs c) 34)) (.cells #[.int .u32 t.c.id,.int .u32 t.c.sg,.int .u8 t.c.st,.bool t.c.cp,.bool t.c.dd,.slice t.p t.n t.m,.int .i64 t.c.fs,.int .i64 t.c.sz] 46)
 rw [hs] at h
 exact h
theorem cr_isfew (c:Cv) (t:Tv) (W:World):Calls Tryz.prog 40 #[.agg (ccs c),.agg #[.int .u32 t.c.id,.int .u32 t.c.sg,.int .u8 t.c.st,.bool t.c.cp,.bool t.c.dd,.slice t.p t.n t.m,.int .i64 t.c.fs,.int .i64 t.c.sz]] W fun e w'=>e=.returned (.bool (fewC c t))∧Below W.heap.size W w':=by
 obtain⟨W1,hW1,hx,ht,hb1⟩:=cr_two8 W c t
 obtain⟨B,hB⟩:∃ B,W.heap.size=B:=⟨_,rfl⟩
 rw [hB] at hx ht
 have HX:=hid hx
 have HT:=hid ht
 have HW1:=hid hW1
 have HB1:=hid hb1
 have HRE:=hid hB
 have hf:Calls Tryz.prog 7 #[.agg (pcs c.p)] W1 fun e w'=>e=.returned (.int .i64 (fewI c.p.ln c.p.tn c.p.wn))∧Below W1.heap.size W1 w':=few_p c.p.pk c.p.od c.p.po c.p.lp c.p.ln c.p.lcp c.p.tp c.p.tn c.p.tcp c.p.wp c.p.wn c.p.wcp c.p.sk c.p.fr c.p.to c.p.q W1
 have HF:Hid (fewC c t=(decide (c.p.ln≤20∧c.p.tn≤30∧c.p.wn≤20) && decide ((t.n:Int)≤20))):=hid rfl
 generalize fewC c t=F at *
 clear hW1 hx ht hb1 hB
 by_cases q:c.p.ln≤20∧c.p.tn≤30∧c.p.wn≤20
 · rw [show fewI c.p.ln c.p.tn c.p.wn=1 from if_pos q] at hf
   have HFF:Hid (F=decide ((t.n:Int)≤20)):=hid (by rw [HF.out,decide_eq_true q,Bool.true_and])
   clear HF q
   go_enter Tryz.func40,Tryz.ntmps40
   go_upto_region 1 with (fail)
   rw [HW1.out,HRE.out]
   go_wp2_with ((with_reducible refine z1v HX.out ?_ ?_);rfl)
   refine hf.mono ?_
   rintro e w2 ⟨rfl,h2⟩
   have HB2:=hid (HB1.out.trans (h2.mono HB1.out.size))
   have a5:=(z1z (z0b HT.out h2)).2.2.2.2.2.1
   clear h2 hf
   go_wp2_with fail
   go_ret
   exact⟨by rw [HFF.out];rfl,HB2.out⟩
 · rw [show fewI c.p.ln c.p.tn c.p.wn=0 from if_neg q] at hf
   have HFF:Hid (F=false):=hid (by rw [HF.out,decide_eq_false q,Bool.false_and])
   clear HF q
   go_enter Tryz.func40,Tryz.ntmps40
   go_upto_region 1 with (fail)
   rw [HW1.out,HRE.out]
   go_wp2_with ((with_reducible refine z1v HX.out ?_ ?_);rfl)
   refine hf.mono ?_
   rintro e w2 ⟨rfl,h2⟩
   have HB2:=hid (HB1.out.trans (h2.mono HB1.out.size))
   clear h2 hf
   go_wp2_with fail
   go_ret
   exact⟨by rw [HFF.out];rfl,HB2.out⟩
theorem cr_few (c:Cv) (t:Tv) (W:World):Calls Tryz.prog 11 #[.agg (ccs c),.agg #[.int .u32 t.c.id,.int .u32 t.c.sg,.int .u8 t.c.st,.bool t.c.cp,.bool t.c.dd,.slice t.p t.n t.m,.int .i64 t.c.fs,.int .i64 t.c.sz]] W fun e w'=>e=.returned (.int .i64 (if fewC c t then 1 else 0))∧Below W.heap.size W w':=by
 obtain⟨W1,hW1,hx,ht,hb1⟩:=cr_two8 W c t
 obtain⟨B,hB⟩:∃ B,W.heap.size=B:=⟨_,rfl⟩
 rw [hB] at hx ht
 have HX:=hid hx
 have HT:=hid ht
 have HW1:=hid hW1
 have HB1:=hid hb1
 have HRE:=hid hB
 have hf:=cr_isfew c t W1
 generalize fewC c t=F at *
 obtain⟨a0,a1,a2,a3,a4,a5,a6,a7⟩:=z1z ht
 clear hW1 hx ht hb1 hB
 cases F
 all_goals
  go_enter Tryz.func11,Tryz.ntmps11
  go_upto_region 1 with (fail)
  rw [HW1.out,HRE.out]
  go_wp2_with ((with_reducible refine z0y HX.out ?_ ?_);rfl)
  refine hf.mono ?_
  rintro e w2 ⟨rfl,h2⟩
  have HB2:=hid (HB1.out.trans (h2.mono HB1.out.size))
  clear h2 hf
  go_wp2_with fail
  go_ret
  exact⟨rfl,HB2.out⟩
def GivesB (W:World) (Y:List Nat) (e:Ending) (w':World):Prop:=∃ p c,e=.returned (.tuple #[.slice p Y.length c,.int .i64 0])∧Sl w' p Y.length c Y∧Below W.heap.size W w'
theorem wo_num1 {W w:World} {B:Nat} {L:List Nat} (h:WrOk W w B 512 (0,L)) (x:Int) (h0:0≤x∧x≤255) (hl:L.length+1≤512):Calls Tryz.prog 99 #[.pointer (some ⟨B,0,none⟩),.int .u64 x,.int .i64 1] w (WrotOk W B 512 (0,L++le x.toNat 1)):=by
 refine h.step fun v hv=>?_
 have:=num_w B v L x.toNat 1 w hv (by omega) (by omega) (by omega) hl
 rw [Int.toNat_of_nonneg h0.1] at this
 exact this
theorem wo_num4 {W w:World} {B:Nat} {L:List Nat} (h:WrOk W w B 512 (0,L)) (x:Int) (h0:0≤x∧x≤4294967295) (hl:L.length+4≤512):Calls Tryz.prog 99 #[.pointer (some ⟨B,0,none⟩),.int .u64 x,.int .i64 4] w (WrotOk W B 512 (0,L++le x.toNat 4)):=by
 refine h.step fun v hv=>?_
 have:=num_w B v L x.toNat 4 w hv (by omega) (by omega) (by omega) hl
 rw [Int.toNat_of_nonneg h0.1] at this
 exact this
theorem wo_int {W w:World} {B:Nat} {L:List Nat} (h:WrOk W w B 512 (0,L)) (q:Int) (hq:In64 q) (hl:L.length+8≤512):Calls Tryz.prog 102 #[.pointer (some ⟨B,0,none⟩),.int .i64 q] w (WrotOk W B 512 (0,L++le (u64 q) 8)) :=
 h.step fun v hv=>int_w B v L q w hv hq hl
theorem bit_bitN (b:Bool):bit b=bitN b:=rfl
theorem wo_bool {W w:World} {B:Nat} {L:List Nat} (h:WrOk W w B 512 (0,L)) (b:Bool) (hl:L.length+1≤512):Calls Tryz.prog 100 #[.pointer (some ⟨B,0,none⟩),.bool b] w (WrotOk W B 512 (0,L ++ [bitN b])):=by
 refine h.step fun v hv=>?_
 have:=bool_wr B v 512 (0,L) b w hv (by omega) (by omega) (by dsimp only;omega)
 rwa [rawW_fit (by simpa using hl),bit_bitN] at this
theorem wo_raw {W w:World} {B:Nat} {L:List Nat} (h:WrOk W w B 512 (0,L)) (p:Option Addr) (m c:Nat) (M:List Nat) (hs:Sl w p m c M) (hl:L.length+m≤512):Calls Tryz.prog 101 #[.pointer (some ⟨B,0,none⟩),.slice p m c] w (WrotOk W B 512 (0,L++M)):=by
 refine h.step fun v hv=>?_
 have:=raw_any B v 512 (0,L) w hv p m c M hs (by omega) (by omega) (by dsimp only;omega)
 rwa [rawW_fit (by rw [hs.len];exact hl)] at this
theorem wo_bytes {W w:World} {B:Nat} {L:List Nat} (h:WrOk W w B 512 (0,L)) (p:Option Addr) (m c:Nat) (M:List Nat) (hs:Sl w p m c M) (hl:L.length+(m+2)≤512):Calls Tryz.prog 104 #[.pointer (some ⟨B,0,none⟩),.slice p m c] w (WrotOk W B 512 (0,L++(le M.length 2++M))):=by
 refine h.step fun v hv=>?_
 have:=bytes_wr B v 512 (0,L) p m c M w hv hs (by omega) (by omega) (by dsimp only;omega) (by omega)
 have e:bytesW 512 (0,L) M=(0,L++(le M.length 2++M)):=by
  unfold bytesW
  have:=hs.len
  rw [if_neg (by omega),rawW_fit (by rw [List.length_append,z0m];omega)]
 rwa [e] at this
theorem sl_three (x y z:Int) (hx:0≤x∧x≤255) (hy:0≤y∧y≤255) (hz:0≤z∧z≤255) (w:World):Sl (w.alloc (.cells #[.int .u8 x,.int .u8 y,.int .u8 z] 5)) (some ⟨w.heap.size,0,none⟩) 3 3 (keyB (x,y,z)) :=
 ⟨rfl,Nat.le_refl _,(fun h=>by cases h),(fun u hu=>by simp [keyB] at hu;omega),fun _=>⟨_,0,rfl,fun j hj=>by
  match j,hj with
  | 0,_=>simp [keyB];omega
  | 1,_=>simp [keyB];omega
  | 2,_=>simp [keyB];omega⟩⟩
theorem z0n {x:Int} (h:0≤x∧x≤4294967295):IntKind.u64.wrap x=x:=by simp [IntKind.wrap,IntKind.bits,IntKind.signed];omega
theorem rec_write1 (r:Rv) (L:List Ln) (T:List Tk) (M:List Ln) (W:World) (hok:Rxok (r.x L T M)) (hk:r.k=1) (hw:Words W) (hP:RvM W r L T M) (h1:r.ln≤400∧r.tn≤400∧r.wn≤400) (hg:z0p 4 4 (r.pg L T M)=true):Calls Tryz.prog 78 #[.agg (rcs r)] W (GivesB W (z0l (r.x L T M))):=by
 obtain⟨W1,hW1,hb1⟩:∃ W1,W.alloc (.cells (rcs r) 42)=W1∧Below W.heap.size W W1:=⟨_,rfl,(Below.refl _ _).alloc (Nat.le_refl _) _⟩
 obtain⟨B,hB⟩:∃ B,W.heap.size=B:=⟨_,rfl⟩
 have hrb:=RB.new W r
 rw [hW1,hB] at hrb
 have HX1:=hid hrb
 have HW1:=hid hW1
 have HB1:=hid hb1
 have HRE:=hid hB
 have c0:W1.cell? ⟨B,0,none⟩=some (.int .u8 r.k):=z0a hrb rfl
 rw [hk] at c0
 clear hW1 hb1 hB hrb
 have HOK:=hid hok
 have u1:=z0n hok.sg
 have u2:=z0n hok.tx
 have u3:IntKind.u64.wrap r.st=r.st:=z0n ⟨hok.st.1,Int.le_trans hok.st.2 (by decide)⟩
 have u4:IntKind.u64.wrap r.o=r.o:=z0n ⟨hok.o.1,Int.le_trans hok.o.2 (by decide)⟩
 change IntKind.u64.wrap r.sg=r.sg at u1
 change IntKind.u64.wrap r.tx=r.tx at u2
 have hpa:=z1i 1 W1
 unfold z1h at hpa
 rw [show ptc 1=#[.bool true,.bool false,.bool false,.bool false,.bool false,.bool true] from rfl] at hpa
 have HEN:=hid (fun W' (hb:Below W.heap.size W W')=>encode_p r.pk r.od r.po r.lp r.ln r.lcp r.tp r.tn r.tcp r.wp r.wn r.wcp r.sk r.fr r.to r.q L T M W' (hw.later hb) (hP.later hb) hok.pg h1)
 have HPF:=hid (pg_few hg)
 have HGG:=hid hg
 clear hw hP h1 hg
 clear hok
 go_enter Tryz.func78,Tryz.ntmps78
 go_upto_region 1 with (fail)
 rw [HW1.out,HRE.out]
 go_wp2_with fail
 refine hpa.mono ?_
 rintro e w2 ⟨rfl,h2⟩
 have HB2:=hid (HB1.out.trans (h2.mono HB1.out.size))
 have HX2:=hid (HX1.out.later h2)
 clear h2 hpa c0
 obtain⟨N2,hN2⟩:∃ n,w2.heap.size=n:=⟨_,rfl⟩
 obtain⟨w3,hwn,hxn,hbn⟩:∃ w3,(w2.alloc (.cells pz 117)).setRow N2 #[.bool true,.bool false,.bool false,.bool false,.bool false,.bool true]=w3∧w3.heap[N2]?=some (.cells #[.bool true,.bool false,.bool false,.bool false,.bool false,.bool true] 117 (0,0))∧Below w2.heap.size w2 w3:=⟨_,rfl,by rw [← hN2];exact setRow_heap _ _ _ _ _ _ (z0c w2 _),below_setRow ((Below.refl _ _).alloc (Nat.le_refl _) _) (by omega) _⟩
 have hx2:=z0c w2 (.cells pz 117)
 rw [hN2] at hx2
 have HPX:=hid hxn
 have HPZ:=hid hx2
 have HBN:=hid hbn
 have HWN:=hid hwn
 have HNN:=hid hN2
 have HS6:Hid ((#[.bool true,.bool false,.bool false,.bool false,.bool false,.bool true]:Array Value).size=6):=hid rfl
 have HA6:Hid ((#[.bool true,.bool false,.bool false,.bool false,.bool false,.bool true]:Array Value).all (·.oneCell')=true):=hid (by simp [Value.oneCell'])
 clear hx2 hxn hbn hwn hN2
 have HB3:=hid (HB2.out.trans (HBN.out.mono HB2.out.size))
 have HX3:=hid (HX2.out.later HBN.out)
 go_wp2_with ((try rw [HNN.out]);(with_reducible refine z0j #[.bool true,.bool false,.bool false,.bool false,.bool false,.bool true] HS6.out HA6.out HPZ.out ?_ ?_ ?_);rfl;rfl;rw [HWN.out])
 refine (new_ok w3 w3 512 (Below.refl _ _)).mono ?_
 rintro e w4 ⟨Bw,rfl,hkk⟩
 rw [show lim 512=512 from rfl] at hkk
 have HK4:=hid hkk
 clear hkk
 have gp:=z0b HPX.out HK4.out.below
 have HGX:=hid (HX3.out.later HK4.out.below)
 have p0:w4.cell? ⟨N2,0,none⟩=some (.bool true):=z0a gp rfl
 have p1:w4.cell? ⟨N2,1,none⟩=some (.bool false):=z0a gp rfl
 have p2:w4.cell? ⟨N2,2,none⟩=some (.bool false):=z0a gp rfl
 have p3:w4.cell? ⟨N2,3,none⟩=some (.bool false):=z0a gp rfl
 have p4:w4.cell? ⟨N2,4,none⟩=some (.bool false):=z0a gp rfl
 have p5:w4.cell? ⟨N2,5,none⟩=some (.bool true):=z0a gp rfl
 obtain⟨c0,c1,c2,c3,c4,c5,c6,c7,c8,c9⟩:=HGX.out.at
 rw [hk] at c0
 clear gp
 go_wp2_with fail
 refine (wo_num1 HK4.out 1 (by omega) (by simp)).mono ?_
 rintro e w5 ⟨rfl,hkk⟩
 have HK5:=hid hkk
 clear hkk HK4
 clear p0 p1 p2 p3 p4 p5 c0 c1 c2 c3 c4 c5 c6 c7 c8 c9 HGX
 have gp:=z0b HPX.out HK5.out.below
 have HGX:=hid (HX3.out.later HK5.out.below)
 have p0:w5.cell? ⟨N2,0,none⟩=some (.bool true):=z0a gp rfl
 have p1:w5.cell? ⟨N2,1,none⟩=some (.bool false):=z0a gp rfl
 have p2:w5.cell? ⟨N2,2,none⟩=some (.bool false):=z0a gp rfl
 have p3:w5.cell? ⟨N2,3,none⟩=some (.bool false):=z0a gp rfl
 have p4:w5.cell? ⟨N2,4,none⟩=some (.bool false):=z0a gp rfl
 have p5:w5.cell? ⟨N2,5,none⟩=some (.bool true):=z0a gp rfl
 obtain⟨c0,c1,c2,c3,c4,c5,c6,c7,c8,c9⟩:=HGX.out.at
 rw [hk] at c0
 clear gp
 go_wp2_with fail
 refine (wo_num4 HK5.out r.sg HOK.out.sg (by simp only [List.length_append,List.length_nil,z0m];omega)).mono ?_
 rintro e w6 ⟨rfl,hkk⟩
 have HK6:=hid hkk
 clear hkk HK5
 clear p0 p1 p2 p3 p4 p5 c0 c1 c2 c3 c4 c5 c6 c7 c8 c9 HGX
 have gp:=z0b HPX.out HK6.out.below
 have HGX:=hid (HX3.out.later HK6.out.below)
 have p0:w6.cell? ⟨N2,0,none⟩=some (.bool true):=z0a gp rfl
 have p1:w6.cell? ⟨N2,1,none⟩=some (.bool false):=z0a gp rfl
 have p2:w6.cell? ⟨N2,2,none⟩=some (.bool false):=z0a gp rfl
 have p3:w6.cell? ⟨N2,3,none⟩=some (.bool false):=z0a gp rfl
 have p4:w6.cell? ⟨N2,4,none⟩=some (.bool false):=z0a gp rfl
 have p5:w6.cell? ⟨N2,5,none⟩=some (.bool true):=z0a gp rfl
 obtain⟨c0,c1,c2,c3,c4,c5,c6,c7,c8,c9⟩:=HGX.out.at
 rw [hk] at c0
 clear gp
 go_wp2_with ((with_reducible refine wpList_load_pr HGX.out ?_ ?_);rfl)
 refine (HEN.out w6 (HB3.out.trans (HK6.out.below.mono HB3.out.size))).mono ?_
 rintro e w7 ⟨hbe,hy⟩
 have hgg:z0p 4 4 ⟨r.pk,r.od,r.po,L,T,M,r.sk,r.fr,r.to,r.q⟩=true:=HGG.out
 rw [if_pos hgg] at hy
 obtain⟨py,cy,rfl,hsy,_,_⟩:=hy
 have HSY:=hid hsy
 have HK7:=hid (HK6.out.later (Chg.of_below (S:=fun _=>False) hbe))
 have hpf:(z2f ⟨r.pk,r.od,r.po,L,T,M,r.sk,r.fr,r.to,r.q⟩).length≤400:=HPF.out
 have HBP:Hid (z2f (r.pg L T M)=z2f ⟨r.pk,r.od,r.po,L,T,M,r.sk,r.fr,r.to,r.q⟩):=hid rfl
 generalize z2f ⟨r.pk,r.od,r.po,L,T,M,r.sk,r.fr,r.to,r.q⟩=Y at *
 generalize hny:Y.length=ny at *
 clear hsy hbe hgg HK6
 clear p0 p1 p2 p3 p4 p5 c0 c1 c2 c3 c4 c5 c6 c7 c8 c9 HGX
 have gp:=z0b HPX.out HK7.out.below
 have HGX:=hid (HX3.out.later HK7.out.below)
 have p0:w7.cell? ⟨N2,0,none⟩=some (.bool true):=z0a gp rfl
 have p1:w7.cell? ⟨N2,1,none⟩=some (.bool false):=z0a gp rfl
 have p2:w7.cell? ⟨N2,2,none⟩=some (.bool false):=z0a gp rfl
 have p3:w7.cell? ⟨N2,3,none⟩=some (.bool false):=z0a gp rfl
 have p4:w7.cell? ⟨N2,4,none⟩=some (.bool false):=z0a gp rfl
 have p5:w7.cell? ⟨N2,5,none⟩=some (.bool true):=z0a gp rfl
 obtain⟨c0,c1,c2,c3,c4,c5,c6,c7,c8,c9⟩:=HGX.out.at
 rw [hk] at c0
 clear gp
 go_wp2_with fail
 have HNY:=hid hny
 clear hny
 refine (wo_bytes HK7.out py ny cy Y HSY.out (by simp only [List.length_append,List.length_nil,z0m];omega)).mono ?_
 rintro e w8 ⟨rfl,hkk⟩
 have HK8:=hid hkk
 clear hkk HK7
 clear p0 p1 p2 p3 p4 p5 c0 c1 c2 c3 c4 c5 c6 c7 c8 c9 HGX
 have gp:=z0b HPX.out HK8.out.below
 have HGX:=hid (HX3.out.later HK8.out.below)
 have p0:w8.cell? ⟨N2,0,none⟩=some (.bool true):=z0a gp rfl
 have p1:w8.cell? ⟨N2,1,none⟩=some (.bool false):=z0a gp rfl
 have p2:w8.cell? ⟨N2,2,none⟩=some (.bool false):=z0a gp rfl
 have p3:w8.cell? ⟨N2,3,none⟩=some (.bool false):=z0a gp rfl
 have p4:w8.cell? ⟨N2,4,none⟩=some (.bool false):=z0a gp rfl
 have p5:w8.cell? ⟨N2,5,none⟩=some (.bool true):=z0a gp rfl
 obtain⟨c0,c1,c2,c3,c4,c5,c6,c7,c8,c9⟩:=HGX.out.at
 rw [hk] at c0
 clear gp
 go_wp2_with fail
 have hbx:(((([]:List Nat)++le ((1:Int)).toNat 1)++le r.sg.toNat 4)++(le Y.length 2++Y))=z0l (r.x L T M):=by
  unfold z0l
  rw [show ((r.x L T M)).k=1 from hk]
  simp [kS,kT,kB,kA,kO,kP,Rv.x,List.append_assoc,HBP.out]
 have hlx:(z0l (r.x L T M)).length≤100000:=by rw [← hbx];simp only [List.length_append,List.length_nil,z0m];have:=HNY.out;omega
 have HKz:Hid (WrOk w3 w8 Bw 512 (0,z0l (r.x L T M))):=hid (by rw [← hbx];exact HK8.out)
 clear hbx HK8
 generalize z0l (r.x L T M)=Z at *
 refine (done_good w3 w8 Bw 512 Z HKz.out hlx).mono ?_
 rintro e w9 ⟨pz',cz,rfl,hbz,hsz,_⟩
 have HF:Hid (GivesB W Z (.returned (.tuple #[.slice pz' Z.length cz,.int .i64 0])) w9):=hid ⟨pz',cz,rfl,hsz,HB3.out.trans (hbz.mono HB3.out.size)⟩
 clear hbz hsz hlx
 generalize Z.length=nz at *
 clear p0 p1 p2 p3 p4 p5 c0 c1 c2 c3 c4 c5 c6 c7 c8 c9 HGX
 go_wp2_with fail
 go_ret2
 exact HF.out
theorem rec_write2 (r:Rv) (L:List Ln) (T:List Tk) (M:List Ln) (W:World) (hok:Rxok (r.x L T M)) (hk:r.k=2):Calls Tryz.prog 78 #[.agg (rcs r)] W (GivesB W (z0l (r.x L T M))):=by
 obtain⟨W1,hW1,hb1⟩:∃ W1,W.alloc (.cells (rcs r) 42)=W1∧Below W.heap.size W W1:=⟨_,rfl,(Below.refl _ _).alloc (Nat.le_refl _) _⟩
 obtain⟨B,hB⟩:∃ B,W.heap.size=B:=⟨_,rfl⟩
 have hrb:=RB.new W r
 rw [hW1,hB] at hrb
 have HX1:=hid hrb
 have HW1:=hid hW1
 have HB1:=hid hb1
 have HRE:=hid hB
 have c0:W1.cell? ⟨B,0,none⟩=some (.int .u8 r.k):=z0a hrb rfl
 rw [hk] at c0
 clear hW1 hb1 hB hrb
 have HOK:=hid hok
 have u1:=z0n hok.sg
 have u2:=z0n hok.tx
 have u3:IntKind.u64.wrap r.st=r.st:=z0n ⟨hok.st.1,Int.le_trans hok.st.2 (by decide)⟩
 have u4:IntKind.u64.wrap r.o=r.o:=z0n ⟨hok.o.1,Int.le_trans hok.o.2 (by decide)⟩
 change IntKind.u64.wrap r.sg=r.sg at u1
 change IntKind.u64.wrap r.tx=r.tx at u2
 have hpa:=z1i 2 W1
 unfold z1h at hpa
 rw [show ptc 2=#[.bool true,.bool true,.bool true,.bool false,.bool false,.bool false] from rfl] at hpa
 clear hok
 go_enter Tryz.func78,Tryz.ntmps78
 go_upto_region 1 with (fail)
 rw [HW1.out,HRE.out]
 go_wp2_with fail
 refine hpa.mono ?_
 rintro e w2 ⟨rfl,h2⟩
 have HB2:=hid (HB1.out.trans (h2.mono HB1.out.size))
 have HX2:=hid (HX1.out.later h2)
 clear h2 hpa c0
 obtain⟨N2,hN2⟩:∃ n,w2.heap.size=n:=⟨_,rfl⟩
 obtain⟨w3,hwn,hxn,hbn⟩:∃ w3,(w2.alloc (.cells pz 117)).setRow N2 #[.bool true,.bool true,.bool true,.bool false,.bool false,.bool false]=w3∧w3.heap[N2]?=some (.cells #[.bool true,.bool true,.bool true,.bool false,.bool false,.bool false] 117 (0,0))∧Below w2.heap.size w2 w3:=⟨_,rfl,by rw [← hN2];exact setRow_heap _ _ _ _ _ _ (z0c w2 _),below_setRow ((Below.refl _ _).alloc (Nat.le_refl _) _) (by omega) _⟩
 have hx2:=z0c w2 (.cells pz 117)
 rw [hN2] at hx2
 have HPX:=hid hxn
 have HPZ:=hid hx2
 have HBN:=hid hbn
 have HWN:=hid hwn
 have HNN:=hid hN2
 have HS6:Hid ((#[.bool true,.bool true,.bool true,.bool false,.bool false,.bool false]:Array Value).size=6):=hid rfl
 have HA6:Hid ((#[.bool true,.bool true,.bool true,.bool false,.bool false,.bool false]:Array Value).all (·.oneCell')=true):=hid (by simp [Value.oneCell'])
 clear hx2 hxn hbn hwn hN2
 have HB3:=hid (HB2.out.trans (HBN.out.mono HB2.out.size))
 have HX3:=hid (HX2.out.later HBN.out)
 go_wp2_with ((try rw [HNN.out]);(with_reducible refine z0j #[.bool true,.bool true,.bool true,.bool false,.bool false,.bool false] HS6.out HA6.out HPZ.out ?_ ?_ ?_);rfl;rfl;rw [HWN.out])
 refine (new_ok w3 w3 512 (Below.refl _ _)).mono ?_
 rintro e w4 ⟨Bw,rfl,hkk⟩
 rw [show lim 512=512 from rfl] at hkk
 have HK4:=hid hkk
 clear hkk
 have gp:=z0b HPX.out HK4.out.below
 have HGX:=hid (HX3.out.later HK4.out.below)
 have p0:w4.cell? ⟨N2,0,none⟩=some (.bool true):=z0a gp rfl
 have p1:w4.cell? ⟨N2,1,none⟩=some (.bool true):=z0a gp rfl
 have p2:w4.cell? ⟨N2,2,none⟩=some (.bool true):=z0a gp rfl
 have p3:w4.cell? ⟨N2,3,none⟩=some (.bool false):=z0a gp rfl
 have p4:w4.cell? ⟨N2,4,none⟩=some (.bool false):=z0a gp rfl
 have p5:w4.cell? ⟨N2,5,none⟩=some (.bool false):=z0a gp rfl
 obtain⟨c0,c1,c2,c3,c4,c5,c6,c7,c8,c9⟩:=HGX.out.at
 rw [hk] at c0
 clear gp
 go_wp2_with fail
 refine (wo_num1 HK4.out 2 (by omega) (by simp)).mono ?_
 rintro e w5 ⟨rfl,hkk⟩
 have HK5:=hid hkk
 clear hkk HK4
 clear p0 p1 p2 p3 p4 p5 c0 c1 c2 c3 c4 c5 c6 c7 c8 c9 HGX
 have gp:=z0b HPX.out HK5.out.below
 have HGX:=hid (HX3.out.later HK5.out.below)
 have p0:w5.cell? ⟨N2,0,none⟩=some (.bool true):=z0a gp rfl
 have p1:w5.cell? ⟨N2,1,none⟩=some (.bool true):=z0a gp rfl
 have p2:w5.cell? ⟨N2,2,none⟩=some (.bool true):=z0a gp rfl
 have p3:w5.cell? ⟨N2,3,none⟩=some (.bool false):=z0a gp rfl
 have p4:w5.cell? ⟨N2,4,none⟩=some (.bool false):=z0a gp rfl
 have p5:w5.cell? ⟨N2,5,none⟩=some (.bool false):=z0a gp rfl
 obtain⟨c0,c1,c2,c3,c4,c5,c6,c7,c8,c9⟩:=HGX.out.at
 rw [hk] at c0
 clear gp
 go_wp2_with fail
 refine (wo_num4 HK5.out r.sg HOK.out.sg (by simp only [List.length_append,List.length_nil,z0m];omega)).mono ?_
 rintro e w6 ⟨rfl,hkk⟩
 have HK6:=hid hkk
 clear hkk HK5
 clear p0 p1 p2 p3 p4 p5 c0 c1 c2 c3 c4 c5 c6 c7 c8 c9 HGX
 have gp:=z0b HPX.out HK6.out.below
 have HGX:=hid (HX3.out.later HK6.out.below)
 have p0:w6.cell? ⟨N2,0,none⟩=some (.bool true):=z0a gp rfl
 have p1:w6.cell? ⟨N2,1,none⟩=some (.bool true):=z0a gp rfl
 have p2:w6.cell? ⟨N2,2,none⟩=some (.bool true):=z0a gp rfl
 have p3:w6.cell? ⟨N2,3,none⟩=some (.bool false):=z0a gp rfl
 have p4:w6.cell? ⟨N2,4,none⟩=some (.bool false):=z0a gp rfl
 have p5:w6.cell? ⟨N2,5,none⟩=some (.bool false):=z0a gp rfl
 obtain⟨c0,c1,c2,c3,c4,c5,c6,c7,c8,c9⟩:=HGX.out.at
 rw [hk] at c0
 clear gp
 go_wp2_with fail
 refine (wo_num4 HK6.out r.tx HOK.out.tx (by simp only [List.length_append,List.length_nil,z0m];omega)).mono ?_
 rintro e w7 ⟨rfl,hkk⟩
 have HK7:=hid hkk
 clear hkk HK6
 clear p0 p1 p2 p3 p4 p5 c0 c1 c2 c3 c4 c5 c6 c7 c8 c9 HGX
 have gp:=z0b HPX.out HK7.out.below
 have HGX:=hid (HX3.out.later HK7.out.below)
 have p0:w7.cell? ⟨N2,0,none⟩=some (.bool true):=z0a gp rfl
 have p1:w7.cell? ⟨N2,1,none⟩=some (.bool true):=z0a gp rfl
 have p2:w7.cell? ⟨N2,2,none⟩=some (.bool true):=z0a gp rfl
 have p3:w7.cell? ⟨N2,3,none⟩=some (.bool false):=z0a gp rfl
 have p4:w7.cell? ⟨N2,4,none⟩=some (.bool false):=z0a gp rfl
 have p5:w7.cell? ⟨N2,5,none⟩=some (.bool false):=z0a gp rfl
 obtain⟨c0,c1,c2,c3,c4,c5,c6,c7,c8,c9⟩:=HGX.out.at
 rw [hk] at c0
 clear gp
 go_wp2_with fail
 refine (wo_num1 HK7.out r.st HOK.out.st (by simp only [List.length_append,List.length_nil,z0m];omega)).mono ?_
 rintro e w8 ⟨rfl,hkk⟩
 have HK8:=hid hkk
 clear hkk HK7
 clear p0 p1 p2 p3 p4 p5 c0 c1 c2 c3 c4 c5 c6 c7 c8 c9 HGX
 have gp:=z0b HPX.out HK8.out.below
 have HGX:=hid (HX3.out.later HK8.out.below)
 have p0:w8.cell? ⟨N2,0,none⟩=some (.bool true):=z0a gp rfl
 have p1:w8.cell? ⟨N2,1,none⟩=some (.bool true):=z0a gp rfl
 have p2:w8.cell? ⟨N2,2,none⟩=some (.bool true):=z0a gp rfl
 have p3:w8.cell? ⟨N2,3,none⟩=some (.bool false):=z0a gp rfl
 have p4:w8.cell? ⟨N2,4,none⟩=some (.bool false):=z0a gp rfl
 have p5:w8.cell? ⟨N2,5,none⟩=some (.bool false):=z0a gp rfl
 obtain⟨c0,c1,c2,c3,c4,c5,c6,c7,c8,c9⟩:=HGX.out.at
 rw [hk] at c0
 clear gp
 go_wp2_with fail
 refine (wo_bool HK8.out r.cp (by simp only [List.length_append,List.length_nil,z0m];omega)).mono ?_
 rintro e w9 ⟨rfl,hkk⟩
 have HK9:=hid hkk
 clear hkk HK8
 clear p0 p1 p2 p3 p4 p5 c0 c1 c2 c3 c4 c5 c6 c7 c8 c9 HGX
 have gp:=z0b HPX.out HK9.out.below
 have HGX:=hid (HX3.out.later HK9.out.below)
 have p0:w9.cell? ⟨N2,0,none⟩=some (.bool true):=z0a gp rfl
 have p1:w9.cell? ⟨N2,1,none⟩=some (.bool true):=z0a gp rfl
 have p2:w9.cell? ⟨N2,2,none⟩=some (.bool true):=z0a gp rfl
 have p3:w9.cell? ⟨N2,3,none⟩=some (.bool false):=z0a gp rfl
 have p4:w9.cell? ⟨N2,4,none⟩=some (.bool false):=z0a gp rfl
 have p5:w9.cell? ⟨N2,5,none⟩=some (.bool false):=z0a gp rfl
 obtain⟨c0,c1,c2,c3,c4,c5,c6,c7,c8,c9⟩:=HGX.out.at
 rw [hk] at c0
 clear gp
 go_wp2_with fail
 have hbx:(((((([]:List Nat)++le ((2:Int)).toNat 1)++le r.sg.toNat 4)++le r.tx.toNat 4)++le r.st.toNat 1) ++ [bitN r.cp])=z0l (r.x L T M):=by
  unfold z0l
  rw [show ((r.x L T M)).k=2 from hk]
  simp [kS,kT,kB,kA,kO,kP,Rv.x,List.append_assoc]
 have hlx:(z0l (r.x L T M)).length≤100000:=by rw [← hbx];simp only [List.length_append,List.length_nil,List.length_cons,z0m,keyB];omega
 have HKz:Hid (WrOk w3 w9 Bw 512 (0,z0l (r.x L T M))):=hid (by rw [← hbx];exact HK9.out)
 clear hbx HK9
 generalize z0l (r.x L T M)=Z at *
 refine (done_good w3 w9 Bw 512 Z HKz.out hlx).mono ?_
 rintro e w10 ⟨pz',cz,rfl,hbz,hsz,_⟩
 have HF:Hid (GivesB W Z (.returned (.tuple #[.slice pz' Z.length cz,.int .i64 0])) w10):=hid ⟨pz',cz,rfl,hsz,HB3.out.trans (hbz.mono HB3.out.size)⟩
 clear hbz hsz hlx
 generalize Z.length=nz at *
 clear p0 p1 p2 p3 p4 p5 c0 c1 c2 c3 c4 c5 c6 c7 c8 c9 HGX
 go_wp2_with fail
 go_ret2
 exact HF.out
theorem rec_write3 (r:Rv) (L:List Ln) (T:List Tk) (M:List Ln) (W:World) (hok:Rxok (r.x L T M)) (hk:r.k=3):Calls Tryz.prog 78 #[.agg (rcs r)] W (GivesB W (z0l (r.x L T M))):=by
 obtain⟨W1,hW1,hb1⟩:∃ W1,W.alloc (.cells (rcs r) 42)=W1∧Below W.heap.size W W1:=⟨_,rfl,(Below.refl _ _).alloc (Nat.le_refl _) _⟩
 obtain⟨B,hB⟩:∃ B,W.heap.size=B:=⟨_,rfl⟩
 have hrb:=RB.new W r
 rw [hW1,hB] at hrb
 have HX1:=hid hrb
 have HW1:=hid hW1
 have HB1:=hid hb1
 have HRE:=hid hB
 have c0:W1.cell? ⟨B,0,none⟩=some (.int .u8 r.k):=z0a hrb rfl
 rw [hk] at c0
 clear hW1 hb1 hB hrb
 have HOK:=hid hok
 have u1:=z0n hok.sg
 have u2:=z0n hok.tx
 have u3:IntKind.u64.wrap r.st=r.st:=z0n ⟨hok.st.1,Int.le_trans hok.st.2 (by decide)⟩
 have u4:IntKind.u64.wrap r.o=r.o:=z0n ⟨hok.o.1,Int.le_trans hok.o.2 (by decide)⟩
 change IntKind.u64.wrap r.sg=r.sg at u1
 change IntKind.u64.wrap r.tx=r.tx at u2
 have hpa:=z1i 3 W1
 unfold z1h at hpa
 rw [show ptc 3=#[.bool false,.bool true,.bool false,.bool true,.bool false,.bool false] from rfl] at hpa
 clear hok
 go_enter Tryz.func78,Tryz.ntmps78
 go_upto_region 1 with (fail)
 rw [HW1.out,HRE.out]
 go_wp2_with fail
 refine hpa.mono ?_
 rintro e w2 ⟨rfl,h2⟩
 have HB2:=hid (HB1.out.trans (h2.mono HB1.out.size))
 have HX2:=hid (HX1.out.later h2)
 clear h2 hpa c0
 obtain⟨N2,hN2⟩:∃ n,w2.heap.size=n:=⟨_,rfl⟩
 obtain⟨w3,hwn,hxn,hbn⟩:∃ w3,(w2.alloc (.cells pz 117)).setRow N2 #[.bool false,.bool true,.bool false,.bool true,.bool false,.bool false]=w3∧w3.heap[N2]?=some (.cells #[.bool false,.bool true,.bool false,.bool true,.bool false,.bool false] 117 (0,0))∧Below w2.heap.size w2 w3:=⟨_,rfl,by rw [← hN2];exact setRow_heap _ _ _ _ _ _ (z0c w2 _),below_setRow ((Below.refl _ _).alloc (Nat.le_refl _) _) (by omega) _⟩
 have hx2:=z0c w2 (.cells pz 117)
 rw [hN2] at hx2
 have HPX:=hid hxn
 have HPZ:=hid hx2
 have HBN:=hid hbn
 have HWN:=hid hwn
 have HNN:=hid hN2
 have HS6:Hid ((#[.bool false,.bool true,.bool false,.bool true,.bool false,.bool false]:Array Value).size=6):=hid rfl
 have HA6:Hid ((#[.bool false,.bool true,.bool false,.bool true,.bool false,.bool false]:Array Value).all (·.oneCell')=true):=hid (by simp [Value.oneCell'])
 clear hx2 hxn hbn hwn hN2
 have HB3:=hid (HB2.out.trans (HBN.out.mono HB2.out.size))
 have HX3:=hid (HX2.out.later HBN.out)
 go_wp2_with ((try rw [HNN.out]);(with_reducible refine z0j #[.bool false,.bool true,.bool false,.bool true,.bool false,.bool false] HS6.out HA6.out HPZ.out ?_ ?_ ?_);rfl;rfl;rw [HWN.out])
 refine (new_ok w3 w3 512 (Below.refl _ _)).mono ?_
 rintro e w4 ⟨Bw,rfl,hkk⟩
 rw [show lim 512=512 from rfl] at hkk
 have HK4:=hid hkk
 clear hkk
 have gp:=z0b HPX.out HK4.out.below
 have HGX:=hid (HX3.out.later HK4.out.below)
 have p0:w4.cell? ⟨N2,0,none⟩=some (.bool false):=z0a gp rfl
 have p1:w4.cell? ⟨N2,1,none⟩=some (.bool true):=z0a gp rfl
 have p2:w4.cell? ⟨N2,2,none⟩=some (.bool false):=z0a gp rfl
 have p3:w4.cell? ⟨N2,3,none⟩=some (.bool true):=z0a gp rfl
 have p4:w4.cell? ⟨N2,4,none⟩=some (.bool false):=z0a gp rfl
 have p5:w4.cell? ⟨N2,5,none⟩=some (.bool false):=z0a gp rfl
 obtain⟨c0,c1,c2,c3,c4,c5,c6,c7,c8,c9⟩:=HGX.out.at
 rw [hk] at c0
 clear gp
 go_wp2_with fail
 refine (wo_num1 HK4.out 3 (by omega) (by simp)).mono ?_
 rintro e w5 ⟨rfl,hkk⟩
 have HK5:=hid hkk
 clear hkk HK4
 clear p0 p1 p2 p3 p4 p5 c0 c1 c2 c3 c4 c5 c6 c7 c8 c9 HGX
 have gp:=z0b HPX.out HK5.out.below
 have HGX:=hid (HX3.out.later HK5.out.below)
 have p0:w5.cell? ⟨N2,0,none⟩=some (.bool false):=z0a gp rfl
 have p1:w5.cell? ⟨N2,1,none⟩=some (.bool true):=z0a gp rfl
 have p2:w5.cell? ⟨N2,2,none⟩=some (.bool false):=z0a gp rfl
 have p3:w5.cell? ⟨N2,3,none⟩=some (.bool true):=z0a gp rfl
 have p4:w5.cell? ⟨N2,4,none⟩=some (.bool false):=z0a gp rfl
 have p5:w5.cell? ⟨N2,5,none⟩=some (.bool false):=z0a gp rfl
 obtain⟨c0,c1,c2,c3,c4,c5,c6,c7,c8,c9⟩:=HGX.out.at
 rw [hk] at c0
 clear gp
 go_wp2_with fail
 refine (wo_num4 HK5.out r.tx HOK.out.tx (by simp only [List.length_append,List.length_nil,z0m];omega)).mono ?_
 rintro e w6 ⟨rfl,hkk⟩
 have HK6:=hid hkk
 clear hkk HK5
 clear p0 p1 p2 p3 p4 p5 c0 c1 c2 c3 c4 c5 c6 c7 c8 c9 HGX
 have gp:=z0b HPX.out HK6.out.below
 have HGX:=hid (HX3.out.later HK6.out.below)
 have p0:w6.cell? ⟨N2,0,none⟩=some (.bool false):=z0a gp rfl
 have p1:w6.cell? ⟨N2,1,none⟩=some (.bool true):=z0a gp rfl
 have p2:w6.cell? ⟨N2,2,none⟩=some (.bool false):=z0a gp rfl
 have p3:w6.cell? ⟨N2,3,none⟩=some (.bool true):=z0a gp rfl
 have p4:w6.cell? ⟨N2,4,none⟩=some (.bool false):=z0a gp rfl
 have p5:w6.cell? ⟨N2,5,none⟩=some (.bool false):=z0a gp rfl
 obtain⟨c0,c1,c2,c3,c4,c5,c6,c7,c8,c9⟩:=HGX.out.at
 rw [hk] at c0
 clear gp
 go_wp2_with fail
 have HKb:=hid (HK6.out.later (Chg.of_below (S:=fun _=>False) ((Below.refl w6.heap.size w6).alloc (Nat.le_refl _) (.cells #[.int .u8 r.ka,.int .u8 r.kb,.int .u8 r.kc] 5))))
 refine (wo_raw HKb.out (some ⟨w6.heap.size,0,none⟩) 3 3 (keyB (r.ka,r.kb,r.kc)) (sl_three r.ka r.kb r.kc HOK.out.key.1 HOK.out.key.2.1 HOK.out.key.2.2 w6) (by simp only [List.length_append,List.length_nil,z0m];omega)).mono ?_
 rintro e w7 ⟨rfl,hkk⟩
 have HK7:=hid hkk
 clear hkk HK6 HKb
 clear p0 p1 p2 p3 p4 p5 c0 c1 c2 c3 c4 c5 c6 c7 c8 c9 HGX
 have gp:=z0b HPX.out HK7.out.below
 have HGX:=hid (HX3.out.later HK7.out.below)
 have p0:w7.cell? ⟨N2,0,none⟩=some (.bool false):=z0a gp rfl
 have p1:w7.cell? ⟨N2,1,none⟩=some (.bool true):=z0a gp rfl
 have p2:w7.cell? ⟨N2,2,none⟩=some (.bool false):=z0a gp rfl
 have p3:w7.cell? ⟨N2,3,none⟩=some (.bool true):=z0a gp rfl
 have p4:w7.cell? ⟨N2,4,none⟩=some (.bool false):=z0a gp rfl
 have p5:w7.cell? ⟨N2,5,none⟩=some (.bool false):=z0a gp rfl
 obtain⟨c0,c1,c2,c3,c4,c5,c6,c7,c8,c9⟩:=HGX.out.at
 rw [hk] at c0
 clear gp
 go_wp2_with fail
 refine (wo_int HK7.out r.d HOK.out.d (by simp only [List.length_append,List.length_nil,z0m,keyB,List.length_cons];omega)).mono ?_
 rintro e w8 ⟨rfl,hkk⟩
 have HK8:=hid hkk
 clear hkk HK7
 clear p0 p1 p2 p3 p4 p5 c0 c1 c2 c3 c4 c5 c6 c7 c8 c9 HGX
 have gp:=z0b HPX.out HK8.out.below
 have HGX:=hid (HX3.out.later HK8.out.below)
 have p0:w8.cell? ⟨N2,0,none⟩=some (.bool false):=z0a gp rfl
 have p1:w8.cell? ⟨N2,1,none⟩=some (.bool true):=z0a gp rfl
 have p2:w8.cell? ⟨N2,2,none⟩=some (.bool false):=z0a gp rfl
 have p3:w8.cell? ⟨N2,3,none⟩=some (.bool true):=z0a gp rfl
 have p4:w8.cell? ⟨N2,4,none⟩=some (.bool false):=z0a gp rfl
 have p5:w8.cell? ⟨N2,5,none⟩=some (.bool false):=z0a gp rfl
 obtain⟨c0,c1,c2,c3,c4,c5,c6,c7,c8,c9⟩:=HGX.out.at
 rw [hk] at c0
 clear gp
 go_wp2_with fail
 have hbx:((((([]:List Nat)++le ((3:Int)).toNat 1)++le r.tx.toNat 4)++keyB (r.ka,r.kb,r.kc))++le (u64 r.d) 8)=z0l (r.x L T M):=by
  unfold z0l
  rw [show ((r.x L T M)).k=3 from hk]
  simp [kS,kT,kB,kA,kO,kP,Rv.x,List.append_assoc]
 have hlx:(z0l (r.x L T M)).length≤100000:=by rw [← hbx];simp only [List.length_append,List.length_nil,List.length_cons,z0m,keyB];omega
 have HKz:Hid (WrOk w3 w8 Bw 512 (0,z0l (r.x L T M))):=hid (by rw [← hbx];exact HK8.out)
 clear hbx HK8
 generalize z0l (r.x L T M)=Z at *
 refine (done_good w3 w8 Bw 512 Z HKz.out hlx).mono ?_
 rintro e w9 ⟨pz',cz,rfl,hbz,hsz,_⟩
 have HF:Hid (GivesB W Z (.returned (.tuple #[.slice pz' Z.length cz,.int .i64 0])) w9):=hid ⟨pz',cz,rfl,hsz,HB3.out.trans (hbz.mono HB3.out.size)⟩
 clear hbz hsz hlx
 generalize Z.length=nz at *
 clear p0 p1 p2 p3 p4 p5 c0 c1 c2 c3 c4 c5 c6 c7 c8 c9 HGX
 go_wp2_with fail
 go_ret2
 exact HF.out
theorem rec_write4 (r:Rv) (L:List Ln) (T:List Tk) (M:List Ln) (W:World) (hok:Rxok (r.x L T M)) (hk:r.k=4):Calls Tryz.prog 78 #[.agg (rcs r)] W (GivesB W (z0l (r.x L T M))):=by
 obtain⟨W1,hW1,hb1⟩:∃ W1,W.alloc (.cells (rcs r) 42)=W1∧Below W.heap.size W W1:=⟨_,rfl,(Below.refl _ _).alloc (Nat.le_refl _) _⟩
 obtain⟨B,hB⟩:∃ B,W.heap.size=B:=⟨_,rfl⟩
 have hrb:=RB.new W r
 rw [hW1,hB] at hrb
 have HX1:=hid hrb
 have HW1:=hid hW1
 have HB1:=hid hb1
 have HRE:=hid hB
 have c0:W1.cell? ⟨B,0,none⟩=some (.int .u8 r.k):=z0a hrb rfl
 rw [hk] at c0
 clear hW1 hb1 hB hrb
 have HOK:=hid hok
 have u1:=z0n hok.sg
 have u2:=z0n hok.tx
 have u3:IntKind.u64.wrap r.st=r.st:=z0n ⟨hok.st.1,Int.le_trans hok.st.2 (by decide)⟩
 have u4:IntKind.u64.wrap r.o=r.o:=z0n ⟨hok.o.1,Int.le_trans hok.o.2 (by decide)⟩
 change IntKind.u64.wrap r.sg=r.sg at u1
 change IntKind.u64.wrap r.tx=r.tx at u2
 have hpa:=z1i 4 W1
 unfold z1h at hpa
 rw [show ptc 4=#[.bool false,.bool true,.bool false,.bool false,.bool false,.bool false] from rfl] at hpa
 clear hok
 go_enter Tryz.func78,Tryz.ntmps78
 go_upto_region 1 with (fail)
 rw [HW1.out,HRE.out]
 go_wp2_with fail
 refine hpa.mono ?_
 rintro e w2 ⟨rfl,h2⟩
 have HB2:=hid (HB1.out.trans (h2.mono HB1.out.size))
 have HX2:=hid (HX1.out.later h2)
 clear h2 hpa c0
 obtain⟨N2,hN2⟩:∃ n,w2.heap.size=n:=⟨_,rfl⟩
 obtain⟨w3,hwn,hxn,hbn⟩:∃ w3,(w2.alloc (.cells pz 117)).setRow N2 #[.bool false,.bool true,.bool false,.bool false,.bool false,.bool false]=w3∧w3.heap[N2]?=some (.cells #[.bool false,.bool true,.bool false,.bool false,.bool false,.bool false] 117 (0,0))∧Below w2.heap.size w2 w3:=⟨_,rfl,by rw [← hN2];exact setRow_heap _ _ _ _ _ _ (z0c w2 _),below_setRow ((Below.refl _ _).alloc (Nat.le_refl _) _) (by omega) _⟩
 have hx2:=z0c w2 (.cells pz 117)
 rw [hN2] at hx2
 have HPX:=hid hxn
 have HPZ:=hid hx2
 have HBN:=hid hbn
 have HWN:=hid hwn
 have HNN:=hid hN2
 have HS6:Hid ((#[.bool false,.bool true,.bool false,.bool false,.bool false,.bool false]:Array Value).size=6):=hid rfl
 have HA6:Hid ((#[.bool false,.bool true,.bool false,.bool false,.bool false,.bool false]:Array Value).all (·.oneCell')=true):=hid (by simp [Value.oneCell'])
 clear hx2 hxn hbn hwn hN2
 have HB3:=hid (HB2.out.trans (HBN.out.mono HB2.out.size))
 have HX3:=hid (HX2.out.later HBN.out)
 go_wp2_with ((try rw [HNN.out]);(with_reducible refine z0j #[.bool false,.bool true,.bool false,.bool false,.bool false,.bool false] HS6.out HA6.out HPZ.out ?_ ?_ ?_);rfl;rfl;rw [HWN.out])
 refine (new_ok w3 w3 512 (Below.refl _ _)).mono ?_
 rintro e w4 ⟨Bw,rfl,hkk⟩
 rw [show lim 512=512 from rfl] at hkk
 have HK4:=hid hkk
 clear hkk
 have gp:=z0b HPX.out HK4.out.below
 have HGX:=hid (HX3.out.later HK4.out.below)
 have p0:w4.cell? ⟨N2,0,none⟩=some (.bool false):=z0a gp rfl
 have p1:w4.cell? ⟨N2,1,none⟩=some (.bool true):=z0a gp rfl
 have p2:w4.cell? ⟨N2,2,none⟩=some (.bool false):=z0a gp rfl
 have p3:w4.cell? ⟨N2,3,none⟩=some (.bool false):=z0a gp rfl
 have p4:w4.cell? ⟨N2,4,none⟩=some (.bool false):=z0a gp rfl
 have p5:w4.cell? ⟨N2,5,none⟩=some (.bool false):=z0a gp rfl
 obtain⟨c0,c1,c2,c3,c4,c5,c6,c7,c8,c9⟩:=HGX.out.at
 rw [hk] at c0
 clear gp
 go_wp2_with fail
 refine (wo_num1 HK4.out 4 (by omega) (by simp)).mono ?_
 rintro e w5 ⟨rfl,hkk⟩
 have HK5:=hid hkk
 clear hkk HK4
 clear p0 p1 p2 p3 p4 p5 c0 c1 c2 c3 c4 c5 c6 c7 c8 c9 HGX
 have gp:=z0b HPX.out HK5.out.below
 have HGX:=hid (HX3.out.later HK5.out.below)
 have p0:w5.cell? ⟨N2,0,none⟩=some (.bool false):=z0a gp rfl
 have p1:w5.cell? ⟨N2,1,none⟩=some (.bool true):=z0a gp rfl
 have p2:w5.cell? ⟨N2,2,none⟩=some (.bool false):=z0a gp rfl
 have p3:w5.cell? ⟨N2,3,none⟩=some (.bool false):=z0a gp rfl
 have p4:w5.cell? ⟨N2,4,none⟩=some (.bool false):=z0a gp rfl
 have p5:w5.cell? ⟨N2,5,none⟩=some (.bool false):=z0a gp rfl
 obtain⟨c0,c1,c2,c3,c4,c5,c6,c7,c8,c9⟩:=HGX.out.at
 rw [hk] at c0
 clear gp
 go_wp2_with fail
 refine (wo_num4 HK5.out r.tx HOK.out.tx (by simp only [List.length_append,List.length_nil,z0m];omega)).mono ?_
 rintro e w6 ⟨rfl,hkk⟩
 have HK6:=hid hkk
 clear hkk HK5
 clear p0 p1 p2 p3 p4 p5 c0 c1 c2 c3 c4 c5 c6 c7 c8 c9 HGX
 have gp:=z0b HPX.out HK6.out.below
 have HGX:=hid (HX3.out.later HK6.out.below)
 have p0:w6.cell? ⟨N2,0,none⟩=some (.bool false):=z0a gp rfl
 have p1:w6.cell? ⟨N2,1,none⟩=some (.bool true):=z0a gp rfl
 have p2:w6.cell? ⟨N2,2,none⟩=some (.bool false):=z0a gp rfl
 have p3:w6.cell? ⟨N2,3,none⟩=some (.bool false):=z0a gp rfl
 have p4:w6.cell? ⟨N2,4,none⟩=some (.bool false):=z0a gp rfl
 have p5:w6.cell? ⟨N2,5,none⟩=some (.bool false):=z0a gp rfl
 obtain⟨c0,c1,c2,c3,c4,c5,c6,c7,c8,c9⟩:=HGX.out.at
 rw [hk] at c0
 clear gp
 go_wp2_with fail
 have hbx:((([]:List Nat)++le ((4:Int)).toNat 1)++le r.tx.toNat 4)=z0l (r.x L T M):=by
  unfold z0l
  rw [show ((r.x L T M)).k=4 from hk]
  simp [kS,kT,kB,kA,kO,kP,Rv.x,List.append_assoc]
 have hlx:(z0l (r.x L T M)).length≤100000:=by rw [← hbx];simp only [List.length_append,List.length_nil,List.length_cons,z0m,keyB];omega
 have HKz:Hid (WrOk w3 w6 Bw 512 (0,z0l (r.x L T M))):=hid (by rw [← hbx];exact HK6.out)
 clear hbx HK6
 generalize z0l (r.x L T M)=Z at *
 refine (done_good w3 w6 Bw 512 Z HKz.out hlx).mono ?_
 rintro e w7 ⟨pz',cz,rfl,hbz,hsz,_⟩
 have HF:Hid (GivesB W Z (.returned (.tuple #[.slice pz' Z.length cz,.int .i64 0])) w7):=hid ⟨pz',cz,rfl,hsz,HB3.out.trans (hbz.mono HB3.out.size)⟩
 clear hbz hsz hlx
 generalize Z.length=nz at *
 clear p0 p1 p2 p3 p4 p5 c0 c1 c2 c3 c4 c5 c6 c7 c8 c9 HGX
 go_wp2_with fail
 go_ret2
 exact HF.out
theorem rec_write5 (r:Rv) (L:List Ln) (T:List Tk) (M:List Ln) (W:World) (hok:Rxok (r.x L T M)) (hk:r.k=5):Calls Tryz.prog 78 #[.agg (rcs r)] W (GivesB W (z0l (r.x L T M))):=by
 obtain⟨W1,hW1,hb1⟩:∃ W1,W.alloc (.cells (rcs r) 42)=W1∧Below W.heap.size W W1:=⟨_,rfl,(Below.refl _ _).alloc (Nat.le_refl _) _⟩
 obtain⟨B,hB⟩:∃ B,W.heap.size=B:=⟨_,rfl⟩
 have hrb:=RB.new W r
 rw [hW1,hB] at hrb
 have HX1:=hid hrb
 have HW1:=hid hW1
 have HB1:=hid hb1
 have HRE:=hid hB
 have c0:W1.cell? ⟨B,0,none⟩=some (.int .u8 r.k):=z0a hrb rfl
 rw [hk] at c0
 clear hW1 hb1 hB hrb
 have HOK:=hid hok
 have u1:=z0n hok.sg
 have u2:=z0n hok.tx
 have u3:IntKind.u64.wrap r.st=r.st:=z0n ⟨hok.st.1,Int.le_trans hok.st.2 (by decide)⟩
 have u4:IntKind.u64.wrap r.o=r.o:=z0n ⟨hok.o.1,Int.le_trans hok.o.2 (by decide)⟩
 change IntKind.u64.wrap r.sg=r.sg at u1
 change IntKind.u64.wrap r.tx=r.tx at u2
 have hpa:=z1i 5 W1
 unfold z1h at hpa
 rw [show ptc 5=#[.bool false,.bool true,.bool false,.bool false,.bool false,.bool false] from rfl] at hpa
 clear hok
 go_enter Tryz.func78,Tryz.ntmps78
 go_upto_region 1 with (fail)
 rw [HW1.out,HRE.out]
 go_wp2_with fail
 refine hpa.mono ?_
 rintro e w2 ⟨rfl,h2⟩
 have HB2:=hid (HB1.out.trans (h2.mono HB1.out.size))
 have HX2:=hid (HX1.out.later h2)
 clear h2 hpa c0
 obtain⟨N2,hN2⟩:∃ n,w2.heap.size=n:=⟨_,rfl⟩
 obtain⟨w3,hwn,hxn,hbn⟩:∃ w3,(w2.alloc (.cells pz 117)).setRow N2 #[.bool false,.bool true,.bool false,.bool false,.bool false,.bool false]=w3∧w3.heap[N2]?=some (.cells #[.bool false,.bool true,.bool false,.bool false,.bool false,.bool false] 117 (0,0))∧Below w2.heap.size w2 w3:=⟨_,rfl,by rw [← hN2];exact setRow_heap _ _ _ _ _ _ (z0c w2 _),below_setRow ((Below.refl _ _).alloc (Nat.le_refl _) _) (by omega) _⟩
 have hx2:=z0c w2 (.cells pz 117)
 rw [hN2] at hx2
 have HPX:=hid hxn
 have HPZ:=hid hx2
 have HBN:=hid hbn
 have HWN:=hid hwn
 have HNN:=hid hN2
 have HS6:Hid ((#[.bool false,.bool true,.bool false,.bool false,.bool false,.bool false]:Array Value).size=6):=hid rfl
 have HA6:Hid ((#[.bool false,.bool true,.bool false,.bool false,.bool false,.bool false]:Array Value).all (·.oneCell')=true):=hid (by simp [Value.oneCell'])
 clear hx2 hxn hbn hwn hN2
 have HB3:=hid (HB2.out.trans (HBN.out.mono HB2.out.size))
 have HX3:=hid (HX2.out.later HBN.out)
 go_wp2_with ((try rw [HNN.out]);(with_reducible refine z0j #[.bool false,.bool true,.bool false,.bool false,.bool false,.bool false] HS6.out HA6.out HPZ.out ?_ ?_ ?_);rfl;rfl;rw [HWN.out])
 refine (new_ok w3 w3 512 (Below.refl _ _)).mono ?_
 rintro e w4 ⟨Bw,rfl,hkk⟩
 rw [show lim 512=512 from rfl] at hkk
 have HK4:=hid hkk
 clear hkk
 have gp:=z0b HPX.out HK4.out.below
 have HGX:=hid (HX3.out.later HK4.out.below)
 have p0:w4.cell? ⟨N2,0,none⟩=some (.bool false):=z0a gp rfl
 have p1:w4.cell? ⟨N2,1,none⟩=some (.bool true):=z0a gp rfl
 have p2:w4.cell? ⟨N2,2,none⟩=some (.bool false):=z0a gp rfl
 have p3:w4.cell? ⟨N2,3,none⟩=some (.bool false):=z0a gp rfl
 have p4:w4.cell? ⟨N2,4,none⟩=some (.bool false):=z0a gp rfl
 have p5:w4.cell? ⟨N2,5,none⟩=some (.bool false):=z0a gp rfl
 obtain⟨c0,c1,c2,c3,c4,c5,c6,c7,c8,c9⟩:=HGX.out.at
 rw [hk] at c0
 clear gp
 go_wp2_with fail
 refine (wo_num1 HK4.out 5 (by omega) (by simp)).mono ?_
 rintro e w5 ⟨rfl,hkk⟩
 have HK5:=hid hkk
 clear hkk HK4
 clear p0 p1 p2 p3 p4 p5 c0 c1 c2 c3 c4 c5 c6 c7 c8 c9 HGX
 have gp:=z0b HPX.out HK5.out.below
 have HGX:=hid (HX3.out.later HK5.out.below)
 have p0:w5.cell? ⟨N2,0,none⟩=some (.bool false):=z0a gp rfl
 have p1:w5.cell? ⟨N2,1,none⟩=some (.bool true):=z0a gp rfl
 have p2:w5.cell? ⟨N2,2,none⟩=some (.bool false):=z0a gp rfl
 have p3:w5.cell? ⟨N2,3,none⟩=some (.bool false):=z0a gp rfl
 have p4:w5.cell? ⟨N2,4,none⟩=some (.bool false):=z0a gp rfl
 have p5:w5.cell? ⟨N2,5,none⟩=some (.bool false):=z0a gp rfl
 obtain⟨c0,c1,c2,c3,c4,c5,c6,c7,c8,c9⟩:=HGX.out.at
 rw [hk] at c0
 clear gp
 go_wp2_with fail
 refine (wo_num4 HK5.out r.tx HOK.out.tx (by simp only [List.length_append,List.length_nil,z0m];omega)).mono ?_
 rintro e w6 ⟨rfl,hkk⟩
 have HK6:=hid hkk
 clear hkk HK5
 clear p0 p1 p2 p3 p4 p5 c0 c1 c2 c3 c4 c5 c6 c7 c8 c9 HGX
 have gp:=z0b HPX.out HK6.out.below
 have HGX:=hid (HX3.out.later HK6.out.below)
 have p0:w6.cell? ⟨N2,0,none⟩=some (.bool false):=z0a gp rfl
 have p1:w6.cell? ⟨N2,1,none⟩=some (.bool true):=z0a gp rfl
 have p2:w6.cell? ⟨N2,2,none⟩=some (.bool false):=z0a gp rfl
 have p3:w6.cell? ⟨N2,3,none⟩=some (.bool false):=z0a gp rfl
 have p4:w6.cell? ⟨N2,4,none⟩=some (.bool false):=z0a gp rfl
 have p5:w6.cell? ⟨N2,5,none⟩=some (.bool false):=z0a gp rfl
 obtain⟨c0,c1,c2,c3,c4,c5,c6,c7,c8,c9⟩:=HGX.out.at
 rw [hk] at c0
 clear gp
 go_wp2_with fail
 have hbx:((([]:List Nat)++le ((5:Int)).toNat 1)++le r.tx.toNat 4)=z0l (r.x L T M):=by
  unfold z0l
  rw [show ((r.x L T M)).k=5 from hk]
  simp [kS,kT,kB,kA,kO,kP,Rv.x,List.append_assoc]
 have hlx:(z0l (r.x L T M)).length≤100000:=by rw [← hbx];simp only [List.length_append,List.length_nil,List.length_cons,z0m,keyB];omega
 have HKz:Hid (WrOk w3 w6 Bw 512 (0,z0l (r.x L T M))):=hid (by rw [← hbx];exact HK6.out)
 clear hbx HK6
 generalize z0l (r.x L T M)=Z at *
 refine (done_good w3 w6 Bw 512 Z HKz.out hlx).mono ?_
 rintro e w7 ⟨pz',cz,rfl,hbz,hsz,_⟩
 have HF:Hid (GivesB W Z (.returned (.tuple #[.slice pz' Z.length cz,.int .i64 0])) w7):=hid ⟨pz',cz,rfl,hsz,HB3.out.trans (hbz.mono HB3.out.size)⟩
 clear hbz hsz hlx
 generalize Z.length=nz at *
 clear p0 p1 p2 p3 p4 p5 c0 c1 c2 c3 c4 c5 c6 c7 c8 c9 HGX
 go_wp2_with fail
 go_ret2
 exact HF.out
theorem rec_write6 (r:Rv) (L:List Ln) (T:List Tk) (M:List Ln) (W:World) (hok:Rxok (r.x L T M)) (hk:r.k=6):Calls Tryz.prog 78 #[.agg (rcs r)] W (GivesB W (z0l (r.x L T M))):=by
 obtain⟨W1,hW1,hb1⟩:∃ W1,W.alloc (.cells (rcs r) 42)=W1∧Below W.heap.size W W1:=⟨_,rfl,(Below.refl _ _).alloc (Nat.le_refl _) _⟩
 obtain⟨B,hB⟩:∃ B,W.heap.size=B:=⟨_,rfl⟩
 have hrb:=RB.new W r
 rw [hW1,hB] at hrb
 have HX1:=hid hrb
 have HW1:=hid hW1
 have HB1:=hid hb1
 have HRE:=hid hB
 have c0:W1.cell? ⟨B,0,none⟩=some (.int .u8 r.k):=z0a hrb rfl
 rw [hk] at c0
 clear hW1 hb1 hB hrb
 have HOK:=hid hok
 have u1:=z0n hok.sg
 have u2:=z0n hok.tx
 have u3:IntKind.u64.wrap r.st=r.st:=z0n ⟨hok.st.1,Int.le_trans hok.st.2 (by decide)⟩
 have u4:IntKind.u64.wrap r.o=r.o:=z0n ⟨hok.o.1,Int.le_trans hok.o.2 (by decide)⟩
 change IntKind.u64.wrap r.sg=r.sg at u1
 change IntKind.u64.wrap r.tx=r.tx at u2
 have hpa:=z1i 6 W1
 unfold z1h at hpa
 rw [show ptc 6=#[.bool false,.bool true,.bool false,.bool true,.bool false,.bool false] from rfl] at hpa
 clear hok
 go_enter Tryz.func78,Tryz.ntmps78
 go_upto_region 1 with (fail)
 rw [HW1.out,HRE.out]
 go_wp2_with fail
 refine hpa.mono ?_
 rintro e w2 ⟨rfl,h2⟩
 have HB2:=hid (HB1.out.trans (h2.mono HB1.out.size))
 have HX2:=hid (HX1.out.later h2)
 clear h2 hpa c0
 obtain⟨N2,hN2⟩:∃ n,w2.heap.size=n:=⟨_,rfl⟩
 obtain⟨w3,hwn,hxn,hbn⟩:∃ w3,(w2.alloc (.cells pz 117)).setRow N2 #[.bool false,.bool true,.bool false,.bool true,.bool false,.bool false]=w3∧w3.heap[N2]?=some (.cells #[.bool false,.bool true,.bool false,.bool true,.bool false,.bool false] 117 (0,0))∧Below w2.heap.size w2 w3:=⟨_,rfl,by rw [← hN2];exact setRow_heap _ _ _ _ _ _ (z0c w2 _),below_setRow ((Below.refl _ _).alloc (Nat.le_refl _) _) (by omega) _⟩
 have hx2:=z0c w2 (.cells pz 117)
 rw [hN2] at hx2
 have HPX:=hid hxn
 have HPZ:=hid hx2
 have HBN:=hid hbn
 have HWN:=hid hwn
 have HNN:=hid hN2
 have HS6:Hid ((#[.bool false,.bool true,.bool false,.bool true,.bool false,.bool false]:Array Value).size=6):=hid rfl
 have HA6:Hid ((#[.bool false,.bool true,.bool false,.bool true,.bool false,.bool false]:Array Value).all (·.oneCell')=true):=hid (by simp [Value.oneCell'])
 clear hx2 hxn hbn hwn hN2
 have HB3:=hid (HB2.out.trans (HBN.out.mono HB2.out.size))
 have HX3:=hid (HX2.out.later HBN.out)
 go_wp2_with ((try rw [HNN.out]);(with_reducible refine z0j #[.bool false,.bool true,.bool false,.bool true,.bool false,.bool false] HS6.out HA6.out HPZ.out ?_ ?_ ?_);rfl;rfl;rw [HWN.out])
 refine (new_ok w3 w3 512 (Below.refl _ _)).mono ?_
 rintro e w4 ⟨Bw,rfl,hkk⟩
 rw [show lim 512=512 from rfl] at hkk
 have HK4:=hid hkk
 clear hkk
 have gp:=z0b HPX.out HK4.out.below
 have HGX:=hid (HX3.out.later HK4.out.below)
 have p0:w4.cell? ⟨N2,0,none⟩=some (.bool false):=z0a gp rfl
 have p1:w4.cell? ⟨N2,1,none⟩=some (.bool true):=z0a gp rfl
 have p2:w4.cell? ⟨N2,2,none⟩=some (.bool false):=z0a gp rfl
 have p3:w4.cell? ⟨N2,3,none⟩=some (.bool true):=z0a gp rfl
 have p4:w4.cell? ⟨N2,4,none⟩=some (.bool false):=z0a gp rfl
 have p5:w4.cell? ⟨N2,5,none⟩=some (.bool false):=z0a gp rfl
 obtain⟨c0,c1,c2,c3,c4,c5,c6,c7,c8,c9⟩:=HGX.out.at
 rw [hk] at c0
 clear gp
 go_wp2_with fail
 refine (wo_num1 HK4.out 6 (by omega) (by simp)).mono ?_
 rintro e w5 ⟨rfl,hkk⟩
 have HK5:=hid hkk
 clear hkk HK4
 clear p0 p1 p2 p3 p4 p5 c0 c1 c2 c3 c4 c5 c6 c7 c8 c9 HGX
 have gp:=z0b HPX.out HK5.out.below
 have HGX:=hid (HX3.out.later HK5.out.below)
 have p0:w5.cell? ⟨N2,0,none⟩=some (.bool false):=z0a gp rfl
 have p1:w5.cell? ⟨N2,1,none⟩=some (.bool true):=z0a gp rfl
 have p2:w5.cell? ⟨N2,2,none⟩=some (.bool false):=z0a gp rfl
 have p3:w5.cell? ⟨N2,3,none⟩=some (.bool true):=z0a gp rfl
 have p4:w5.cell? ⟨N2,4,none⟩=some (.bool false):=z0a gp rfl
 have p5:w5.cell? ⟨N2,5,none⟩=some (.bool false):=z0a gp rfl
 obtain⟨c0,c1,c2,c3,c4,c5,c6,c7,c8,c9⟩:=HGX.out.at
 rw [hk] at c0
 clear gp
 go_wp2_with fail
 refine (wo_num4 HK5.out r.tx HOK.out.tx (by simp only [List.length_append,List.length_nil,z0m];omega)).mono ?_
 rintro e w6 ⟨rfl,hkk⟩
 have HK6:=hid hkk
 clear hkk HK5
 clear p0 p1 p2 p3 p4 p5 c0 c1 c2 c3 c4 c5 c6 c7 c8 c9 HGX
 have gp:=z0b HPX.out HK6.out.below
 have HGX:=hid (HX3.out.later HK6.out.below)
 have p0:w6.cell? ⟨N2,0,none⟩=some (.bool false):=z0a gp rfl
 have p1:w6.cell? ⟨N2,1,none⟩=some (.bool true):=z0a gp rfl
 have p2:w6.cell? ⟨N2,2,none⟩=some (.bool false):=z0a gp rfl
 have p3:w6.cell? ⟨N2,3,none⟩=some (.bool true):=z0a gp rfl
 have p4:w6.cell? ⟨N2,4,none⟩=some (.bool false):=z0a gp rfl
 have p5:w6.cell? ⟨N2,5,none⟩=some (.bool false):=z0a gp rfl
 obtain⟨c0,c1,c2,c3,c4,c5,c6,c7,c8,c9⟩:=HGX.out.at
 rw [hk] at c0
 clear gp
 go_wp2_with fail
 have HKb:=hid (HK6.out.later (Chg.of_below (S:=fun _=>False) ((Below.refl w6.heap.size w6).alloc (Nat.le_refl _) (.cells #[.int .u8 r.ka,.int .u8 r.kb,.int .u8 r.kc] 5))))
 refine (wo_raw HKb.out (some ⟨w6.heap.size,0,none⟩) 3 3 (keyB (r.ka,r.kb,r.kc)) (sl_three r.ka r.kb r.kc HOK.out.key.1 HOK.out.key.2.1 HOK.out.key.2.2 w6) (by simp only [List.length_append,List.length_nil,z0m];omega)).mono ?_
 rintro e w7 ⟨rfl,hkk⟩
 have HK7:=hid hkk
 clear hkk HK6 HKb
 clear p0 p1 p2 p3 p4 p5 c0 c1 c2 c3 c4 c5 c6 c7 c8 c9 HGX
 have gp:=z0b HPX.out HK7.out.below
 have HGX:=hid (HX3.out.later HK7.out.below)
 have p0:w7.cell? ⟨N2,0,none⟩=some (.bool false):=z0a gp rfl
 have p1:w7.cell? ⟨N2,1,none⟩=some (.bool true):=z0a gp rfl
 have p2:w7.cell? ⟨N2,2,none⟩=some (.bool false):=z0a gp rfl
 have p3:w7.cell? ⟨N2,3,none⟩=some (.bool true):=z0a gp rfl
 have p4:w7.cell? ⟨N2,4,none⟩=some (.bool false):=z0a gp rfl
 have p5:w7.cell? ⟨N2,5,none⟩=some (.bool false):=z0a gp rfl
 obtain⟨c0,c1,c2,c3,c4,c5,c6,c7,c8,c9⟩:=HGX.out.at
 rw [hk] at c0
 clear gp
 go_wp2_with fail
 refine (wo_int HK7.out r.d HOK.out.d (by simp only [List.length_append,List.length_nil,z0m,keyB,List.length_cons];omega)).mono ?_
 rintro e w8 ⟨rfl,hkk⟩
 have HK8:=hid hkk
 clear hkk HK7
 clear p0 p1 p2 p3 p4 p5 c0 c1 c2 c3 c4 c5 c6 c7 c8 c9 HGX
 have gp:=z0b HPX.out HK8.out.below
 have HGX:=hid (HX3.out.later HK8.out.below)
 have p0:w8.cell? ⟨N2,0,none⟩=some (.bool false):=z0a gp rfl
 have p1:w8.cell? ⟨N2,1,none⟩=some (.bool true):=z0a gp rfl
 have p2:w8.cell? ⟨N2,2,none⟩=some (.bool false):=z0a gp rfl
 have p3:w8.cell? ⟨N2,3,none⟩=some (.bool true):=z0a gp rfl
 have p4:w8.cell? ⟨N2,4,none⟩=some (.bool false):=z0a gp rfl
 have p5:w8.cell? ⟨N2,5,none⟩=some (.bool false):=z0a gp rfl
 obtain⟨c0,c1,c2,c3,c4,c5,c6,c7,c8,c9⟩:=HGX.out.at
 rw [hk] at c0
 clear gp
 go_wp2_with fail
 have hbx:((((([]:List Nat)++le ((6:Int)).toNat 1)++le r.tx.toNat 4)++keyB (r.ka,r.kb,r.kc))++le (u64 r.d) 8)=z0l (r.x L T M):=by
  unfold z0l
  rw [show ((r.x L T M)).k=6 from hk]
  simp [kS,kT,kB,kA,kO,kP,Rv.x,List.append_assoc]
 have hlx:(z0l (r.x L T M)).length≤100000:=by rw [← hbx];simp only [List.length_append,List.length_nil,List.length_cons,z0m,keyB];omega
 have HKz:Hid (WrOk w3 w8 Bw 512 (0,z0l (r.x L T M))):=hid (by rw [← hbx];exact HK8.out)
 clear hbx HK8
 generalize z0l (r.x L T M)=Z at *
 refine (done_good w3 w8 Bw 512 Z HKz.out hlx).mono ?_
 rintro e w9 ⟨pz',cz,rfl,hbz,hsz,_⟩
 have HF:Hid (GivesB W Z (.returned (.tuple #[.slice pz' Z.length cz,.int .i64 0])) w9):=hid ⟨pz',cz,rfl,hsz,HB3.out.trans (hbz.mono HB3.out.size)⟩
 clear hbz hsz hlx
 generalize Z.length=nz at *
 clear p0 p1 p2 p3 p4 p5 c0 c1 c2 c3 c4 c5 c6 c7 c8 c9 HGX
 go_wp2_with fail
 go_ret2
 exact HF.out
theorem rec_write7 (r:Rv) (L:List Ln) (T:List Tk) (M:List Ln) (W:World) (hok:Rxok (r.x L T M)) (hk:r.k=7):Calls Tryz.prog 78 #[.agg (rcs r)] W (GivesB W (z0l (r.x L T M))):=by
 obtain⟨W1,hW1,hb1⟩:∃ W1,W.alloc (.cells (rcs r) 42)=W1∧Below W.heap.size W W1:=⟨_,rfl,(Below.refl _ _).alloc (Nat.le_refl _) _⟩
 obtain⟨B,hB⟩:∃ B,W.heap.size=B:=⟨_,rfl⟩
 have hrb:=RB.new W r
 rw [hW1,hB] at hrb
 have HX1:=hid hrb
 have HW1:=hid hW1
 have HB1:=hid hb1
 have HRE:=hid hB
 have c0:W1.cell? ⟨B,0,none⟩=some (.int .u8 r.k):=z0a hrb rfl
 rw [hk] at c0
 clear hW1 hb1 hB hrb
 have HOK:=hid hok
 have u1:=z0n hok.sg
 have u2:=z0n hok.tx
 have u3:IntKind.u64.wrap r.st=r.st:=z0n ⟨hok.st.1,Int.le_trans hok.st.2 (by decide)⟩
 have u4:IntKind.u64.wrap r.o=r.o:=z0n ⟨hok.o.1,Int.le_trans hok.o.2 (by decide)⟩
 change IntKind.u64.wrap r.sg=r.sg at u1
 change IntKind.u64.wrap r.tx=r.tx at u2
 have hpa:=z1i 7 W1
 unfold z1h at hpa
 rw [show ptc 7=#[.bool false,.bool true,.bool false,.bool false,.bool false,.bool false] from rfl] at hpa
 clear hok
 go_enter Tryz.func78,Tryz.ntmps78
 go_upto_region 1 with (fail)
 rw [HW1.out,HRE.out]
 go_wp2_with fail
 refine hpa.mono ?_
 rintro e w2 ⟨rfl,h2⟩
 have HB2:=hid (HB1.out.trans (h2.mono HB1.out.size))
 have HX2:=hid (HX1.out.later h2)
 clear h2 hpa c0
 obtain⟨N2,hN2⟩:∃ n,w2.heap.size=n:=⟨_,rfl⟩
 obtain⟨w3,hwn,hxn,hbn⟩:∃ w3,(w2.alloc (.cells pz 117)).setRow N2 #[.bool false,.bool true,.bool false,.bool false,.bool false,.bool false]=w3∧w3.heap[N2]?=some (.cells #[.bool false,.bool true,.bool false,.bool false,.bool false,.bool false] 117 (0,0))∧Below w2.heap.size w2 w3:=⟨_,rfl,by rw [← hN2];exact setRow_heap _ _ _ _ _ _ (z0c w2 _),below_setRow ((Below.refl _ _).alloc (Nat.le_refl _) _) (by omega) _⟩
 have hx2:=z0c w2 (.cells pz 117)
 rw [hN2] at hx2
 have HPX:=hid hxn
 have HPZ:=hid hx2
 have HBN:=hid hbn
 have HWN:=hid hwn
 have HNN:=hid hN2
 have HS6:Hid ((#[.bool false,.bool true,.bool false,.bool false,.bool false,.bool false]:Array Value).size=6):=hid rfl
 have HA6:Hid ((#[.bool false,.bool true,.bool false,.bool false,.bool false,.bool false]:Array Value).all (·.oneCell')=true):=hid (by simp [Value.oneCell'])
 clear hx2 hxn hbn hwn hN2
 have HB3:=hid (HB2.out.trans (HBN.out.mono HB2.out.size))
 have HX3:=hid (HX2.out.later HBN.out)
 go_wp2_with ((try rw [HNN.out]);(with_reducible refine z0j #[.bool false,.bool true,.bool false,.bool false,.bool false,.bool false] HS6.out HA6.out HPZ.out ?_ ?_ ?_);rfl;rfl;rw [HWN.out])
 refine (new_ok w3 w3 512 (Below.refl _ _)).mono ?_
 rintro e w4 ⟨Bw,rfl,hkk⟩
 rw [show lim 512=512 from rfl] at hkk
 have HK4:=hid hkk
 clear hkk
 have gp:=z0b HPX.out HK4.out.below
 have HGX:=hid (HX3.out.later HK4.out.below)
 have p0:w4.cell? ⟨N2,0,none⟩=some (.bool false):=z0a gp rfl
 have p1:w4.cell? ⟨N2,1,none⟩=some (.bool true):=z0a gp rfl
 have p2:w4.cell? ⟨N2,2,none⟩=some (.bool false):=z0a gp rfl
 have p3:w4.cell? ⟨N2,3,none⟩=some (.bool false):=z0a gp rfl
 have p4:w4.cell? ⟨N2,4,none⟩=some (.bool false):=z0a gp rfl
 have p5:w4.cell? ⟨N2,5,none⟩=some (.bool false):=z0a gp rfl
 obtain⟨c0,c1,c2,c3,c4,c5,c6,c7,c8,c9⟩:=HGX.out.at
 rw [hk] at c0
 clear gp
 go_wp2_with fail
 refine (wo_num1 HK4.out 7 (by omega) (by simp)).mono ?_
 rintro e w5 ⟨rfl,hkk⟩
 have HK5:=hid hkk
 clear hkk HK4
 clear p0 p1 p2 p3 p4 p5 c0 c1 c2 c3 c4 c5 c6 c7 c8 c9 HGX
 have gp:=z0b HPX.out HK5.out.below
 have HGX:=hid (HX3.out.later HK5.out.below)
 have p0:w5.cell? ⟨N2,0,none⟩=some (.bool false):=z0a gp rfl
 have p1:w5.cell? ⟨N2,1,none⟩=some (.bool true):=z0a gp rfl
 have p2:w5.cell? ⟨N2,2,none⟩=some (.bool false):=z0a gp rfl
 have p3:w5.cell? ⟨N2,3,none⟩=some (.bool false):=z0a gp rfl
 have p4:w5.cell? ⟨N2,4,none⟩=some (.bool false):=z0a gp rfl
 have p5:w5.cell? ⟨N2,5,none⟩=some (.bool false):=z0a gp rfl
 obtain⟨c0,c1,c2,c3,c4,c5,c6,c7,c8,c9⟩:=HGX.out.at
 rw [hk] at c0
 clear gp
 go_wp2_with fail
 refine (wo_num4 HK5.out r.tx HOK.out.tx (by simp only [List.length_append,List.length_nil,z0m];omega)).mono ?_
 rintro e w6 ⟨rfl,hkk⟩
 have HK6:=hid hkk
 clear hkk HK5
 clear p0 p1 p2 p3 p4 p5 c0 c1 c2 c3 c4 c5 c6 c7 c8 c9 HGX
 have gp:=z0b HPX.out HK6.out.below
 have HGX:=hid (HX3.out.later HK6.out.below)
 have p0:w6.cell? ⟨N2,0,none⟩=some (.bool false):=z0a gp rfl
 have p1:w6.cell? ⟨N2,1,none⟩=some (.bool true):=z0a gp rfl
 have p2:w6.cell? ⟨N2,2,none⟩=some (.bool false):=z0a gp rfl
 have p3:w6.cell? ⟨N2,3,none⟩=some (.bool false):=z0a gp rfl
 have p4:w6.cell? ⟨N2,4,none⟩=some (.bool false):=z0a gp rfl
 have p5:w6.cell? ⟨N2,5,none⟩=some (.bool false):=z0a gp rfl
 obtain⟨c0,c1,c2,c3,c4,c5,c6,c7,c8,c9⟩:=HGX.out.at
 rw [hk] at c0
 clear gp
 go_wp2_with fail
 have hbx:((([]:List Nat)++le ((7:Int)).toNat 1)++le r.tx.toNat 4)=z0l (r.x L T M):=by
  unfold z0l
  rw [show ((r.x L T M)).k=7 from hk]
  simp [kS,kT,kB,kA,kO,kP,Rv.x,List.append_assoc]
 have hlx:(z0l (r.x L T M)).length≤100000:=by rw [← hbx];simp only [List.length_append,List.length_nil,List.length_cons,z0m,keyB];omega
 have HKz:Hid (WrOk w3 w6 Bw 512 (0,z0l (r.x L T M))):=hid (by rw [← hbx];exact HK6.out)
 clear hbx HK6
 generalize z0l (r.x L T M)=Z at *
 refine (done_good w3 w6 Bw 512 Z HKz.out hlx).mono ?_
 rintro e w7 ⟨pz',cz,rfl,hbz,hsz,_⟩
 have HF:Hid (GivesB W Z (.returned (.tuple #[.slice pz' Z.length cz,.int .i64 0])) w7):=hid ⟨pz',cz,rfl,hsz,HB3.out.trans (hbz.mono HB3.out.size)⟩
 clear hbz hsz hlx
 generalize Z.length=nz at *
 clear p0 p1 p2 p3 p4 p5 c0 c1 c2 c3 c4 c5 c6 c7 c8 c9 HGX
 go_wp2_with fail
 go_ret2
 exact HF.out
theorem rec_write8 (r:Rv) (L:List Ln) (T:List Tk) (M:List Ln) (W:World) (hok:Rxok (r.x L T M)) (hk:r.k=8):Calls Tryz.prog 78 #[.agg (rcs r)] W (GivesB W (z0l (r.x L T M))):=by
 obtain⟨W1,hW1,hb1⟩:∃ W1,W.alloc (.cells (rcs r) 42)=W1∧Below W.heap.size W W1:=⟨_,rfl,(Below.refl _ _).alloc (Nat.le_refl _) _⟩
 obtain⟨B,hB⟩:∃ B,W.heap.size=B:=⟨_,rfl⟩
 have hrb:=RB.new W r
 rw [hW1,hB] at hrb
 have HX1:=hid hrb
 have HW1:=hid hW1
 have HB1:=hid hb1
 have HRE:=hid hB
 have c0:W1.cell? ⟨B,0,none⟩=some (.int .u8 r.k):=z0a hrb rfl
 rw [hk] at c0
 clear hW1 hb1 hB hrb
 have HOK:=hid hok
 have u1:=z0n hok.sg
 have u2:=z0n hok.tx
 have u3:IntKind.u64.wrap r.st=r.st:=z0n ⟨hok.st.1,Int.le_trans hok.st.2 (by decide)⟩
 have u4:IntKind.u64.wrap r.o=r.o:=z0n ⟨hok.o.1,Int.le_trans hok.o.2 (by decide)⟩
 change IntKind.u64.wrap r.sg=r.sg at u1
 change IntKind.u64.wrap r.tx=r.tx at u2
 have hpa:=z1i 8 W1
 unfold z1h at hpa
 rw [show ptc 8=#[.bool true,.bool false,.bool false,.bool false,.bool false,.bool false] from rfl] at hpa
 clear hok
 go_enter Tryz.func78,Tryz.ntmps78
 go_upto_region 1 with (fail)
 rw [HW1.out,HRE.out]
 go_wp2_with fail
 refine hpa.mono ?_
 rintro e w2 ⟨rfl,h2⟩
 have HB2:=hid (HB1.out.trans (h2.mono HB1.out.size))
 have HX2:=hid (HX1.out.later h2)
 clear h2 hpa c0
 obtain⟨N2,hN2⟩:∃ n,w2.heap.size=n:=⟨_,rfl⟩
 obtain⟨w3,hwn,hxn,hbn⟩:∃ w3,(w2.alloc (.cells pz 117)).setRow N2 #[.bool true,.bool false,.bool false,.bool false,.bool false,.bool false]=w3∧w3.heap[N2]?=some (.cells #[.bool true,.bool false,.bool false,.bool false,.bool false,.bool false] 117 (0,0))∧Below w2.heap.size w2 w3:=⟨_,rfl,by rw [← hN2];exact setRow_heap _ _ _ _ _ _ (z0c w2 _),below_setRow ((Below.refl _ _).alloc (Nat.le_refl _) _) (by omega) _⟩
 have hx2:=z0c w2 (.cells pz 117)
 rw [hN2] at hx2
 have HPX:=hid hxn
 have HPZ:=hid hx2
 have HBN:=hid hbn
 have HWN:=hid hwn
 have HNN:=hid hN2
 have HS6:Hid ((#[.bool true,.bool false,.bool false,.bool false,.bool false,.bool false]:Array Value).size=6):=hid rfl
 have HA6:Hid ((#[.bool true,.bool false,.bool false,.bool false,.bool false,.bool false]:Array Value).all (·.oneCell')=true):=hid (by simp [Value.oneCell'])
 clear hx2 hxn hbn hwn hN2
 have HB3:=hid (HB2.out.trans (HBN.out.mono HB2.out.size))
 have HX3:=hid (HX2.out.later HBN.out)
 go_wp2_with ((try rw [HNN.out]);(with_reducible refine z0j #[.bool true,.bool false,.bool false,.bool false,.bool false,.bool false] HS6.out HA6.out HPZ.out ?_ ?_ ?_);rfl;rfl;rw [HWN.out])
 refine (new_ok w3 w3 512 (Below.refl _ _)).mono ?_
 rintro e w4 ⟨Bw,rfl,hkk⟩
 rw [show lim 512=512 from rfl] at hkk
 have HK4:=hid hkk
 clear hkk
 have gp:=z0b HPX.out HK4.out.below
 have HGX:=hid (HX3.out.later HK4.out.below)
 have p0:w4.cell? ⟨N2,0,none⟩=some (.bool true):=z0a gp rfl
 have p1:w4.cell? ⟨N2,1,none⟩=some (.bool false):=z0a gp rfl
 have p2:w4.cell? ⟨N2,2,none⟩=some (.bool false):=z0a gp rfl
 have p3:w4.cell? ⟨N2,3,none⟩=some (.bool false):=z0a gp rfl
 have p4:w4.cell? ⟨N2,4,none⟩=some (.bool false):=z0a gp rfl
 have p5:w4.cell? ⟨N2,5,none⟩=some (.bool false):=z0a gp rfl
 obtain⟨c0,c1,c2,c3,c4,c5,c6,c7,c8,c9⟩:=HGX.out.at
 rw [hk] at c0
 clear gp
 go_wp2_with fail
 refine (wo_num1 HK4.out 8 (by omega) (by simp)).mono ?_
 rintro e w5 ⟨rfl,hkk⟩
 have HK5:=hid hkk
 clear hkk HK4
 clear p0 p1 p2 p3 p4 p5 c0 c1 c2 c3 c4 c5 c6 c7 c8 c9 HGX
 have gp:=z0b HPX.out HK5.out.below
 have HGX:=hid (HX3.out.later HK5.out.below)
 have p0:w5.cell? ⟨N2,0,none⟩=some (.bool true):=z0a gp rfl
 have p1:w5.cell? ⟨N2,1,none⟩=some (.bool false):=z0a gp rfl
 have p2:w5.cell? ⟨N2,2,none⟩=some (.bool false):=z0a gp rfl
 have p3:w5.cell? ⟨N2,3,none⟩=some (.bool false):=z0a gp rfl
 have p4:w5.cell? ⟨N2,4,none⟩=some (.bool false):=z0a gp rfl
 have p5:w5.cell? ⟨N2,5,none⟩=some (.bool false):=z0a gp rfl
 obtain⟨c0,c1,c2,c3,c4,c5,c6,c7,c8,c9⟩:=HGX.out.at
 rw [hk] at c0
 clear gp
 go_wp2_with fail
 refine (wo_num4 HK5.out r.sg HOK.out.sg (by simp only [List.length_append,List.length_nil,z0m];omega)).mono ?_
 rintro e w6 ⟨rfl,hkk⟩
 have HK6:=hid hkk
 clear hkk HK5
 clear p0 p1 p2 p3 p4 p5 c0 c1 c2 c3 c4 c5 c6 c7 c8 c9 HGX
 have gp:=z0b HPX.out HK6.out.below
 have HGX:=hid (HX3.out.later HK6.out.below)
 have p0:w6.cell? ⟨N2,0,none⟩=some (.bool true):=z0a gp rfl
 have p1:w6.cell? ⟨N2,1,none⟩=some (.bool false):=z0a gp rfl
 have p2:w6.cell? ⟨N2,2,none⟩=some (.bool false):=z0a gp rfl
 have p3:w6.cell? ⟨N2,3,none⟩=some (.bool false):=z0a gp rfl
 have p4:w6.cell? ⟨N2,4,none⟩=some (.bool false):=z0a gp rfl
 have p5:w6.cell? ⟨N2,5,none⟩=some (.bool false):=z0a gp rfl
 obtain⟨c0,c1,c2,c3,c4,c5,c6,c7,c8,c9⟩:=HGX.out.at
 rw [hk] at c0
 clear gp
 go_wp2_with fail
 have hbx:((([]:List Nat)++le ((8:Int)).toNat 1)++le r.sg.toNat 4)=z0l (r.x L T M):=by
  unfold z0l
  rw [show ((r.x L T M)).k=8 from hk]
  simp [kS,kT,kB,kA,kO,kP,Rv.x,List.append_assoc]
 have hlx:(z0l (r.x L T M)).length≤100000:=by rw [← hbx];simp only [List.length_append,List.length_nil,List.length_cons,z0m,keyB];omega
 have HKz:Hid (WrOk w3 w6 Bw 512 (0,z0l (r.x L T M))):=hid (by rw [← hbx];exact HK6.out)
 clear hbx HK6
 generalize z0l (r.x L T M)=Z at *
 refine (done_good w3 w6 Bw 512 Z HKz.out hlx).mono ?_
 rintro e w7 ⟨pz',cz,rfl,hbz,hsz,_⟩
 have HF:Hid (GivesB W Z (.returned (.tuple #[.slice pz' Z.length cz,.int .i64 0])) w7):=hid ⟨pz',cz,rfl,hsz,HB3.out.trans (hbz.mono HB3.out.size)⟩
 clear hbz hsz hlx
 generalize Z.length=nz at *
 clear p0 p1 p2 p3 p4 p5 c0 c1 c2 c3 c4 c5 c6 c7 c8 c9 HGX
 go_wp2_with fail
 go_ret2
 exact HF.out
theorem rec_write9 (r:Rv) (L:List Ln) (T:List Tk) (M:List Ln) (W:World) (hok:Rxok (r.x L T M)) (hk:r.k=9):Calls Tryz.prog 78 #[.agg (rcs r)] W (GivesB W (z0l (r.x L T M))):=by
 obtain⟨W1,hW1,hb1⟩:∃ W1,W.alloc (.cells (rcs r) 42)=W1∧Below W.heap.size W W1:=⟨_,rfl,(Below.refl _ _).alloc (Nat.le_refl _) _⟩
 obtain⟨B,hB⟩:∃ B,W.heap.size=B:=⟨_,rfl⟩
 have hrb:=RB.new W r
 rw [hW1,hB] at hrb
 have HX1:=hid hrb
 have HW1:=hid hW1
 have HB1:=hid hb1
 have HRE:=hid hB
 have c0:W1.cell? ⟨B,0,none⟩=some (.int .u8 r.k):=z0a hrb rfl
 rw [hk] at c0
 clear hW1 hb1 hB hrb
 have HOK:=hid hok
 have u1:=z0n hok.sg
 have u2:=z0n hok.tx
 have u3:IntKind.u64.wrap r.st=r.st:=z0n ⟨hok.st.1,Int.le_trans hok.st.2 (by decide)⟩
 have u4:IntKind.u64.wrap r.o=r.o:=z0n ⟨hok.o.1,Int.le_trans hok.o.2 (by decide)⟩
 change IntKind.u64.wrap r.sg=r.sg at u1
 change IntKind.u64.wrap r.tx=r.tx at u2
 have hpa:=z1i 9 W1
 unfold z1h at hpa
 rw [show ptc 9=#[.bool true,.bool false,.bool false,.bool false,.bool true,.bool false] from rfl] at hpa
 clear hok
 go_enter Tryz.func78,Tryz.ntmps78
 go_upto_region 1 with (fail)
 rw [HW1.out,HRE.out]
 go_wp2_with fail
 refine hpa.mono ?_
 rintro e w2 ⟨rfl,h2⟩
 have HB2:=hid (HB1.out.trans (h2.mono HB1.out.size))
 have HX2:=hid (HX1.out.later h2)
 clear h2 hpa c0
 obtain⟨N2,hN2⟩:∃ n,w2.heap.size=n:=⟨_,rfl⟩
 obtain⟨w3,hwn,hxn,hbn⟩:∃ w3,(w2.alloc (.cells pz 117)).setRow N2 #[.bool true,.bool false,.bool false,.bool false,.bool true,.bool false]=w3∧w3.heap[N2]?=some (.cells #[.bool true,.bool false,.bool false,.bool false,.bool true,.bool false] 117 (0,0))∧Below w2.heap.size w2 w3:=⟨_,rfl,by rw [← hN2];exact setRow_heap _ _ _ _ _ _ (z0c w2 _),below_setRow ((Below.refl _ _).alloc (Nat.le_refl _) _) (by omega) _⟩
 have hx2:=z0c w2 (.cells pz 117)
 rw [hN2] at hx2
 have HPX:=hid hxn
 have HPZ:=hid hx2
 have HBN:=hid hbn
 have HWN:=hid hwn
 have HNN:=hid hN2
 have HS6:Hid ((#[.bool true,.bool false,.bool false,.bool false,.bool true,.bool false]:Array Value).size=6):=hid rfl
 have HA6:Hid ((#[.bool true,.bool false,.bool false,.bool false,.bool true,.bool false]:Array Value).all (·.oneCell')=true):=hid (by simp [Value.oneCell'])
 clear hx2 hxn hbn hwn hN2
 have HB3:=hid (HB2.out.trans (HBN.out.mono HB2.out.size))
 have HX3:=hid (HX2.out.later HBN.out)
 go_wp2_with ((try rw [HNN.out]);(with_reducible refine z0j #[.bool true,.bool false,.bool false,.bool false,.bool true,.bool false] HS6.out HA6.out HPZ.out ?_ ?_ ?_);rfl;rfl;rw [HWN.out])
 refine (new_ok w3 w3 512 (Below.refl _ _)).mono ?_
 rintro e w4 ⟨Bw,rfl,hkk⟩
 rw [show lim 512=512 from rfl] at hkk
 have HK4:=hid hkk
 clear hkk
 have gp:=z0b HPX.out HK4.out.below
 have HGX:=hid (HX3.out.later HK4.out.below)
 have p0:w4.cell? ⟨N2,0,none⟩=some (.bool true):=z0a gp rfl
 have p1:w4.cell? ⟨N2,1,none⟩=some (.bool false):=z0a gp rfl
 have p2:w4.cell? ⟨N2,2,none⟩=some (.bool false):=z0a gp rfl
 have p3:w4.cell? ⟨N2,3,none⟩=some (.bool false):=z0a gp rfl
 have p4:w4.cell? ⟨N2,4,none⟩=some (.bool true):=z0a gp rfl
 have p5:w4.cell? ⟨N2,5,none⟩=some (.bool false):=z0a gp rfl
 obtain⟨c0,c1,c2,c3,c4,c5,c6,c7,c8,c9⟩:=HGX.out.at
 rw [hk] at c0
 clear gp
 go_wp2_with fail
 refine (wo_num1 HK4.out 9 (by omega) (by simp)).mono ?_
 rintro e w5 ⟨rfl,hkk⟩
 have HK5:=hid hkk
 clear hkk HK4
 clear p0 p1 p2 p3 p4 p5 c0 c1 c2 c3 c4 c5 c6 c7 c8 c9 HGX
 have gp:=z0b HPX.out HK5.out.below
 have HGX:=hid (HX3.out.later HK5.out.below)
 have p0:w5.cell? ⟨N2,0,none⟩=some (.bool true):=z0a gp rfl
 have p1:w5.cell? ⟨N2,1,none⟩=some (.bool false):=z0a gp rfl
 have p2:w5.cell? ⟨N2,2,none⟩=some (.bool false):=z0a gp rfl
 have p3:w5.cell? ⟨N2,3,none⟩=some (.bool false):=z0a gp rfl
 have p4:w5.cell? ⟨N2,4,none⟩=some (.bool true):=z0a gp rfl
 have p5:w5.cell? ⟨N2,5,none⟩=some (.bool false):=z0a gp rfl
 obtain⟨c0,c1,c2,c3,c4,c5,c6,c7,c8,c9⟩:=HGX.out.at
 rw [hk] at c0
 clear gp
 go_wp2_with fail
 refine (wo_num4 HK5.out r.sg HOK.out.sg (by simp only [List.length_append,List.length_nil,z0m];omega)).mono ?_
 rintro e w6 ⟨rfl,hkk⟩
 have HK6:=hid hkk
 clear hkk HK5
 clear p0 p1 p2 p3 p4 p5 c0 c1 c2 c3 c4 c5 c6 c7 c8 c9 HGX
 have gp:=z0b HPX.out HK6.out.below
 have HGX:=hid (HX3.out.later HK6.out.below)
 have p0:w6.cell? ⟨N2,0,none⟩=some (.bool true):=z0a gp rfl
 have p1:w6.cell? ⟨N2,1,none⟩=some (.bool false):=z0a gp rfl
 have p2:w6.cell? ⟨N2,2,none⟩=some (.bool false):=z0a gp rfl
 have p3:w6.cell? ⟨N2,3,none⟩=some (.bool false):=z0a gp rfl
 have p4:w6.cell? ⟨N2,4,none⟩=some (.bool true):=z0a gp rfl
 have p5:w6.cell? ⟨N2,5,none⟩=some (.bool false):=z0a gp rfl
 obtain⟨c0,c1,c2,c3,c4,c5,c6,c7,c8,c9⟩:=HGX.out.at
 rw [hk] at c0
 clear gp
 go_wp2_with fail
 refine (wo_num1 HK6.out r.o HOK.out.o (by simp only [List.length_append,List.length_nil,z0m];omega)).mono ?_
 rintro e w7 ⟨rfl,hkk⟩
 have HK7:=hid hkk
 clear hkk HK6
 clear p0 p1 p2 p3 p4 p5 c0 c1 c2 c3 c4 c5 c6 c7 c8 c9 HGX
 have gp:=z0b HPX.out HK7.out.below
 have HGX:=hid (HX3.out.later HK7.out.below)
 have p0:w7.cell? ⟨N2,0,none⟩=some (.bool true):=z0a gp rfl
 have p1:w7.cell? ⟨N2,1,none⟩=some (.bool false):=z0a gp rfl
 have p2:w7.cell? ⟨N2,2,none⟩=some (.bool false):=z0a gp rfl
 have p3:w7.cell? ⟨N2,3,none⟩=some (.bool false):=z0a gp rfl
 have p4:w7.cell? ⟨N2,4,none⟩=some (.bool true):=z0a gp rfl
 have p5:w7.cell? ⟨N2,5,none⟩=some (.bool false):=z0a gp rfl
 obtain⟨c0,c1,c2,c3,c4,c5,c6,c7,c8,c9⟩:=HGX.out.at
 rw [hk] at c0
 clear gp
 go_wp2_with fail
 have hbx:(((([]:List Nat)++le ((9:Int)).toNat 1)++le r.sg.toNat 4)++le r.o.toNat 1)=z0l (r.x L T M):=by
  unfold z0l
  rw [show ((r.x L T M)).k=9 from hk]
  simp [kS,kT,kB,kA,kO,kP,Rv.x,List.append_assoc]
 have hlx:(z0l (r.x L T M)).length≤100000:=by rw [← hbx];simp only [List.length_append,List.length_nil,List.length_cons,z0m,keyB];omega
 have HKz:Hid (WrOk w3 w7 Bw 512 (0,z0l (r.x L T M))):=hid (by rw [← hbx];exact HK7.out)
 clear hbx HK7
 generalize z0l (r.x L T M)=Z at *
 refine (done_good w3 w7 Bw 512 Z HKz.out hlx).mono ?_
 rintro e w8 ⟨pz',cz,rfl,hbz,hsz,_⟩
 have HF:Hid (GivesB W Z (.returned (.tuple #[.slice pz' Z.length cz,.int .i64 0])) w8):=hid ⟨pz',cz,rfl,hsz,HB3.out.trans (hbz.mono HB3.out.size)⟩
 clear hbz hsz hlx
 generalize Z.length=nz at *
 clear p0 p1 p2 p3 p4 p5 c0 c1 c2 c3 c4 c5 c6 c7 c8 c9 HGX
 go_wp2_with fail
 go_ret2
 exact HF.out
end Go.Proofs.YtclbkfpbdidaiaaGreatDoor
