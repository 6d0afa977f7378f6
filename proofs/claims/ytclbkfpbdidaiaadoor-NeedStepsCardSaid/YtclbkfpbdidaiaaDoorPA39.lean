import Derived.Test.YtclbkfpbdidaiaaDoorPA38
import Derived.Test.YtclbkfpbdidaiaaDoorPA37
import Derived.Test.YtclbkfpbdidaiaaDoorPA24
namespace Go.Proofs.YtclbkfpbdidaiaaDoor
open Go.Lib (hid)
set_option maxHeartbeats 4000000
open Go.RowKit Go.ChangeShapes Go.WideShapes
set_option linter.unusedVariables false
set_option linter.unusedSimpArgs false
set_option maxRecDepth 10000
theorem rec_good (r:Rv) (L:List Ln) (T:List Tk) (M:List Ln) (W:World) (hw:Words W) (hP:RvM W r L T M) (hok:Rxok (r.x L T M)) (h1:r.ln≤400∧r.tn≤400∧r.wn≤400):Calls Tryd.prog 29 #[.agg (rcs r)] W fun e w'=>e=.returned (.bool (goodX (r.x L T M)))∧Below W.heap.size W w':=by
 obtain⟨W1,hW1,hb1⟩:∃ W1,W.alloc (.cells (rcs r) 44)=W1∧Below W.heap.size W W1:=⟨_,rfl,(Below.refl _ _).alloc (Nat.le_refl _) _⟩
 obtain⟨B,hB⟩:∃ B,W.heap.size=B:=⟨_,rfl⟩
 have hrb:=RB.new W r
 rw [hW1,hB] at hrb
 have HX1:=hid hrb
 have HW1:=hid hW1
 have HB1:=hid hb1
 have HRE:=hid hB
 have c0:W1.cell? ⟨B,0,none⟩=some (.int .u8 r.k):=z0a hrb rfl
 clear hW1 hb1 hB hrb
 obtain⟨b0,hb0⟩:∃ b,kOk r.k=b:=⟨_,rfl⟩
 obtain⟨b1,hb1⟩:∃ b,kS r.k=b:=⟨_,rfl⟩
 obtain⟨b2,hb2⟩:∃ b,kT r.k=b:=⟨_,rfl⟩
 obtain⟨b3,hb3⟩:∃ b,kB r.k=b:=⟨_,rfl⟩
 obtain⟨b4,hb4⟩:∃ b,kA r.k=b:=⟨_,rfl⟩
 obtain⟨b5,hb5⟩:∃ b,kO r.k=b:=⟨_,rfl⟩
 obtain⟨b6,hb6⟩:∃ b,kP r.k=b:=⟨_,rfl⟩
 have hpt:ptc r.k=#[.bool b1,.bool b2,.bool b3,.bool b4,.bool b5,.bool b6]:=by unfold ptc;rw [hb1,hb2,hb3,hb4,hb5,hb6]
 have hpa:=z0v r.k W1
 unfold z0u at hpa
 rw [hpt,hb0] at hpa
 obtain⟨s,hs⟩:∃ y,stepB b3 r.st r.cp=y:=⟨_,rfl⟩
 obtain⟨a,ha⟩:∃ y,addB b4 (r.ka,r.kb,r.kc) r.d=y:=⟨_,rfl⟩
 obtain⟨o,ho⟩:∃ y,outB b5 r.o=y:=⟨_,rfl⟩
 obtain⟨p,hp⟩:∃ y,progB b6 (r.pg L T M)=y:=⟨_,rfl⟩
 have HR:Hid (goodX (r.x L T M)=(b0 && (b1==(r.sg != 0)) && (b2==(r.tx != 0)) && s && a && o && p)):=hid (by
  rw [← hs,← ha,← ho,← hp,← hb0,← hb1,← hb2,← hb3,← hb4,← hb5,← hb6]
  rfl)
 have HCS:=hid (fun W=>gstep_any b3 r W)
 have HCA:=hid (fun W=>gadd_any b4 r ⟨hok.key.2.1,hok.key.2.2⟩ W)
 have HCO:=hid (fun W=>gout_any b5 r W)
 have HCP:=hid (fun W' (hb:Below W.heap.size W W')=>gprog_any b6 r L T M W' (hw.later hb) (hP.later hb) hok.pg h1)
 rw [hs] at HCS
 rw [ha] at HCA
 rw [ho] at HCO
 rw [hp] at HCP
 clear hpt hb0 hb1 hb2 hb3 hb4 hb5 hb6 hs ha ho hp hw hP hok h1
 go_enter Tryd.func29,Tryd.ntmps29
 go_upto_region 1 with (fail)
 rw [HW1.out,HRE.out]
 go_wp2_with fail
 refine hpa.mono ?_
 rintro e w2 ⟨rfl,h2⟩
 have HB2:=hid (HB1.out.trans (h2.mono HB1.out.size))
 have HX2:=hid (HX1.out.later h2)
 clear h2 hpa c0
 obtain⟨N2,hN2⟩:∃ n,w2.heap.size=n:=⟨_,rfl⟩
 obtain⟨w3,hwn,hxn,hbn⟩:∃ w3,(w2.alloc (.cells pz 56)).setRow N2 #[.bool b1,.bool b2,.bool b3,.bool b4,.bool b5,.bool b6]=w3∧w3.heap[N2]?=some (.cells #[.bool b1,.bool b2,.bool b3,.bool b4,.bool b5,.bool b6] 56 (0,0))∧Below w2.heap.size w2 w3:=⟨_,rfl,by rw [← hN2];exact setRow_heap _ _ _ _ _ _ (z0b w2 _),below_setRow ((Below.refl _ _).alloc (Nat.le_refl _) _) (by omega) _⟩
 have hx2:=z0b w2 (.cells pz 56)
 rw [hN2] at hx2
 have HPX:=hid hxn
 have HPZ:=hid hx2
 have HBN:=hid hbn
 have HWN:=hid hwn
 have HNN:=hid hN2
 have HS6:Hid ((#[.bool b1,.bool b2,.bool b3,.bool b4,.bool b5,.bool b6]:Array Value).size=6):=hid rfl
 have HA6:Hid ((#[.bool b1,.bool b2,.bool b3,.bool b4,.bool b5,.bool b6]:Array Value).all (·.oneCell')=true):=hid (by simp [Value.oneCell'])
 clear hx2 hxn hbn hwn hN2
 have HB3:=hid (HB2.out.trans (HBN.out.mono HB2.out.size))
 have HX3:=hid (HX2.out.later HBN.out)
 have gp:=z0c HPX.out (Below.refl _ _)
 have gx:=HX3.out.later (Below.refl _ _)
 have p0:w3.cell? ⟨N2,0,none⟩=some (.bool b1):=z0a gp rfl
 have p1:w3.cell? ⟨N2,1,none⟩=some (.bool b2):=z0a gp rfl
 have p2:w3.cell? ⟨N2,2,none⟩=some (.bool b3):=z0a gp rfl
 have p3:w3.cell? ⟨N2,3,none⟩=some (.bool b4):=z0a gp rfl
 have p4:w3.cell? ⟨N2,4,none⟩=some (.bool b5):=z0a gp rfl
 have p5:w3.cell? ⟨N2,5,none⟩=some (.bool b6):=z0a gp rfl
 have c1:w3.cell? ⟨B,1,none⟩=some (.int .u32 r.sg):=z0a gx rfl
 have c2:w3.cell? ⟨B,2,none⟩=some (.int .u32 r.tx):=z0a gx rfl
 have HGX:=hid gx
 clear gp gx
 cases b0
 case false =>
  go_wp2_with (first | ((try rw [HNN.out]);(with_reducible refine z0e #[.bool b1,.bool b2,.bool b3,.bool b4,.bool b5,.bool b6] HS6.out HA6.out HPZ.out ?_ ?_ ?_);rfl;rfl;rw [HWN.out]) | ((with_reducible refine z0n HGX.out ?_ ?_ ?_);rfl;rfl))
  go_ret
  exact⟨by rw [HR.out];rfl,HB3.out⟩
 cases hq1:(b1==(r.sg != 0))
 case false =>
  go_wp2_with (first | ((try rw [HNN.out]);(with_reducible refine z0e #[.bool b1,.bool b2,.bool b3,.bool b4,.bool b5,.bool b6] HS6.out HA6.out HPZ.out ?_ ?_ ?_);rfl;rfl;rw [HWN.out]) | ((with_reducible refine z0n HGX.out ?_ ?_ ?_);rfl;rfl))
  go_ret
  exact⟨by rw [HR.out,hq1];rfl,HB3.out⟩
 cases hq2:(b2==(r.tx != 0))
 case false =>
  go_wp2_with (first | ((try rw [HNN.out]);(with_reducible refine z0e #[.bool b1,.bool b2,.bool b3,.bool b4,.bool b5,.bool b6] HS6.out HA6.out HPZ.out ?_ ?_ ?_);rfl;rfl;rw [HWN.out]) | ((with_reducible refine z0n HGX.out ?_ ?_ ?_);rfl;rfl))
  go_ret
  exact⟨by rw [HR.out,hq1,hq2];rfl,HB3.out⟩
 have HQ:=hid (And.intro hq1 hq2)
 go_wp2_with (first | ((try rw [HNN.out]);(with_reducible refine z0e #[.bool b1,.bool b2,.bool b3,.bool b4,.bool b5,.bool b6] HS6.out HA6.out HPZ.out ?_ ?_ ?_);rfl;rfl;rw [HWN.out]) | ((with_reducible refine z0n HGX.out ?_ ?_ ?_);rfl;rfl))
 refine (HCS.out _).mono ?_
 rintro e w4 ⟨rfl,h4⟩
 have HB4:=hid (HB3.out.trans (h4.mono HB3.out.size))
 have HD4:Hid (Below w3.heap.size w3 w4):=hid h4
 clear h4
 clear p0 p1 p2 p3 p4 p5 c1 c2
 clear HGX
 have gp:=z0c HPX.out HD4.out
 have gx:=HX3.out.later HD4.out
 have p0:w4.cell? ⟨N2,0,none⟩=some (.bool b1):=z0a gp rfl
 have p1:w4.cell? ⟨N2,1,none⟩=some (.bool b2):=z0a gp rfl
 have p2:w4.cell? ⟨N2,2,none⟩=some (.bool b3):=z0a gp rfl
 have p3:w4.cell? ⟨N2,3,none⟩=some (.bool b4):=z0a gp rfl
 have p4:w4.cell? ⟨N2,4,none⟩=some (.bool b5):=z0a gp rfl
 have p5:w4.cell? ⟨N2,5,none⟩=some (.bool b6):=z0a gp rfl
 have c1:w4.cell? ⟨B,1,none⟩=some (.int .u32 r.sg):=z0a gx rfl
 have c2:w4.cell? ⟨B,2,none⟩=some (.int .u32 r.tx):=z0a gx rfl
 have HGX:=hid gx
 clear gp gx
 clear hq1 hq2
 cases s
 case false =>
  go_wp2_with ((with_reducible refine z0n HGX.out ?_ ?_ ?_);rfl;rfl)
  go_ret
  exact⟨by rw [HR.out,HQ.out.1,HQ.out.2];rfl,HB4.out⟩
 go_wp2_with ((with_reducible refine z0n HGX.out ?_ ?_ ?_);rfl;rfl)
 refine (HCA.out _).mono ?_
 rintro e w5 ⟨rfl,h5⟩
 have HB5:=hid (HB4.out.trans (h5.mono HB4.out.size))
 have HD5:Hid (Below w3.heap.size w3 w5):=hid (HD4.out.trans (h5.mono HD4.out.size))
 clear h5
 clear p0 p1 p2 p3 p4 p5 c1 c2
 clear HGX
 have gp:=z0c HPX.out HD5.out
 have gx:=HX3.out.later HD5.out
 have p0:w5.cell? ⟨N2,0,none⟩=some (.bool b1):=z0a gp rfl
 have p1:w5.cell? ⟨N2,1,none⟩=some (.bool b2):=z0a gp rfl
 have p2:w5.cell? ⟨N2,2,none⟩=some (.bool b3):=z0a gp rfl
 have p3:w5.cell? ⟨N2,3,none⟩=some (.bool b4):=z0a gp rfl
 have p4:w5.cell? ⟨N2,4,none⟩=some (.bool b5):=z0a gp rfl
 have p5:w5.cell? ⟨N2,5,none⟩=some (.bool b6):=z0a gp rfl
 have c1:w5.cell? ⟨B,1,none⟩=some (.int .u32 r.sg):=z0a gx rfl
 have c2:w5.cell? ⟨B,2,none⟩=some (.int .u32 r.tx):=z0a gx rfl
 have HGX:=hid gx
 clear gp gx
 cases a
 case false =>
  go_wp2_with ((with_reducible refine z0n HGX.out ?_ ?_ ?_);rfl;rfl)
  go_ret
  exact⟨by rw [HR.out,HQ.out.1,HQ.out.2];rfl,HB5.out⟩
 go_wp2_with ((with_reducible refine z0n HGX.out ?_ ?_ ?_);rfl;rfl)
 refine (HCO.out _).mono ?_
 rintro e w6 ⟨rfl,h6⟩
 have HB6:=hid (HB5.out.trans (h6.mono HB5.out.size))
 have HD6:Hid (Below w3.heap.size w3 w6):=hid (HD5.out.trans (h6.mono HD5.out.size))
 clear h6
 clear p0 p1 p2 p3 p4 p5 c1 c2
 clear HGX
 have gp:=z0c HPX.out HD6.out
 have gx:=HX3.out.later HD6.out
 have p0:w6.cell? ⟨N2,0,none⟩=some (.bool b1):=z0a gp rfl
 have p1:w6.cell? ⟨N2,1,none⟩=some (.bool b2):=z0a gp rfl
 have p2:w6.cell? ⟨N2,2,none⟩=some (.bool b3):=z0a gp rfl
 have p3:w6.cell? ⟨N2,3,none⟩=some (.bool b4):=z0a gp rfl
 have p4:w6.cell? ⟨N2,4,none⟩=some (.bool b5):=z0a gp rfl
 have p5:w6.cell? ⟨N2,5,none⟩=some (.bool b6):=z0a gp rfl
 have c1:w6.cell? ⟨B,1,none⟩=some (.int .u32 r.sg):=z0a gx rfl
 have c2:w6.cell? ⟨B,2,none⟩=some (.int .u32 r.tx):=z0a gx rfl
 have HGX:=hid gx
 clear gp gx
 cases o
 case false =>
  go_wp2_with ((with_reducible refine z0n HGX.out ?_ ?_ ?_);rfl;rfl)
  go_ret
  exact⟨by rw [HR.out,HQ.out.1,HQ.out.2];rfl,HB6.out⟩
 go_wp2_with ((with_reducible refine z0n HGX.out ?_ ?_ ?_);rfl;rfl)
 refine (HCP.out _ HB6.out).mono ?_
 rintro e w7 ⟨rfl,h7⟩
 have HB7:=hid (HB6.out.trans (h7.mono HB6.out.size))
 clear h7
 clear p0 p1 p2 p3 p4 p5 c1 c2
 go_wp2_with fail
 go_ret
 exact⟨by rw [HR.out,HQ.out.1,HQ.out.2];rfl,HB7.out⟩
theorem results_cr2 {fn:Func} (h:fn.results=#[.cell 2 46,.tmp 3]) (tmps:Array Value) (W:World) (R:Nat) (c:Cv) (v:Value) (hp:tmps.getD 2 undef=.pointer (some ⟨R,0,none⟩)) (hv:tmps.getD 3 undef=v)
 (hB:CB W R c):(results fn tmps).run Tryd.prog W=.ok (.tuple #[.agg (ccs c),v]) W:=by
 rw [results_cell_tmp h,hp,hv]
 simp [asAddr,Result.andThen,run_loadVar_row W R 46 46 (ccs c) (0,0) _ hB Tryd.underlying46 rfl (by kernel_rfl)]
def NewP (W:World) (p:Rv):Prop:=(∀ a,p.lp=some a→W.heap.size≤a.block)∧(∀ a,p.tp=some a→W.heap.size≤a.block)∧(∀ a,p.wp=some a→W.heap.size≤a.block)
def GivesCrN (W:World) (x:Crs) (z:Int) (e:Ending) (w':World):Prop:=∃ (c:Cv) (L:List Ln) (T:List Tk) (M:List Ln),e=.returned (.tuple #[.agg (ccs c),.int .i64 z])∧CvM w' c L T M∧c.x L T M=x∧Below W.heap.size W w'∧NewP W c.p
def prV (P:Pg) (lp:Option Addr) (lc:Nat) (tp:Option Addr) (tc:Nat) (wp:Option Addr) (wc:Nat):Rv:=⟨0,0,0,0,false,0,0,0,0,0,P.kind,P.order,P.policy,lp,P.lines.length,lc,tp,P.takes.length,tc,wp,P.owes.length,wc,P.sku,P.frm,P.to,P.qty⟩
theorem pgm_set {w:World} {p:Rv} {L:List Ln} {T:List Tk} {M:List Ln} (h:RvM w p L T M) {R:Nat} (cs:Array Value) (h1:∀ a,p.lp=some a→a.block≠R) (h2:∀ a,p.tp=some a→a.block≠R) (h3:∀ a,p.wp=some a→a.block≠R):RvM (w.setRow R cs) p L T M :=
 ⟨h.l.turn (by simp [World.setRow]) fun _ a ha _=>setRow_other _ _ _ _ (h1 a ha),h.t.turn (by simp [World.setRow]) fun _ a ha _=>setRow_other _ _ _ _ (h2 a ha),h.o.turn (by simp [World.setRow]) fun _ a ha _=>setRow_other _ _ _ _ (h3 a ha)⟩
theorem cr_two8 (W:World) (c:Cv) (t:Tv):∃ W1,(W.alloc (.cells (ccs c) 46)).alloc (.cells #[.int .u32 t.c.id,.int .u32 t.c.sg,.int .u8 t.c.st,.bool t.c.cp,.bool t.c.dd,.slice t.p t.n t.m,.int .i64 t.c.fs,.int .i64 t.c.sz] 53)=W1∧CB W1 W.heap.size c∧W1.heap[W.heap.size+1]?=some (.cells #[.int .u32 t.c.id,.int .u32 t.c.sg,.int .u8 t.c.st,.bool t.c.cp,.bool t.c.dd,.slice t.p t.n t.m,.int .i64 t.c.fs,.int .i64 t.c.sz] 53 (0,0))∧Below W.heap.size W W1:=by
 have hb0:Below W.heap.size W (W.alloc (.cells (ccs c) 46)):=(Below.refl _ _).alloc (Nat.le_refl _) _
 have hs:(W.alloc (.cells (ccs c) 46)).heap.size=W.heap.size+1:=by simp only [World.alloc,Array.size_push]
 have hb1:Below (W.alloc (.cells (ccs c) 46)).heap.size (W.alloc (.cells (ccs c) 46)) ((W.alloc (.cells (ccs c) 46)).alloc (.cells #[.int .u32 t.c.id,.int .u32 t.c.sg,.int .u8 t.c.st,.bool t.c.cp,.bool t.c.dd,.slice t.p t.n t.m,.int .i64 t.c.fs,.int .i64 t.c.sz] 53)):=(Below.refl _ _).alloc (Nat.le_refl _) _
 refine⟨_,rfl,(CB.new W c).later hb1,?_,hb0.trans (hb1.mono hb0.size)⟩
 have h:=z0b (W.alloc (.cells (ccs c) 46)) (.cells #[.int .u32 t.c.id,.int .u32 t.c.sg,.int .u8 t.c.st,.bool t.c.cp,.bool t.c.dd,.slice t.p t.n t.m,.int .i64 t.c.fs,.int .i64 t.c.sz] 53)
 rw [hs] at h
 exact h
def z2d (W:World) (Y:List Nat) (e:Ending) (w':World):Prop:=∃ p c,e=.returned (.tuple #[.slice p Y.length c,.int .i64 0])∧Sl w' p Y.length c Y∧Below W.heap.size W w'
theorem wo_num1 {W w:World} {B:Nat} {L:List Nat} (h:WrOk W w B 512 (0,L)) (x:Int) (h0:0≤x∧x≤255) (hl:L.length+1≤512):Calls Tryd.prog 37 #[.pointer (some ⟨B,0,none⟩),.int .u64 x,.int .i64 1] w (WrotOk W B 512 (0,L++le x.toNat 1)):=by
 refine h.step fun v hv=>?_
 have:=num_w B v L x.toNat 1 w hv (by omega) (by omega) (by omega) hl
 rw [Int.toNat_of_nonneg h0.1] at this
 exact this
theorem wo_num4 {W w:World} {B:Nat} {L:List Nat} (h:WrOk W w B 512 (0,L)) (x:Int) (h0:0≤x∧x≤4294967295) (hl:L.length+4≤512):Calls Tryd.prog 37 #[.pointer (some ⟨B,0,none⟩),.int .u64 x,.int .i64 4] w (WrotOk W B 512 (0,L++le x.toNat 4)):=by
 refine h.step fun v hv=>?_
 have:=num_w B v L x.toNat 4 w hv (by omega) (by omega) (by omega) hl
 rw [Int.toNat_of_nonneg h0.1] at this
 exact this
theorem wo_int {W w:World} {B:Nat} {L:List Nat} (h:WrOk W w B 512 (0,L)) (q:Int) (hq:In64 q) (hl:L.length+8≤512):Calls Tryd.prog 40 #[.pointer (some ⟨B,0,none⟩),.int .i64 q] w (WrotOk W B 512 (0,L++le (u64 q) 8)) :=
 h.step fun v hv=>int_w B v L q w hv hq hl
theorem bit_bitN (b:Bool):bit b=bitN b:=rfl
theorem wo_bool {W w:World} {B:Nat} {L:List Nat} (h:WrOk W w B 512 (0,L)) (b:Bool) (hl:L.length+1≤512):Calls Tryd.prog 38 #[.pointer (some ⟨B,0,none⟩),.bool b] w (WrotOk W B 512 (0,L ++ [bitN b])):=by
 refine h.step fun v hv=>?_
 have:=bool_wr B v 512 (0,L) b w hv (by omega) (by omega) (by dsimp only;omega)
 rwa [rawW_fit (by simpa using hl),bit_bitN] at this
theorem wo_raw {W w:World} {B:Nat} {L:List Nat} (h:WrOk W w B 512 (0,L)) (p:Option Addr) (m c:Nat) (M:List Nat) (hs:Sl w p m c M) (hl:L.length+m≤512):Calls Tryd.prog 39 #[.pointer (some ⟨B,0,none⟩),.slice p m c] w (WrotOk W B 512 (0,L++M)):=by
 refine h.step fun v hv=>?_
 have:=raw_any B v 512 (0,L) w hv p m c M hs (by omega) (by omega) (by dsimp only;omega)
 rwa [rawW_fit (by rw [hs.len];exact hl)] at this
theorem wo_bytes {W w:World} {B:Nat} {L:List Nat} (h:WrOk W w B 512 (0,L)) (p:Option Addr) (m c:Nat) (M:List Nat) (hs:Sl w p m c M) (hl:L.length+(m+2)≤512):Calls Tryd.prog 42 #[.pointer (some ⟨B,0,none⟩),.slice p m c] w (WrotOk W B 512 (0,L++(le M.length 2++M))):=by
 refine h.step fun v hv=>?_
 have:=bytes_wr B v 512 (0,L) p m c M w hv hs (by omega) (by omega) (by dsimp only;omega) (by omega)
 have e:bytesW 512 (0,L) M=(0,L++(le M.length 2++M)):=by
  unfold bytesW
  have:=hs.len
  rw [if_neg (by omega),rawW_fit (by rw [List.length_append,z0h];omega)]
 rwa [e] at this
theorem sl_three (x y z:Int) (hx:0≤x∧x≤255) (hy:0≤y∧y≤255) (hz:0≤z∧z≤255) (w:World):Sl (w.alloc (.cells #[.int .u8 x,.int .u8 y,.int .u8 z] 5)) (some ⟨w.heap.size,0,none⟩) 3 3 (keyB (x,y,z)) :=
 ⟨rfl,Nat.le_refl _,(fun h=>by cases h),(fun u hu=>by simp [keyB] at hu;omega),fun _=>⟨_,0,rfl,fun j hj=>by
  match j,hj with
  | 0,_=>simp [keyB];omega
  | 1,_=>simp [keyB];omega
  | 2,_=>simp [keyB];omega⟩⟩
theorem z0i {x:Int} (h:0≤x∧x≤4294967295):IntKind.u64.wrap x=x:=by simp [IntKind.wrap,IntKind.bits,IntKind.signed];omega
end Go.Proofs.YtclbkfpbdidaiaaDoor
