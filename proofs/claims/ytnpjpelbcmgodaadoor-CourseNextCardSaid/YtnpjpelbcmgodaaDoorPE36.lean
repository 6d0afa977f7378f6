import Derived.Test.YtnpjpelbcmgodaaDoorPE35
import Derived.Test.YtnpjpelbcmgodaaDoorPE34
import Derived.Test.YtnpjpelbcmgodaaDoorPE21
namespace Go.Proofs.YtnpjpelbcmgodaaDoor
open Go.Lib (hid)
set_option maxHeartbeats 16000000
open Go.RowKit Go.ChangeShapes Go.WideShapes
set_option linter.unusedVariables false
set_option linter.unusedSimpArgs false
set_option maxRecDepth 10000
theorem rec_good (r:Rv) (L:List Ln) (T:List Tk) (M:List Ln) (W:World) (hw:Words W) (hP:RvM W r L T M) (hok:Rxok (r.x L T M)) (h1:r.ln≤400∧r.tn≤400∧r.wn≤400):Calls Tryd.prog 32 #[.agg (rcs r)] W fun e w'=>e=.returned (.bool (z7s (r.x L T M)))∧Below W.heap.size W w':=by
 obtain⟨W1,hW1,hb1⟩:∃ W1,W.alloc (.cells (rcs r) 32)=W1∧Below W.heap.size W W1:=⟨_,rfl,(Below.refl _ _).alloc (Nat.le_refl _) _⟩
 obtain⟨B,hB⟩:∃ B,W.heap.size=B:=⟨_,rfl⟩
 have hrb:=RB.new W r
 rw [hW1,hB] at hrb
 have HX1:=hid hrb
 have HW1:=hid hW1
 have HB1:=hid hb1
 have HRE:=hid hB
 have c0:W1.cell? ⟨B,0,none⟩=some (.int .u8 r.k):=z0b hrb rfl
 clear hW1 hb1 hB hrb
 obtain⟨b0,hb0⟩:∃ b,kOk r.k=b:=⟨_,rfl⟩
 obtain⟨b1,hb1⟩:∃ b,kS r.k=b:=⟨_,rfl⟩
 obtain⟨b2,hb2⟩:∃ b,kT r.k=b:=⟨_,rfl⟩
 obtain⟨b3,hb3⟩:∃ b,kB r.k=b:=⟨_,rfl⟩
 obtain⟨b4,hb4⟩:∃ b,kA r.k=b:=⟨_,rfl⟩
 obtain⟨b5,hb5⟩:∃ b,kO r.k=b:=⟨_,rfl⟩
 obtain⟨b6,hb6⟩:∃ b,kP r.k=b:=⟨_,rfl⟩
 have hpt:ptc r.k=#[.bool b1,.bool b2,.bool b3,.bool b4,.bool b5,.bool b6]:=by unfold ptc;rw [hb1,hb2,hb3,hb4,hb5,hb6]
 have hpa:=parts_any r.k W1
 unfold z3a at hpa
 rw [hpt,hb0] at hpa
 obtain⟨s,hs⟩:∃ y,z8j b3 r.st r.cp=y:=⟨_,rfl⟩
 obtain⟨a,ha⟩:∃ y,addB b4 (r.ka,r.kb,r.kc) r.d=y:=⟨_,rfl⟩
 obtain⟨o,ho⟩:∃ y,outB b5 r.o=y:=⟨_,rfl⟩
 obtain⟨p,hp⟩:∃ y,z8t b6 (r.pg L T M)=y:=⟨_,rfl⟩
 have HR:Hid (z7s (r.x L T M)=(b0 && (b1==(r.sg != 0)) && (b2==(r.tx != 0)) && s && a && o && p)):=hid (by
  rw [← hs,← ha,← ho,← hp,← hb0,← hb1,← hb2,← hb3,← hb4,← hb5,← hb6]
  rfl)
 have HCS:=hid (fun W=>gstep_any b3 r W)
 have HCA:=hid (fun W=>gadd_any b4 r ⟨hok.key.2.1,hok.key.2.2⟩ W)
 have HCO:=hid (fun W=>gout_any b5 r W)
 have HCP:=hid (fun W' (hb:Below W.heap.size W W')=>gprog_any b6 r L T M W' (hw.later hb) (hP.later hb) hok.pg h1)
 rw [hs] at HCS
 rw [ha] at HCA
 rw [ho] at HCO
 rw [hp] at HCP
 clear hpt hb0 hb1 hb2 hb3 hb4 hb5 hb6 hs ha ho hp hw hP hok h1
 go_enter Tryd.func32,Tryd.ntmps32
 go_upto_region 1 with (fail)
 rw [HW1.out,HRE.out]
 go_wp2_with fail
 refine hpa.mono ?_
 rintro e w2 ⟨rfl,h2⟩
 have HB2:=hid (HB1.out.trans (h2.mono HB1.out.size))
 have HX2:=hid (HX1.out.later h2)
 clear h2 hpa c0
 obtain⟨N2,hN2⟩:∃ n,w2.heap.size=n:=⟨_,rfl⟩
 obtain⟨w3,hwn,hxn,hbn⟩:∃ w3,(w2.alloc (.cells pz 83)).setRow N2 #[.bool b1,.bool b2,.bool b3,.bool b4,.bool b5,.bool b6]=w3∧w3.heap[N2]?=some (.cells #[.bool b1,.bool b2,.bool b3,.bool b4,.bool b5,.bool b6] 83 (0,0))∧Below w2.heap.size w2 w3:=⟨_,rfl,by rw [← hN2];exact setRow_heap _ _ _ _ _ _ (z0d w2 _),below_setRow ((Below.refl _ _).alloc (Nat.le_refl _) _) (by omega) _⟩
 have hx2:=z0d w2 (.cells pz 83)
 rw [hN2] at hx2
 have HPX:=hid hxn
 have HPZ:=hid hx2
 have HBN:=hid hbn
 have HWN:=hid hwn
 have HNN:=hid hN2
 have HS6:Hid ((#[.bool b1,.bool b2,.bool b3,.bool b4,.bool b5,.bool b6]:Array Value).size=6):=hid rfl
 have HA6:Hid ((#[.bool b1,.bool b2,.bool b3,.bool b4,.bool b5,.bool b6]:Array Value).all (·.oneCell')=true):=hid (by simp [Value.oneCell'])
 clear hx2 hxn hbn hwn hN2
 have HB3:=hid (HB2.out.trans (HBN.out.mono HB2.out.size))
 have HX3:=hid (HX2.out.later HBN.out)
 have gp:=z0a HPX.out (Below.refl _ _)
 have gx:=HX3.out.later (Below.refl _ _)
 have p0:w3.cell? ⟨N2,0,none⟩=some (.bool b1):=z0b gp rfl
 have p1:w3.cell? ⟨N2,1,none⟩=some (.bool b2):=z0b gp rfl
 have p2:w3.cell? ⟨N2,2,none⟩=some (.bool b3):=z0b gp rfl
 have p3:w3.cell? ⟨N2,3,none⟩=some (.bool b4):=z0b gp rfl
 have p4:w3.cell? ⟨N2,4,none⟩=some (.bool b5):=z0b gp rfl
 have p5:w3.cell? ⟨N2,5,none⟩=some (.bool b6):=z0b gp rfl
 have c1:w3.cell? ⟨B,1,none⟩=some (.int .u32 r.sg):=z0b gx rfl
 have c2:w3.cell? ⟨B,2,none⟩=some (.int .u32 r.tx):=z0b gx rfl
 have HGX:=hid gx
 clear gp gx
 cases b0
 case false =>
  go_wp2_with (first | ((try rw [HNN.out]);(with_reducible refine z0s #[.bool b1,.bool b2,.bool b3,.bool b4,.bool b5,.bool b6] HS6.out HA6.out HPZ.out ?_ ?_ ?_);rfl;rfl;rw [HWN.out]) | ((with_reducible refine z0v HGX.out ?_ ?_ ?_);rfl;rfl))
  go_ret
  exact⟨by rw [HR.out];rfl,HB3.out⟩
 cases hq1:(b1==(r.sg != 0))
 case false =>
  go_wp2_with (first | ((try rw [HNN.out]);(with_reducible refine z0s #[.bool b1,.bool b2,.bool b3,.bool b4,.bool b5,.bool b6] HS6.out HA6.out HPZ.out ?_ ?_ ?_);rfl;rfl;rw [HWN.out]) | ((with_reducible refine z0v HGX.out ?_ ?_ ?_);rfl;rfl))
  go_ret
  exact⟨by rw [HR.out,hq1];rfl,HB3.out⟩
 cases hq2:(b2==(r.tx != 0))
 case false =>
  go_wp2_with (first | ((try rw [HNN.out]);(with_reducible refine z0s #[.bool b1,.bool b2,.bool b3,.bool b4,.bool b5,.bool b6] HS6.out HA6.out HPZ.out ?_ ?_ ?_);rfl;rfl;rw [HWN.out]) | ((with_reducible refine z0v HGX.out ?_ ?_ ?_);rfl;rfl))
  go_ret
  exact⟨by rw [HR.out,hq1,hq2];rfl,HB3.out⟩
 have HQ:=hid (And.intro hq1 hq2)
 go_wp2_with (first | ((try rw [HNN.out]);(with_reducible refine z0s #[.bool b1,.bool b2,.bool b3,.bool b4,.bool b5,.bool b6] HS6.out HA6.out HPZ.out ?_ ?_ ?_);rfl;rfl;rw [HWN.out]) | ((with_reducible refine z0v HGX.out ?_ ?_ ?_);rfl;rfl))
 refine (HCS.out _).mono ?_
 rintro e w4 ⟨rfl,h4⟩
 have HB4:=hid (HB3.out.trans (h4.mono HB3.out.size))
 have HD4:Hid (Below w3.heap.size w3 w4):=hid h4
 clear h4
 clear p0 p1 p2 p3 p4 p5 c1 c2
 clear HGX
 have gp:=z0a HPX.out HD4.out
 have gx:=HX3.out.later HD4.out
 have p0:w4.cell? ⟨N2,0,none⟩=some (.bool b1):=z0b gp rfl
 have p1:w4.cell? ⟨N2,1,none⟩=some (.bool b2):=z0b gp rfl
 have p2:w4.cell? ⟨N2,2,none⟩=some (.bool b3):=z0b gp rfl
 have p3:w4.cell? ⟨N2,3,none⟩=some (.bool b4):=z0b gp rfl
 have p4:w4.cell? ⟨N2,4,none⟩=some (.bool b5):=z0b gp rfl
 have p5:w4.cell? ⟨N2,5,none⟩=some (.bool b6):=z0b gp rfl
 have c1:w4.cell? ⟨B,1,none⟩=some (.int .u32 r.sg):=z0b gx rfl
 have c2:w4.cell? ⟨B,2,none⟩=some (.int .u32 r.tx):=z0b gx rfl
 have HGX:=hid gx
 clear gp gx
 clear hq1 hq2
 cases s
 case false =>
  go_wp2_with ((with_reducible refine z0v HGX.out ?_ ?_ ?_);rfl;rfl)
  go_ret
  exact⟨by rw [HR.out,HQ.out.1,HQ.out.2];rfl,HB4.out⟩
 go_wp2_with ((with_reducible refine z0v HGX.out ?_ ?_ ?_);rfl;rfl)
 refine (HCA.out _).mono ?_
 rintro e w5 ⟨rfl,h5⟩
 have HB5:=hid (HB4.out.trans (h5.mono HB4.out.size))
 have HD5:Hid (Below w3.heap.size w3 w5):=hid (HD4.out.trans (h5.mono HD4.out.size))
 clear h5
 clear p0 p1 p2 p3 p4 p5 c1 c2
 clear HGX
 have gp:=z0a HPX.out HD5.out
 have gx:=HX3.out.later HD5.out
 have p0:w5.cell? ⟨N2,0,none⟩=some (.bool b1):=z0b gp rfl
 have p1:w5.cell? ⟨N2,1,none⟩=some (.bool b2):=z0b gp rfl
 have p2:w5.cell? ⟨N2,2,none⟩=some (.bool b3):=z0b gp rfl
 have p3:w5.cell? ⟨N2,3,none⟩=some (.bool b4):=z0b gp rfl
 have p4:w5.cell? ⟨N2,4,none⟩=some (.bool b5):=z0b gp rfl
 have p5:w5.cell? ⟨N2,5,none⟩=some (.bool b6):=z0b gp rfl
 have c1:w5.cell? ⟨B,1,none⟩=some (.int .u32 r.sg):=z0b gx rfl
 have c2:w5.cell? ⟨B,2,none⟩=some (.int .u32 r.tx):=z0b gx rfl
 have HGX:=hid gx
 clear gp gx
 cases a
 case false =>
  go_wp2_with ((with_reducible refine z0v HGX.out ?_ ?_ ?_);rfl;rfl)
  go_ret
  exact⟨by rw [HR.out,HQ.out.1,HQ.out.2];rfl,HB5.out⟩
 go_wp2_with ((with_reducible refine z0v HGX.out ?_ ?_ ?_);rfl;rfl)
 refine (HCO.out _).mono ?_
 rintro e w6 ⟨rfl,h6⟩
 have HB6:=hid (HB5.out.trans (h6.mono HB5.out.size))
 have HD6:Hid (Below w3.heap.size w3 w6):=hid (HD5.out.trans (h6.mono HD5.out.size))
 clear h6
 clear p0 p1 p2 p3 p4 p5 c1 c2
 clear HGX
 have gp:=z0a HPX.out HD6.out
 have gx:=HX3.out.later HD6.out
 have p0:w6.cell? ⟨N2,0,none⟩=some (.bool b1):=z0b gp rfl
 have p1:w6.cell? ⟨N2,1,none⟩=some (.bool b2):=z0b gp rfl
 have p2:w6.cell? ⟨N2,2,none⟩=some (.bool b3):=z0b gp rfl
 have p3:w6.cell? ⟨N2,3,none⟩=some (.bool b4):=z0b gp rfl
 have p4:w6.cell? ⟨N2,4,none⟩=some (.bool b5):=z0b gp rfl
 have p5:w6.cell? ⟨N2,5,none⟩=some (.bool b6):=z0b gp rfl
 have c1:w6.cell? ⟨B,1,none⟩=some (.int .u32 r.sg):=z0b gx rfl
 have c2:w6.cell? ⟨B,2,none⟩=some (.int .u32 r.tx):=z0b gx rfl
 have HGX:=hid gx
 clear gp gx
 cases o
 case false =>
  go_wp2_with ((with_reducible refine z0v HGX.out ?_ ?_ ?_);rfl;rfl)
  go_ret
  exact⟨by rw [HR.out,HQ.out.1,HQ.out.2];rfl,HB6.out⟩
 go_wp2_with ((with_reducible refine z0v HGX.out ?_ ?_ ?_);rfl;rfl)
 refine (HCP.out _ HB6.out).mono ?_
 rintro e w7 ⟨rfl,h7⟩
 have HB7:=hid (HB6.out.trans (h7.mono HB6.out.size))
 clear h7
 clear p0 p1 p2 p3 p4 p5 c1 c2
 go_wp2_with fail
 go_ret
 exact⟨by rw [HR.out,HQ.out.1,HQ.out.2];rfl,HB7.out⟩
theorem z3q {fn:Func} (h:fn.results=#[.cell 4 28,.tmp 5]) (tmps:Array Value) (W:World) (R:Nat) (c:Cv) (v:Value) (hp:tmps.getD 4 undef=.pointer (some ⟨R,0,none⟩)) (hv:tmps.getD 5 undef=v)
 (hB:CB W R c):(results fn tmps).run Tryd.prog W=.ok (.tuple #[.agg (ccs c),v]) W:=by
 rw [results_cell_tmp h,hp,hv]
 simp [asAddr,Result.andThen,run_loadVar_row W R 28 28 (ccs c) (0,0) _ hB Tryd.underlying28 rfl (by kernel_rfl)]
theorem z4x {fn:Func} (h:fn.results=#[.cell 2 28,.tmp 3]) (tmps:Array Value) (W:World) (R:Nat) (c:Cv) (v:Value) (hp:tmps.getD 2 undef=.pointer (some ⟨R,0,none⟩)) (hv:tmps.getD 3 undef=v)
 (hB:CB W R c):(results fn tmps).run Tryd.prog W=.ok (.tuple #[.agg (ccs c),v]) W:=by
 rw [results_cell_tmp h,hp,hv]
 simp [asAddr,Result.andThen,run_loadVar_row W R 28 28 (ccs c) (0,0) _ hB Tryd.underlying28 rfl (by kernel_rfl)]
def z8e (W:World) (x:Crs) (z:Int) (e:Ending) (w':World):Prop:=∃ (c:Cv) (L:List Ln) (T:List Tk) (M:List Ln),e=.returned (.tuple #[.agg (ccs c),.int .i64 z])∧CvM w' c L T M∧c.x L T M=x∧Below W.heap.size W w'
def prV (P:Pg) (lp:Option Addr) (lc:Nat) (tp:Option Addr) (tc:Nat) (wp:Option Addr) (wc:Nat):Rv:=⟨0,0,0,0,false,0,0,0,0,0,P.kind,P.order,P.policy,lp,P.lines.length,lc,tp,P.takes.length,tc,wp,P.owes.length,wc,P.sku,P.frm,P.to,P.qty⟩
theorem z4a {w:World} {p:Rv} {L:List Ln} {T:List Tk} {M:List Ln} (h:RvM w p L T M) {R:Nat} (cs:Array Value) (h1:∀ a,p.lp=some a→a.block≠R) (h2:∀ a,p.tp=some a→a.block≠R) (h3:∀ a,p.wp=some a→a.block≠R):RvM (w.setRow R cs) p L T M :=
 ⟨h.l.turn (by simp [World.setRow]) fun _ a ha _=>setRow_other _ _ _ _ (h1 a ha),h.t.turn (by simp [World.setRow]) fun _ a ha _=>setRow_other _ _ _ _ (h2 a ha),h.o.turn (by simp [World.setRow]) fun _ a ha _=>setRow_other _ _ _ _ (h3 a ha)⟩
theorem cr_apply (c:Cv) (L:List Ln) (T:List Tk) (M:List Ln) (W:World) (hw:Words W) (hP:CvM W c L T M) (hok:Crok (c.x L T M)) (h1:c.p.ln≤400∧c.p.tn≤400∧c.p.wn≤400) (r:Rv) (La:List Ln) (Ta:List Tk) (Ma:List Ln) (hR:RvM W r La Ta Ma) (hrk:Rxok (r.x La Ta Ma)) (h2:r.ln≤400∧r.tn≤400∧r.wn≤400):Calls Tryd.prog 9 #[.agg (ccs c),.agg (rcs r)] W (z8e W (appX (c.x L T M) (r.x La Ta Ma)).1 (appX (c.x L T M) (r.x La Ta Ma)).2):=by
 obtain⟨W1,hW1,hx,hy,hz,hb1⟩:∃ W1,((W.alloc (.cells (ccs c) 28)).alloc (.cells (rcs r) 32)).alloc (.cells #[.int .u32 0,.int .u8 0,.int .u32 0,.int .u8 0,.slice none 0 0,.slice none 0 0,.slice none 0 0,.int .u8 0,.int .u8 0,.int .u8 0,.int .i64 0,.bool false,.int .i64 0,.int .i64 0,.int .u32 0] 28)=W1∧CB W1 W.heap.size c∧RB W1 (W.heap.size+1) r∧CB W1 (W.heap.size+2) cz∧Below W.heap.size W W1:=cr_three W c r
 obtain⟨B,hB⟩:∃ B,W.heap.size=B:=⟨_,rfl⟩
 rw [hB] at hx hy hz
 have HX:=hid hx
 have HY:=hid hy
 have HZ:=hid hz
 have HW1:=hid hW1
 have HB1:=hid hb1
 have HRE:=hid hB
 have hcp:=copy_p2 c.p.pk c.p.od c.p.po c.p.lp c.p.ln c.p.lcp c.p.tp c.p.tn c.p.tcp c.p.wp c.p.wn c.p.wcp c.p.sk c.p.fr c.p.to c.p.q L T M W1 (hP.later hb1) ⟨by omega,by omega,by omega⟩
 have HW:=hid fun w' (hb:Below W.heap.size W w')=>hw.later hb
 have HR:=hid fun w' (hb:Below W.heap.size W w')=>rec_good r La Ta Ma w' (hw.later hb) (hR.later hb) hrk h2
 have hll:=hP.l.len
 have htl:=hP.t.len
 have hol:=hP.o.len
 have HL:Hid (L.length≤400∧T.length≤400∧M.length≤400):=hid ⟨by omega,by omega,by omega⟩
 have HOK:=hid hok
 have HRK:=hid hrk
 have hsz:W1.heap.size=B+3:=by
  rw [← hW1]
  simp only [World.alloc,Array.size_push]
  omega
 have HSZ:=hid hsz
 have y0:=hy.at.1
 clear hW1 hx hy hz hb1 hB hw hP hok h1 hR hrk h2 hll htl hol hsz
 go_enter Tryd.func9,Tryd.ntmps9
 go_upto_region 1 with (fail)
 (rw [HW1.out,HRE.out];try rw [show B+1+1=B+2 from rfl])
 go_wp2_with ((with_reducible refine z1e HX.out ?_ ?_);rfl)
 refine hcp.mono ?_
 rintro e w2 ⟨lp,lc,tp,tc,wp,wc,rfl,hpm,_,ht2,hb2,hl2,ho2⟩
 obtain⟨p,hp⟩:∃ p,prV ⟨c.p.pk,c.p.od,c.p.po,L,T,M,c.p.sk,c.p.fr,c.p.to,c.p.q⟩ lp lc tp tc wp wc=p:=⟨_,rfl⟩
 have hpc:(#[.int .u8 c.p.pk,.int .u32 c.p.od,.int .u8 c.p.po,.slice lp L.length lc,.slice tp T.length tc,.slice wp M.length wc,.int .u8 c.p.sk,.int .u8 c.p.fr,.int .u8 c.p.to,.int .i64 c.p.q]:Array Value)=pcs p:=by rw [← hp];rfl
 have hq:RvM w2 p L T M:=by rw [← hp];exact hpm
 have HFA:Hid ((∀ a,p.lp=some a→a.block≠B+2)∧(∀ a,p.tp=some a→a.block≠B+2)∧(∀ a,p.wp=some a→a.block≠B+2)):=hid (by
  have h:=HSZ.out
  rw [← hp]
  exact⟨fun a ha=>by have:=hl2 a ha;omega,fun a ha=>by have:=ht2 a ha;omega,fun a ha=>by have:=ho2 a ha;omega⟩)
 have HFB:Hid ((∀ a,p.lp=some a→a.block≠B)∧(∀ a,p.tp=some a→a.block≠B)∧(∀ a,p.wp=some a→a.block≠B)):=hid (by
  have h:=HSZ.out
  rw [← hp]
  exact⟨fun a ha=>by have:=hl2 a ha;omega,fun a ha=>by have:=ht2 a ha;omega,fun a ha=>by have:=ho2 a ha;omega⟩)
 have HLN:Hid (p.ln≤400∧p.tn≤400∧p.wn≤400):=hid (by rw [← hp];exact HL.out)
 have HXX:Hid ((c.withP p).x L T M=c.x L T M):=hid (by rw [← hp];rfl)
 dsimp only
 rw [hpc]
 have HX2:=hid (HX.out.later hb2)
 have HY2:=hid (HY.out.later hb2)
 have HZ2:=hid (HZ.out.later hb2)
 have HB2:=hid (HB1.out.trans (hb2.mono HB1.out.size))
 have hc3:Chg (fun k=>k=B) w2 (w2.setRow B (ccs (c.withP p))):=⟨rfl,rfl,rfl,by simp [World.setRow],fun k _ hn=>setRow_other _ _ _ _ hn⟩
 have HX3:Hid (CB (w2.setRow B (ccs (c.withP p))) B (c.withP p)):=hid (HX2.out.set _)
 have HY3:Hid (RB (w2.setRow B (ccs (c.withP p))) (B+1) r):=hid (HY2.out.chg hc3 (by omega))
 have HZ3:Hid (CB (w2.setRow B (ccs (c.withP p))) (B+2) cz):=hid (HZ2.out.chg hc3 (by omega))
 have HB3:Hid (Below W.heap.size W (w2.setRow B (ccs (c.withP p)))):=hid (Chg.below HB2.out HB2.out.size hc3 fun k hk=>by rw [hk];exact Nat.le_of_eq HRE.out)
 have HQ3:Hid (RvM (w2.setRow B (ccs (c.withP p))) p L T M):=hid (z4a hq _ HFB.out.1 HFB.out.2.1 HFB.out.2.2)
 clear hpc hq hp hpm ht2 hb2 hl2 ho2 hc3 HX HY HZ HFB HL hcp y0
 go_upto_region 2 with ((with_reducible refine wpList_store_cp p HX2.out ?_ ?_ ?_);rfl;rfl)
 clear HX2 HY2 HZ2
 generalize w2.setRow B (ccs (c.withP p))=w3 at *
 have hpp:(c.withP p).p=p:=rfl
 obtain⟨cc,hcc⟩:∃ cc,c.withP p=cc:=⟨_,rfl⟩
 rw [hcc] at HX3 HXX hpp
 have HPP:=hid hpp
 have hgd:=z6r cc L T M w3 (HW.out _ HB3.out) (by show RvM w3 cc.p L T M;rw [hpp];exact HQ3.out) (by rw [HXX.out];exact HOK.out) (by rw [hpp];exact HLN.out)
 have HFT:=hid fun w' (hb:Below W.heap.size W w') (hq:RvM w' p L T M) (hg:z2d (cc.x L T M)=true)=>cr_fits cc L T M w' (HW.out _ hb) (by show RvM w' cc.p L T M;rw [HPP.out];exact hq) (by rw [HXX.out];exact HOK.out) (by rw [HPP.out];exact HLN.out) hg r La Ta Ma HRK.out.st
 have HAF:=hid fun w' h1 h2=>cr_after cc r w' h1 h2
 have HAX:=hid (aftV_x cc r L T M La Ta Ma)
 have HAP:=hid ((aftV_p cc r).trans hpp)
 rw [HXX.out] at hgd HFT HAX
 clear hpp hcc
 have HAPP:Hid (appX (c.x L T M) (r.x La Ta Ma)=if z2d (c.x L T M)=false then (c.x L T M,12) else if z7s (r.x La Ta Ma)=false∨r.k=1 then (c.x L T M,1) else if z7t (c.x L T M) (r.x La Ta Ma)=false then (c.x L T M,12) else (z8s (c.x L T M) (r.x La Ta Ma),0)):=hid rfl
 generalize appX (c.x L T M) (r.x La Ta Ma)=A at *
 have HTR:Hid (z2d (c.x L T M)=true→z7t (c.x L T M) (r.x La Ta Ma)=true→(-9223372036854775807≤cc.st∧cc.st<9223372036854775807)∧(r.k=5→0≤cc.tr∧cc.tr<9223372036854775807)):=hid fun hg hf=>by
  have e1:cc.st=(c.x L T M).st:=by rw [← HXX.out];rfl
  have e2:cc.tr=(c.x L T M).tr:=by rw [← HXX.out];rfl
  obtain⟨_,_,g3,g4,g5⟩:=z1q hg
  have hl:=z3i hg HOK.out.P
  refine⟨by rw [e1];omega,fun e=>?_⟩
  have hk:(r.x La Ta Ma).k=5:=e
  unfold z7t at hf
  simp [hk] at hf
  rw [e2]
  exact⟨g5,hf.2⟩
 cases hg:z2d (c.x L T M) with
 | false =>
  rw [hg] at hgd
  have HE:Hid (A=(c.x L T M,12)):=hid (by rw [HAPP.out,if_pos hg])
  clear HAPP hg HFT HAF HAX HAP HTR HR
  go_wp2_with ((with_reducible refine z0c HX3.out ?_ ?_);rfl)
  refine hgd.mono ?_
  rintro e w4 ⟨rfl,h4⟩
  have HX4:=hid (HX3.out.later h4)
  have HY4:=hid (HY3.out.later h4)
  have HZ4:=hid (HZ3.out.later h4)
  have HB4:=hid (HB3.out.trans (h4.mono HB3.out.size))
  have HQ4:=hid (HQ3.out.later h4)
  have HPM4:Hid (RvM (w4.setRow (B+2) _) p L T M):=hid (z4a HQ4.out (ccs cc) HFA.out.1 HFA.out.2.1 HFA.out.2.2)
  clear h4 HX3 HY3 HZ3 HQ3
  clear hgd
  have HZF:=hid (HZ4.out.set (cc))
  go_wp2_with (first | ((with_reducible refine z0c HX4.out ?_ ?_);rfl) | ((with_reducible refine z0m (cc) HZ4.out ?_ ?_ ?_);rfl;rfl))
  (try simp only [Exit.inBlock,Exit.then])
  refine bodyPost_ret (v:=.tuple #[.agg (ccs (cc)),.int .i64 12]) ?_ rfl ?_
  · exact z3q rfl _ _ (B+2) _ _ rfl rfl HZF.out
  · rw [HE.out]
    exact⟨_,L,T,M,rfl,(by show RvM _ cc.p L T M;rw [HPP.out];exact HPM4.out),HXX.out,below_setRow HB4.out (by have:=HRE.out;omega) _⟩
 | true =>
  rw [hg] at hgd
  go_wp2_with ((with_reducible refine z0c HX3.out ?_ ?_);rfl)
  refine hgd.mono ?_
  rintro e w4 ⟨rfl,h4⟩
  have HX4:=hid (HX3.out.later h4)
  have HY4:=hid (HY3.out.later h4)
  have HZ4:=hid (HZ3.out.later h4)
  have HB4:=hid (HB3.out.trans (h4.mono HB3.out.size))
  have HQ4:=hid (HQ3.out.later h4)
  have HPM4:Hid (RvM (w4.setRow (B+2) _) p L T M):=hid (z4a HQ4.out (ccs cc) HFA.out.1 HFA.out.2.1 HFA.out.2.2)
  clear h4 HX3 HY3 HZ3 HQ3
  clear hgd
  go_wp2_with ((with_reducible refine z2h HY4.out ?_ ?_);rfl)
  refine (HR.out _ HB4.out).mono ?_
  cases hx:z7s (r.x La Ta Ma) with
  | false =>
   rintro e w5 ⟨rfl,h5⟩
   have HX5:=hid (HX4.out.later h5)
   have HY5:=hid (HY4.out.later h5)
   have HZ5:=hid (HZ4.out.later h5)
   have HB5:=hid (HB4.out.trans (h5.mono HB4.out.size))
   have HQ5:=hid (HQ4.out.later h5)
   have HPM5:Hid (RvM (w5.setRow (B+2) _) p L T M):=hid (z4a HQ5.out (ccs cc) HFA.out.1 HFA.out.2.1 HFA.out.2.2)
   clear h5 HX4 HY4 HZ4 HQ4
   have HE:Hid (A=(c.x L T M,1)):=hid (by rw [HAPP.out,if_neg (by rw [hg];simp),if_pos (.inl hx)])
   clear HAPP hg hx HFT HAF HAX HAP HTR HR
   go_upto_region 5 with (fail)
   have HZF:=hid (HZ5.out.set (cc))
   go_wp2_with (first | ((with_reducible refine z0c HX5.out ?_ ?_);rfl) | ((with_reducible refine z0m (cc) HZ5.out ?_ ?_ ?_);rfl;rfl))
   (try simp only [Exit.inBlock,Exit.then])
   refine bodyPost_ret (v:=.tuple #[.agg (ccs (cc)),.int .i64 1]) ?_ rfl ?_
   · exact z3q rfl _ _ (B+2) _ _ rfl rfl HZF.out
   · rw [HE.out]
     exact⟨_,L,T,M,rfl,(by show RvM _ cc.p L T M;rw [HPP.out];exact HPM5.out),HXX.out,below_setRow HB5.out (by have:=HRE.out;omega) _⟩
  | true =>
   rintro e w5 ⟨rfl,h5⟩
   have HX5:=hid (HX4.out.later h5)
   have HY5:=hid (HY4.out.later h5)
   have HZ5:=hid (HZ4.out.later h5)
   have HB5:=hid (HB4.out.trans (h5.mono HB4.out.size))
   have HQ5:=hid (HQ4.out.later h5)
   have HPM5:Hid (RvM (w5.setRow (B+2) _) p L T M):=hid (z4a HQ5.out (ccs cc) HFA.out.1 HFA.out.2.1 HFA.out.2.2)
   clear h5 HX4 HY4 HZ4 HQ4
   have y0:=z0b (j:=0) HY5.out (v:=.int .u8 r.k) rfl
   by_cases hk:r.k=1
   · have HE:Hid (A=(c.x L T M,1)):=hid (by rw [HAPP.out,if_neg (by rw [hg];simp),if_pos (.inr hk)])
     rw [hk] at y0
     clear HAPP hg hx HFT HAF HAX HAP HTR HR hk
     go_upto_region 5 with (fail)
     have HZF:=hid (HZ5.out.set (cc))
     go_wp2_with (first | ((with_reducible refine z0c HX5.out ?_ ?_);rfl) | ((with_reducible refine z0m (cc) HZ5.out ?_ ?_ ?_);rfl;rfl))
     (try simp only [Exit.inBlock,Exit.then])
     refine bodyPost_ret (v:=.tuple #[.agg (ccs (cc)),.int .i64 1]) ?_ rfl ?_
     · exact z3q rfl _ _ (B+2) _ _ rfl rfl HZF.out
     · rw [HE.out]
       exact⟨_,L,T,M,rfl,(by show RvM _ cc.p L T M;rw [HPP.out];exact HPM5.out),HXX.out,below_setRow HB5.out (by have:=HRE.out;omega) _⟩
   · have b1:(r.k==1)=false:=beq_false_of_ne hk
     have hff:=HFT.out _ HB5.out HQ5.out hg
     cases hf:z7t (c.x L T M) (r.x La Ta Ma) with
     | false =>
      rw [hf] at hff
      have HE:Hid (A=(c.x L T M,12)):=hid (by rw [HAPP.out,if_neg (by rw [hg];simp),if_neg (by rw [hx];simp [hk]),if_pos hf])
      clear HAPP hg hx HFT HAF HAX HAP HTR HR hk hf
      go_wp2_with (first | ((with_reducible refine z0c HX5.out ?_ ?_);rfl) | ((with_reducible refine z2h HY5.out ?_ ?_);rfl))
      refine hff.mono ?_
      rintro e w6 ⟨rfl,h6⟩
      have HX6:=hid (HX5.out.later h6)
      have HY6:=hid (HY5.out.later h6)
      have HZ6:=hid (HZ5.out.later h6)
      have HB6:=hid (HB5.out.trans (h6.mono HB5.out.size))
      have HQ6:=hid (HQ5.out.later h6)
      have HPM6:Hid (RvM (w6.setRow (B+2) _) p L T M):=hid (z4a HQ6.out (ccs cc) HFA.out.1 HFA.out.2.1 HFA.out.2.2)
      clear h6 HX5 HY5 HZ5 HQ5
      clear hff y0
      go_upto_region 7 with (fail)
      have HZF:=hid (HZ6.out.set (cc))
      go_wp2_with (first | ((with_reducible refine z0c HX6.out ?_ ?_);rfl) | ((with_reducible refine z0m (cc) HZ6.out ?_ ?_ ?_);rfl;rfl))
      (try simp only [Exit.inBlock,Exit.then])
      refine bodyPost_ret (v:=.tuple #[.agg (ccs (cc)),.int .i64 12]) ?_ rfl ?_
      · exact z3q rfl _ _ (B+2) _ _ rfl rfl HZF.out
      · rw [HE.out]
        exact⟨_,L,T,M,rfl,(by show RvM _ cc.p L T M;rw [HPP.out];exact HPM6.out),HXX.out,below_setRow HB6.out (by have:=HRE.out;omega) _⟩
     | true =>
      rw [hf] at hff
      have HE:Hid (A=(z8s (c.x L T M) (r.x La Ta Ma),0)):=hid (by rw [HAPP.out,if_neg (by rw [hg];simp),if_neg (by rw [hx];simp [hk]),if_neg (by rw [hf];simp)])
      have hab:=HTR.out hg hf
      have HAB:=hid hab
      clear HAPP hg hx HFT HTR HR hk hf hab
      go_wp2_with (first | ((with_reducible refine z0c HX5.out ?_ ?_);rfl) | ((with_reducible refine z2h HY5.out ?_ ?_);rfl))
      refine hff.mono ?_
      rintro e w6 ⟨rfl,h6⟩
      have HX6:=hid (HX5.out.later h6)
      have HY6:=hid (HY5.out.later h6)
      have HZ6:=hid (HZ5.out.later h6)
      have HB6:=hid (HB5.out.trans (h6.mono HB5.out.size))
      have HQ6:=hid (HQ5.out.later h6)
      have HPM6:Hid (RvM (w6.setRow (B+2) _) p L T M):=hid (z4a HQ6.out (ccs cc) HFA.out.1 HFA.out.2.1 HFA.out.2.2)
      clear h6 HX5 HY5 HZ5 HQ5
      clear hff y0
      go_wp2_with (first | ((with_reducible refine z0c HX6.out ?_ ?_);rfl) | ((with_reducible refine z2h HY6.out ?_ ?_);rfl))
      refine (HAF.out _ HAB.out.1 HAB.out.2).mono ?_
      generalize aftV cc r=cn at *
      rintro e w7 ⟨rfl,h7⟩
      have HX7:=hid (HX6.out.later h7)
      have HY7:=hid (HY6.out.later h7)
      have HZ7:=hid (HZ6.out.later h7)
      have HB7:=hid (HB6.out.trans (h7.mono HB6.out.size))
      have HQ7:=hid (HQ6.out.later h7)
      have HPM7:Hid (RvM (w7.setRow (B+2) _) p L T M):=hid (z4a HQ7.out (ccs cn) HFA.out.1 HFA.out.2.1 HFA.out.2.2)
      clear h7 HX6 HY6 HZ6 HQ6
      have HZF:=hid (HZ7.out.set (cn))
      go_wp2_with (first | ((with_reducible refine z0c HX7.out ?_ ?_);rfl) | ((with_reducible refine z0m (cn) HZ7.out ?_ ?_ ?_);rfl;rfl))
      (try simp only [Exit.inBlock,Exit.then])
      refine bodyPost_ret (v:=.tuple #[.agg (ccs (cn)),.int .i64 0]) ?_ rfl ?_
      · exact z3q rfl _ _ (B+2) _ _ rfl rfl HZF.out
      · rw [HE.out]
        exact⟨_,L,T,M,rfl,(by show RvM _ cn.p L T M;rw [HAP.out];exact HPM7.out),HAX.out,below_setRow HB7.out (by have:=HRE.out;omega) _⟩
theorem isfew_p (k od po:Int) (lp:Option Addr) (ln lcp:Nat) (tp:Option Addr) (tn tcp:Nat) (wp:Option Addr) (wn wcp:Nat) (sk fr to q:Int) (W:World):Calls Tryd.prog 30 #[.agg #[.int .u8 k,.int .u32 od,.int .u8 po,.slice lp ln lcp,.slice tp tn tcp,.slice wp wn wcp,.int .u8 sk,.int .u8 fr,.int .u8 to,.int .i64 q]] W fun e w'=>e=.returned (.bool (decide (ln≤20∧tn≤30∧wn≤20)))∧Below W.heap.size W w':=by
 have HB:Hid (Below W.heap.size W (W.alloc (.cells #[.int .u8 k,.int .u32 od,.int .u8 po,.slice lp ln lcp,.slice tp tn tcp,.slice wp wn wcp,.int .u8 sk,.int .u8 fr,.int .u8 to,.int .i64 q] 26))):=hid ((Below.refl _ _).alloc (Nat.le_refl _) _)
 obtain⟨r,hr⟩:∃ r,decide (ln≤20∧tn≤30∧wn≤20)=r:=⟨_,rfl⟩
 have HR:=hid hr
 rw [hr]
 clear hr
 by_cases h1:ln≤20
 case neg =>
  have d1:decide ((ln:Int)≤20)=false:=decide_eq_false (by omega)
  obtain rfl:r=false:=by rw [← HR.out];exact decide_eq_false (by omega)
  go_enter Tryd.func30,Tryd.ntmps30
  go_wp2_with fail
  go_ret
  exact⟨rfl,HB.out⟩
 have d1:decide ((ln:Int)≤20)=true:=decide_eq_true (by omega)
 by_cases h2:tn≤30
 case neg =>
  have d2:decide ((tn:Int)≤30)=false:=decide_eq_false (by omega)
  obtain rfl:r=false:=by rw [← HR.out];exact decide_eq_false (by omega)
  go_enter Tryd.func30,Tryd.ntmps30
  go_wp2_with fail
  go_ret
  exact⟨rfl,HB.out⟩
 have d2:decide ((tn:Int)≤30)=true:=decide_eq_true (by omega)
 by_cases h3:wn≤20
 case neg =>
  have d3:decide ((wn:Int)≤20)=false:=decide_eq_false (by omega)
  obtain rfl:r=false:=by rw [← HR.out];exact decide_eq_false (by omega)
  go_enter Tryd.func30,Tryd.ntmps30
  go_wp2_with fail
  go_ret
  exact⟨rfl,HB.out⟩
 have d3:decide ((wn:Int)≤20)=true:=decide_eq_true (by omega)
 obtain rfl:r=true:=by rw [← HR.out];exact decide_eq_true (by omega)
 go_enter Tryd.func30,Tryd.ntmps30
 go_wp2_with fail
 go_ret
 exact⟨rfl,HB.out⟩
def fewI (ln tn wn:Nat):Int:=if ln≤20∧tn≤30∧wn≤20 then 1 else 0
theorem few_p (k od po:Int) (lp:Option Addr) (ln lcp:Nat) (tp:Option Addr) (tn tcp:Nat) (wp:Option Addr) (wn wcp:Nat) (sk fr to q:Int) (W:World):Calls Tryd.prog 7 #[.agg #[.int .u8 k,.int .u32 od,.int .u8 po,.slice lp ln lcp,.slice tp tn tcp,.slice wp wn wcp,.int .u8 sk,.int .u8 fr,.int .u8 to,.int .i64 q]] W fun e w'=>e=.returned (.int .i64 (fewI ln tn wn))∧Below W.heap.size W w':=by
 obtain⟨W1,hW1,hb1⟩:∃ W1,W.alloc (.cells #[.int .u8 k,.int .u32 od,.int .u8 po,.slice lp ln lcp,.slice tp tn tcp,.slice wp wn wcp,.int .u8 sk,.int .u8 fr,.int .u8 to,.int .i64 q] 26)=W1∧Below W.heap.size W W1:=⟨_,rfl,(Below.refl _ _).alloc (Nat.le_refl _) _⟩
 have HI:=hid (isfew_p k od po lp ln lcp tp tn tcp wp wn wcp sk fr to q W1)
 have HB1:=hid hb1
 have HW1:=hid hW1
 clear hW1 hb1
 by_cases h:ln≤20∧tn≤30∧wn≤20
 · have hi:=HI.out
   rw [decide_eq_true h] at hi
   have HF:Hid (fewI ln tn wn=1):=hid (if_pos h)
   clear h
   go_enter Tryd.func7,Tryd.ntmps7
   go_wp2_with fail
   rw [HW1.out]
   refine hi.mono ?_
   rintro e w2 ⟨rfl,h2⟩
   have HB2:=hid (HB1.out.trans (h2.mono HB1.out.size))
   clear hi h2
   go_wp2_with fail
   go_ret
   exact⟨by rw [HF.out];rfl,HB2.out⟩
 · have hi:=HI.out
   rw [decide_eq_false h] at hi
   have HF:Hid (fewI ln tn wn=0):=hid (if_neg h)
   clear h
   go_enter Tryd.func7,Tryd.ntmps7
   go_wp2_with fail
   rw [HW1.out]
   refine hi.mono ?_
   rintro e w2 ⟨rfl,h2⟩
   have HB2:=hid (HB1.out.trans (h2.mono HB1.out.size))
   clear hi h2
   go_wp2_with fail
   go_ret
   exact⟨by rw [HF.out];rfl,HB2.out⟩
def fewC (c:Cv) (t:Tv):Bool:=decide (c.p.ln≤20∧c.p.tn≤30∧c.p.wn≤20) && decide ((t.n:Int)≤20)
theorem fewC_small {c:Cv} {t:Tv} (h:fewC c t=true):(c.p.ln≤20∧c.p.tn≤30∧c.p.wn≤20)∧t.n≤20:=by
 unfold fewC at h
 simp only [Bool.and_eq_true,decide_eq_true_eq] at h
 exact⟨h.1,by omega⟩
theorem z5w (W:World) (c:Cv) (t:Tv):∃ W1,(W.alloc (.cells (ccs c) 28)).alloc (.cells #[.int .u32 t.c.id,.int .u32 t.c.sg,.int .u8 t.c.st,.bool t.c.cp,.bool t.c.dd,.slice t.p t.n t.m,.int .i64 t.c.fs,.int .i64 t.c.sz] 36)=W1∧CB W1 W.heap.size c∧W1.heap[W.heap.size+1]?=some (.cells #[.int .u32 t.c.id,.int .u32 t.c.sg,.int .u8 t.c.st,.bool t.c.cp,.bool t.c.dd,.slice t.p t.n t.m,.int .i64 t.c.fs,.int .i64 t.c.sz] 36 (0,0))∧Below W.heap.size W W1:=by
 have hb0:Below W.heap.size W (W.alloc (.cells (ccs c) 28)):=(Below.refl _ _).alloc (Nat.le_refl _) _
 have hs:(W.alloc (.cells (ccs c) 28)).heap.size=W.heap.size+1:=by simp only [World.alloc,Array.size_push]
 have hb1:Below (W.alloc (.cells (ccs c) 28)).heap.size (W.alloc (.cells (ccs c) 28)) ((W.alloc (.cells (ccs c) 28)).alloc (.cells #[.int .u32 t.c.id,.int .u32 t.c.sg,.int .u8 t.c.st,.bool t.c.cp,.bool t.c.dd,.slice t.p t.n t.m,.int .i64 t.c.fs,.int .i64 t.c.sz] 36)):=(Below.refl _ _).alloc (Nat.le_refl _) _
 refine⟨_,rfl,(CB.new W c).later hb1,?_,hb0.trans (hb1.mono hb0.size)⟩
 have h:=z0d (W.alloc (.cells (ccs c) 28)) (.cells #[.int .u32 t.c.id,.int .u32 t.c.sg,.int .u8 t.c.st,.bool t.c.cp,.bool t.c.dd,.slice t.p t.n t.m,.int .i64 t.c.fs,.int .i64 t.c.sz] 36)
 rw [hs] at h
 exact h
theorem cr_isfew (c:Cv) (t:Tv) (W:World):Calls Tryd.prog 29 #[.agg (ccs c),.agg #[.int .u32 t.c.id,.int .u32 t.c.sg,.int .u8 t.c.st,.bool t.c.cp,.bool t.c.dd,.slice t.p t.n t.m,.int .i64 t.c.fs,.int .i64 t.c.sz]] W fun e w'=>e=.returned (.bool (fewC c t))∧Below W.heap.size W w':=by
 obtain⟨W1,hW1,hx,ht,hb1⟩:=z5w W c t
 obtain⟨B,hB⟩:∃ B,W.heap.size=B:=⟨_,rfl⟩
 rw [hB] at hx ht
 have HX:=hid hx
 have HT:=hid ht
 have HW1:=hid hW1
 have HB1:=hid hb1
 have HRE:=hid hB
 have hf:Calls Tryd.prog 7 #[.agg (pcs c.p)] W1 fun e w'=>e=.returned (.int .i64 (fewI c.p.ln c.p.tn c.p.wn))∧Below W1.heap.size W1 w':=few_p c.p.pk c.p.od c.p.po c.p.lp c.p.ln c.p.lcp c.p.tp c.p.tn c.p.tcp c.p.wp c.p.wn c.p.wcp c.p.sk c.p.fr c.p.to c.p.q W1
 have HF:Hid (fewC c t=(decide (c.p.ln≤20∧c.p.tn≤30∧c.p.wn≤20) && decide ((t.n:Int)≤20))):=hid rfl
 generalize fewC c t=F at *
 clear hW1 hx ht hb1 hB
 by_cases q:c.p.ln≤20∧c.p.tn≤30∧c.p.wn≤20
 · rw [show fewI c.p.ln c.p.tn c.p.wn=1 from if_pos q] at hf
   have HFF:Hid (F=decide ((t.n:Int)≤20)):=hid (by rw [HF.out,decide_eq_true q,Bool.true_and])
   clear HF q
   go_enter Tryd.func29,Tryd.ntmps29
   go_upto_region 1 with (fail)
   rw [HW1.out,HRE.out]
   go_wp2_with ((with_reducible refine z1e HX.out ?_ ?_);rfl)
   refine hf.mono ?_
   rintro e w2 ⟨rfl,h2⟩
   have HB2:=hid (HB1.out.trans (h2.mono HB1.out.size))
   have a5:=(z0h (z0a HT.out h2)).2.2.2.2.2.1
   clear h2 hf
   go_wp2_with fail
   go_ret
   exact⟨by rw [HFF.out];rfl,HB2.out⟩
 · rw [show fewI c.p.ln c.p.tn c.p.wn=0 from if_neg q] at hf
   have HFF:Hid (F=false):=hid (by rw [HF.out,decide_eq_false q,Bool.false_and])
   clear HF q
   go_enter Tryd.func29,Tryd.ntmps29
   go_upto_region 1 with (fail)
   rw [HW1.out,HRE.out]
   go_wp2_with ((with_reducible refine z1e HX.out ?_ ?_);rfl)
   refine hf.mono ?_
   rintro e w2 ⟨rfl,h2⟩
   have HB2:=hid (HB1.out.trans (h2.mono HB1.out.size))
   clear h2 hf
   go_wp2_with fail
   go_ret
   exact⟨by rw [HFF.out];rfl,HB2.out⟩
theorem cr_few (c:Cv) (t:Tv) (W:World):Calls Tryd.prog 6 #[.agg (ccs c),.agg #[.int .u32 t.c.id,.int .u32 t.c.sg,.int .u8 t.c.st,.bool t.c.cp,.bool t.c.dd,.slice t.p t.n t.m,.int .i64 t.c.fs,.int .i64 t.c.sz]] W fun e w'=>e=.returned (.int .i64 (if fewC c t then 1 else 0))∧Below W.heap.size W w':=by
 obtain⟨W1,hW1,hx,ht,hb1⟩:=z5w W c t
 obtain⟨B,hB⟩:∃ B,W.heap.size=B:=⟨_,rfl⟩
 rw [hB] at hx ht
 have HX:=hid hx
 have HT:=hid ht
 have HW1:=hid hW1
 have HB1:=hid hb1
 have HRE:=hid hB
 have hf:=cr_isfew c t W1
 generalize fewC c t=F at *
 obtain⟨a0,a1,a2,a3,a4,a5,a6,a7⟩:=z0h ht
 clear hW1 hx ht hb1 hB
 cases F
 all_goals
  go_enter Tryd.func6,Tryd.ntmps6
  go_upto_region 1 with (fail)
  rw [HW1.out,HRE.out]
  go_wp2_with ((with_reducible refine z0c HX.out ?_ ?_);rfl)
  refine hf.mono ?_
  rintro e w2 ⟨rfl,h2⟩
  have HB2:=hid (HB1.out.trans (h2.mono HB1.out.size))
  clear h2 hf
  go_wp2_with fail
  go_ret
  exact⟨rfl,HB2.out⟩
end Go.Proofs.YtnpjpelbcmgodaaDoor
namespace Go.Proofs.YtnpjpelbcmgodaaDoor
open Go.Lib (hid)
set_option maxHeartbeats 16000000
open Go.RowKit
set_option linter.unusedVariables false
set_option maxRecDepth 10000
def ofArt (a:Int) (o:O):Bool:=decide (o.1.2.1=a) && !decide (o.1.1=4)
def selA (l:List O) (a:Int):List Int:=(l.filter (ofArt a)).map (·.2)
theorem sel_append (l m:List O) (a:Int):selA (l++m) a=selA l a++selA m a:=by unfold selA;rw [List.filter_append,List.map_append]
def artI (l:List O) (a:Int):Int:=z1d (selA l a)
theorem art_append (l m:List O) (a:Int):artI (l++m) a=artI l a+artI m a:=by unfold artI;rw [sel_append,total_append]
theorem art_item {t:Int} (w a:Int) (x:Ln) (ht:t=1∨t=2∨t=3∨t=4∨t=7∨t=8):artI (z5u t w x) a=0:=by
 unfold z5u
 split
 · have h4:∀ p q:Int,artI [((p,x.1,w),-x.2),((q,x.1,0),x.2)] a=artI [((p,x.1,w),-x.2)] a+artI [((q,x.1,0),x.2)] a:=fun p q=>art_append [((p,x.1,w),-x.2)] [((q,x.1,0),x.2)] a
   rcases ht with rfl | rfl | rfl | rfl | rfl | rfl <;> simp [oneS,artI,selA,ofArt,List.filter_cons,z1d] <;> (by_cases h:x.1=a <;> simp [h,z1d] <;> omega)
 · rfl
theorem art_ops {t:Int} (w a:Int) (ht:t=1∨t=2∨t=3∨t=4∨t=7∨t=8):∀ L:List Ln,artI (opsS t w L) a=0
 | []=>rfl
 | x::L=>by rw [z6m,art_append,art_item w a x ht,art_ops w a ht L];rfl
def z1z (S:List Stp):List O:=S.flatMap fun s=>opsS s.1 s.2.1 s.2.2
theorem opsAll_take (S:List Stp) (j:Nat) (h:j<S.length):z1z (S.take (j+1))=z1z (S.take j)++opsS (S.getD j (0,0,[])).1 (S.getD j (0,0,[])).2.1 (S.getD j (0,0,[])).2.2:=by
 unfold z1z
 rw [List.take_add_one,List.getElem?_eq_getElem h,List.flatMap_append]
 simp [List.getD,List.getElem?_eq_getElem h]
theorem ops_count (t w:Int):∀ L:List Ln,(opsS t w L).length≤2*L.length
 | []=>by simp [opsS]
 | x::L=>by
  rw [z6m,List.length_append,List.length_cons]
  have h1:(z5u t w x).length≤2:=by unfold z5u;split;exact z7h t w x;simp
  have:=ops_count t w L
  omega
theorem z3u:∀ {S:List Stp},(∀ s∈S,s.2.2.length≤3)→(z1z S).length≤6*S.length
 | [],_=>by simp [z1z]
 | s::S,h=>by
  have h1:=ops_count s.1 s.2.1 s.2.2
  have h2:=h s (List.mem_cons.2 (.inl rfl))
  have h3:=z3u (S:=S) fun x hx=>h x (List.mem_cons.2 (.inr hx))
  unfold z1z at *
  rw [List.flatMap_cons,List.length_append,List.length_cons]
  omega
end Go.Proofs.YtnpjpelbcmgodaaDoor
