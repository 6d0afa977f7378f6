import Derived.Test.YtfdgnniicjdjdaaGreatDoorPS99
import Derived.Test.YtfdgnniicjdjdaaGreatDoorPS36
namespace Go.Proofs.YtfdgnniicjdjdaaGreatDoor
open Go.Lib (hid)
set_option maxHeartbeats 16000000
open Go.RowKit Go.ChangeShapes Go.WideShapes
set_option linter.unusedVariables false
set_option linter.unusedSimpArgs false
set_option maxRecDepth 10000
def rm (k sg tx st:Int) (cp:Bool) (ka kb kc d o:Int):Rv:=⟨k,sg,tx,st,cp,ka,kb,kc,d,o,0,0,0,none,0,0,none,0,0,none,0,0,0,0,0,0⟩
theorem z1b (k sg tx st:Int) (cp:Bool) (ka kb kc d o:Int) (w:World):RvM w (rm k sg tx st cp ka kb kc d o) [] [] []:=no_lists ⟨rfl,rfl,rfl,rfl,rfl,rfl,rfl,rfl,rfl⟩ w
theorem z1g {x:Nat} (h:x<256):IntKind.u8.wrap ((x:Nat):Int)=(x:Int):=by simp [IntKind.wrap,IntKind.bits,IntKind.signed];omega
theorem z1w {x:Nat} (h:x<4294967296):IntKind.u32.wrap ((x:Nat):Int)=(x:Int):=by simp [IntKind.wrap,IntKind.bits,IntKind.signed];omega
theorem z3e {S:St} (h:∀ y∈S.2,y<256):(numR S 1).2<256:=z2x h (n:=1) (by omega) (by omega)
theorem z8u {S:St} (h:∀ y∈S.2,y<256):(numR S 4).2<4294967296:=z2x h (n:=4) (by omega) (by omega)
theorem put_ky (r:Rv) (a b c:Int):z9w (rcs r) 5 [.int .u8 a,.int .u8 b,.int .u8 c]=rcs { r with ka:=a,kb:=b,kc:=c }:=by simp [z9w,rcs]
theorem z6e {S:Nat→Prop} {w w':World} {lp:Option Addr} {ln lcp:Nat} {L:List Ln} {tp:Option Addr} {tn tcp:Nat} {T:List Tk} {wp:Option Addr} {wn wcp:Nat} {M:List Ln} (h:PgM w lp ln lcp L tp tn tcp T wp wn wcp M) (hc:Chg S w w') (h1:∀ a,lp=some a→¬ S a.block) (h2:∀ a,tp=some a→¬ S a.block) (h3:∀ a,wp=some a→¬ S a.block):PgM w' lp ln lcp L tp tn tcp T wp wn wcp M :=
 ⟨h.l.turn hc.size fun _ a ha hlt=>hc.block a.block hlt (h1 a ha),h.t.turn hc.size fun _ a ha hlt=>hc.block a.block hlt (h2 a ha),h.o.turn hc.size fun _ a ha hlt=>hc.block a.block hlt (h3 a ha)⟩
theorem z3n (a b c:Int) {ops:Array Oper} {rest:List Oper} {ac:Act} {w:World} {Q:Exit→Act→World→Prop} {dst:Option Tmp} {x y:Operand} {ty:TypeId} {pos:String} {after:Array Edge} {B:Nat} {r:Rv} (hB:RB w B r)
 (hx:ac.eval x=.pointer (some ⟨B,5,none⟩)) (hy:ac.eval y=.agg #[.int .u8 a,.int .u8 b,.int .u8 c])
 (h:wpList Tryz.prog ops Q rest (ac.put dst undef) (w.setRow B (rcs { r with ka:=a,kb:=b,kc:=c }))):wpList Tryz.prog ops Q (Oper.mk dst (.store 45 x y) ty pos after none::rest) ac w :=
 wpList_store_part rfl 45 x y rfl B 5 #[.int .u8 a,.int .u8 b,.int .u8 c] hx hy 51 (rcs r) hB (by kernel_rfl) (by show 5+3≤20;omega) (by simp [Value.oneCell']) (by rw [show (#[.int .u8 a,.int .u8 b,.int .u8 c]:Array Value).toList=[.int .u8 a,.int .u8 b,.int .u8 c] from rfl,put_ky];exact h)
theorem rec_read1 (W:World) (N B:Nat) (Bs:List Nat) (hz:Zw W N B (0,Bs)) (hw:∀ w,Chg (fun k=>k=B) W w→Words w) (hk:(((numR ((0,Bs):St) 1).2:Nat):Int)=1):Calls Tryz.prog 92 #[.pointer (some ⟨B,0,none⟩)] W (z2b W B Bs):=by
 have HWD:=hid hw
 clear hw
 obtain⟨R,hR⟩:∃ R,W.heap.size=R:=⟨_,rfl⟩
 obtain⟨W0,hW0,hr0,hb0⟩:∃ W0,W.alloc (.cells zr 51)=W0∧RB W0 R rz∧Below W.heap.size W W0:=⟨_,rfl,by rw [← hR];exact z0b W _,(Below.refl _ _).alloc (Nat.le_refl _) _⟩
 have HZ0:=hid (hz.below hb0)
 have HRE:=hid hR
 have HW0:=hid hW0
 have HR0b:=hid hr0
 have HB0:=hid hb0
 have HNR:Hid (N≤R):=hid (by have:=hz.size;omega)
 obtain⟨R0,hR0⟩:∃ Q,numR ((0,Bs):St) 1=Q:=⟨_,rfl⟩
 have hn:=z2k HZ0.out 1
 have hf:=z3e (S:=(0,Bs)) HZ0.out.bytes
 rw [hR0] at hn hf hk
 have HR0:=hid hR0
 have hx0:IntKind.u8.wrap ((R0.2:Nat):Int)=(R0.2:Nat):=z1g hf
 rw [hk] at hn hx0
 have HKK:=hid hk
 clear hR hW0 hr0 hb0 hR0 hf hz hk
 go_enter Tryz.func92,Tryz.ntmps92
 go_upto_region 1 with (fail)
 rw [HW0.out,HRE.out]
 go_wp2_with fail
 refine hn.mono ?_
 rintro e w1 ⟨rfl,hz1,hc1⟩
 obtain⟨X,hX⟩:∃ X,w1.heap.size=X:=⟨_,rfl⟩
 have hRX:R<X:=by have:=z0g HR0b.out;have:=hc1.size;omega
 have hlow:=HZ0.out.low
 have hNR:=HNR.out
 have hres:=HR0b.out.chg hc1 (by omega)
 have hch0:Chg (fun k=>k=B) W w1:=(Chg.of_below (S:=fun k=>k=B) HB0.out).trans hc1 fun _ _ e=>e
 obtain⟨w1a,hw1a,hxa,hba⟩:∃ w1a,w1.alloc (.cells zr 51)=w1a∧RB w1a X rz∧Below w1.heap.size w1 w1a:=⟨_,rfl,by rw [← hX];exact z0b w1 _,(Below.refl _ _).alloc (Nat.le_refl _) _⟩
 have hQa:Qz W w1a N B R X R0.1 rz:=⟨hz1.below hba,hxa,hres.later hba,hch0.trans (Chg.of_below (S:=fun k=>k=B) hba) fun _ _ e=>e,by omega,hRX,by have:=HRE.out;omega⟩
 obtain⟨w2,hw2,hQ2⟩:∃ w2,w1a.setRow X (rcs (rk 1))=w2∧Qz W w2 N B R X R0.1 (rk 1):=⟨_,rfl,hQa.set _⟩
 have HXa:=hid hxa
 have HW1a:=hid hw1a
 have HW2:=hid hw2
 have HQ2:=hid hQ2
 have HXE:=hid hX
 clear hz1 hc1 hX hRX hlow hNR hres hch0 hw1a hxa hba hQa hw2 hQ2 hn
 have c0:w2.cell? ⟨X,0,none⟩=some (.int .u8 1):=z0a HQ2.out.x rfl
 go_wp2_with ((try rw [HXE.out]);(try rw [HW1a.out]);(with_reducible refine z0e (rk 1) HXa.out ?_ ?_ ?_);rfl;rfl;rw [HW2.out])
 have hpa:=z1m 1 w2
 unfold z1k at hpa
 rw [show ptc 1=#[.bool true,.bool false,.bool false,.bool false,.bool false,.bool true] from rfl,show kOk 1=true from rfl] at hpa
 refine hpa.mono ?_
 rintro e w3 ⟨rfl,h3⟩
 have HQ3:=hid (HQ2.out.later h3)
 clear h3 hpa c0 HQ2 hx0
 obtain⟨Pb,hPb⟩:∃ n,w3.heap.size=n:=⟨_,rfl⟩
 obtain⟨w4,hwn,hxn,hbn⟩:∃ w4,(w3.alloc (.cells pz 194)).setRow Pb #[.bool true,.bool false,.bool false,.bool false,.bool false,.bool true]=w4∧w4.heap[Pb]?=some (.cells #[.bool true,.bool false,.bool false,.bool false,.bool false,.bool true] 194 (0,0))∧Below w3.heap.size w3 w4:=⟨_,rfl,by rw [← hPb];exact setRow_heap _ _ _ _ _ _ (z0b w3 _),below_setRow ((Below.refl _ _).alloc (Nat.le_refl _) _) (by omega) _⟩
 have hxz:=z0b w3 (.cells pz 194)
 rw [hPb] at hxz
 have HQ4:Hid (Qp W w4 N B R X Pb #[.bool true,.bool false,.bool false,.bool false,.bool false,.bool true] R0.1 (rk 1)):=hid ⟨HQ3.out.later hbn,hxn,by have:=z0g HQ3.out.x;omega⟩
 have HPZ:=hid hxz
 have HWN:=hid hwn
 have HNN:=hid hPb
 have HS6:Hid ((#[.bool true,.bool false,.bool false,.bool false,.bool false,.bool true]:Array Value).size=6):=hid rfl
 have HA6:Hid ((#[.bool true,.bool false,.bool false,.bool false,.bool false,.bool true]:Array Value).all (·.oneCell')=true):=hid (by simp [Value.oneCell'])
 clear hxz hxn hbn hwn hPb HQ3
 have p0:=HQ4.out.c (j:=0) (v:=.bool true) rfl
 have p1:=HQ4.out.c (j:=1) (v:=.bool false) rfl
 have p2:=HQ4.out.c (j:=2) (v:=.bool false) rfl
 have p3:=HQ4.out.c (j:=3) (v:=.bool false) rfl
 have p4:=HQ4.out.c (j:=4) (v:=.bool false) rfl
 have p5:=HQ4.out.c (j:=5) (v:=.bool true) rfl
 go_wp2_with ((try rw [HNN.out]);(with_reducible refine z0l #[.bool true,.bool false,.bool false,.bool false,.bool false,.bool true] HS6.out HA6.out HPZ.out ?_ ?_ ?_);rfl;rfl;rw [HWN.out])
 have hn:=z2k HQ4.out.q.z 4
 obtain⟨Qsg,hQsg⟩:∃ Q,numR R0.1 4=Q:=⟨_,rfl⟩
 have hf:=z8u HQ4.out.q.z.bytes
 rw [hQsg] at hn hf
 have hxsg:IntKind.u32.wrap ((Qsg.2:Nat):Int)=(Qsg.2:Nat):=z1w hf
 clear hf
 have HQsg:=hid hQsg
 clear hQsg
 refine hn.mono ?_
 rintro e y5 ⟨rfl,hz,hc⟩
 have HQb:=hid (HQ4.out.low hz hc)
 clear hz hc hn HQ4
 clear p0 p1 p2 p3 p4 p5
 obtain⟨cy,cf⟩:=HQb.out.q.cx (j:=1) (v:=.int .u32 0) rfl
 go_upto_region 7 with (fail)
 clear cy cf hxsg
 have hq:=HQb.out.put 1 (.int .u32 ((Qsg.2:Nat):Int)) (rm 1 ((Qsg.2:Nat):Int) 0 0 false 0 0 0 0 0) rfl
 generalize y5.setCell ⟨X,1,none⟩ (.int .u32 ((Qsg.2:Nat):Int))=w5 at *
 have HQ5:=hid hq
 clear hq HQb
 have p0:=HQ5.out.c (j:=0) (v:=.bool true) rfl
 have p1:=HQ5.out.c (j:=1) (v:=.bool false) rfl
 have p2:=HQ5.out.c (j:=2) (v:=.bool false) rfl
 have p3:=HQ5.out.c (j:=3) (v:=.bool false) rfl
 have p4:=HQ5.out.c (j:=4) (v:=.bool false) rfl
 have p5:=HQ5.out.c (j:=5) (v:=.bool true) rfl
 have hn:=zw_bytes HQ5.out.q.z 512
 have hmost:=bytesR_most Qsg.1
 have hblt:=z9t HQ5.out.q.z.bytes 512
 obtain⟨Qb,hQb⟩:∃ Q,z1d Qsg.1 512=Q:=⟨_,rfl⟩
 rw [hQb] at hn hmost hblt
 have HQb:=hid hQb
 have HMO:=hid hmost
 have HBL:=hid hblt
 clear hQb hmost hblt
 go_wp2_with fail
 refine hn.mono ?_
 rintro e w6 ⟨pq,cq,rfl,hsq,hz,hc⟩
 have HQ6:=hid (HQ5.out.low hz hc)
 have HSQ:=hid hsq
 clear hn hz hc hsq HQ5
 clear p0 p1 p2 p3 p4 p5
 obtain⟨S2,Y⟩:=Qb
 dsimp only at HQ6 HSQ HMO HBL
 generalize hny:Y.length=ny at *
 have HNY:=hid hny
 clear hny
 go_wp2_with fail
 refine (zw_err HQ6.out.q.z).mono ?_
 rintro e wz ⟨rfl,rfl⟩
 by_cases he:S2.1=0
 case neg =>
  have de:(S2.1 != 0)=true:=by simpa using he
  have HNE:Hid (S2.1≠0):=hid he
  have HRD:=hid (z9v (D:=⟨S2,{ noX with k:=1,sg:=((Qsg.2:Nat):Int) },0⟩) HR0.out HKK.out rfl (by
   rw [show rdX 1 R0.1=rd1 R0.1 from rfl]
   unfold rd1
   rw [HQsg.out]
   dsimp only
   rw [HQb.out,if_neg he]))
  clear he
  have HRF:Hid (RB (w6.setRow R (rcs (rm 1 ((Qsg.2:Nat):Int) 0 0 false 0 0 0 0 0))) R (rm 1 ((Qsg.2:Nat):Int) 0 0 false 0 0 0 0 0)):=hid (HQ6.out.q.res.set _)
  have HG:Hid (z2b W B Bs (.returned (.tuple #[.agg (rcs (rm 1 ((Qsg.2:Nat):Int) 0 0 false 0 0 0 0 0)),.int .i64 S2.1])) (w6.setRow R (rcs (rm 1 ((Qsg.2:Nat):Int) 0 0 false 0 0 0 0 0)))):=hid (by
   have ho:=HQ6.out.q.ord
   have hcc:Chg (fun k=>k=B) W (w6.setRow R (rcs (rm 1 ((Qsg.2:Nat):Int) 0 0 false 0 0 0 0 0))):=HQ6.out.q.chg.trans (T:=fun k=>k=R) ⟨rfl,rfl,rfl,by simp [World.setRow],fun k _ hn=>setRow_other _ _ _ _ hn⟩ fun k hk e=>by omega
   have hE:z4m Bs=S2.1:=HRD.out.1.trans (by unfold rdE endR;rw [if_pos rfl,if_neg (fun h=>HNE.out h.1)])
   exact⟨(rm 1 ((Qsg.2:Nat):Int) 0 0 false 0 0 0 0 0),[],[],[],by rw [hE],z1b _ _ _ _ _ _ _ _ _ _ _,fun h=>absurd (hE.symm.trans h) HNE.out,hcc,(fun a h=>by have h':(none:Option Addr)=some a:=h;cases h'),(fun a h=>by have h':(none:Option Addr)=some a:=h;cases h'),(fun a h=>by have h':(none:Option Addr)=some a:=h;cases h')⟩)
  go_wp2_with (first | ((with_reducible refine z0q HQ6.out.q.x ?_ ?_);rfl) | ((with_reducible refine z0e (rm 1 ((Qsg.2:Nat):Int) 0 0 false 0 0 0 0 0) HQ6.out.q.res ?_ ?_ ?_);rfl;rfl))
  (try simp only [Exit.inBlock,Exit.then])
  refine bodyPost_ret (v:=.tuple #[.agg (rcs (rm 1 ((Qsg.2:Nat):Int) 0 0 false 0 0 0 0 0)),.int .i64 S2.1]) ?_ rfl HG.out
  exact z0m rfl _ _ R (rm 1 ((Qsg.2:Nat):Int) 0 0 false 0 0 0 0 0) _ rfl rfl HRF.out
 have de:(S2.1 != 0)=false:=by simp [he]
 have HZE:=hid he
 clear he
 go_wp2_with fail
 have hdc:=zdecode2 pq ny cq Y w6 (HWD.out w6 HQ6.out.q.chg) HSQ.out (by have:=HMO.out;omega)
 refine hdc.mono ?_
 rintro e w7 ⟨lp5,lc5,tp5,tc5,wp5,wc5,rfl,hP5,hb5,hf1,hf2,hf3⟩
 have hxl:=z0g HQ6.out.q.x
 have HFR:Hid ((∀ a,lp5=some a→X<a.block)∧(∀ a,tp5=some a→X<a.block)∧(∀ a,wp5=some a→X<a.block)):=hid ⟨fun a h=>by have:=hf1 a h;omega,fun a h=>by have:=hf2 a h;omega,fun a h=>by have:=hf3 a h;omega⟩
 clear hf1 hf2 hf3 hxl
 have HQ7:=hid (HQ6.out.later hb5)
 clear hb5 hdc HQ6 HSQ
 generalize hdp:decP Y=dp at *
 have HDP:=hid hdp
 clear hdp
 obtain⟨er,k2,od2,po2,L2,T2,M2,sk2,fr2,to2,q2⟩:=dp
 dsimp only at hP5 ⊢
 generalize hl5:L2.length=ln5 at *
 generalize ht5:T2.length=tn5 at *
 generalize hw5:M2.length=wn5 at *
 clear hl5 ht5 hw5
 have HP5:=hid hP5
 clear hP5
 obtain⟨pv,hpv⟩:∃ pv:Rv,pv=⟨0,0,0,0,false,0,0,0,0,0,k2,od2,po2,lp5,ln5,lc5,tp5,tn5,tc5,wp5,wn5,wc5,sk2,fr2,to2,q2⟩:=⟨_,rfl⟩
 have HPV:=hid hpv
 obtain⟨rr,hrr⟩:∃ rr:Rv,Rv.withP (rm 1 ((Qsg.2:Nat):Int) 0 0 false 0 0 0 0 0) pv=rr:=⟨_,rfl⟩
 have HRR:=hid hrr
 obtain⟨w8,hwn,hQn⟩:∃ w8,w7.setRow X (rcs rr)=w8∧Qp W w8 N B R X Pb #[.bool true,.bool false,.bool false,.bool false,.bool false,.bool true] S2 rr:=⟨_,rfl,HQ7.out.set _⟩
 have HWx:=hid hwn
 have HQ8:=hid hQn
 have hcn:Chg (fun k=>k=X) w7 w8:=by rw [← hwn];exact⟨rfl,rfl,rfl,by simp [World.setRow],fun k _ hn=>setRow_other _ _ _ _ hn⟩
 have HCN:=hid hcn
 clear hpv hrr hwn hQn hcn
 have hm8:RvM w8 rr L2 T2 M2:=by
  have hp8:=z6e HP5.out HCN.out (fun a h e=>by have:=HFR.out.1 a h;omega) (fun a h e=>by have:=HFR.out.2.1 a h;omega) (fun a h e=>by have:=HFR.out.2.2 a h;omega)
  rw [← HRR.out,HPV.out]
  exact hp8
 have HM8:=hid hm8
 have hfr:(∀ a,rr.lp=some a→X<a.block)∧(∀ a,rr.tp=some a→X<a.block)∧(∀ a,rr.wp=some a→X<a.block):=by
  rw [← HRR.out,HPV.out]
  exact HFR.out
 have HFX:=hid hfr
 have HRD:=hid (z9v (D:=⟨S2,{ noX with k:=1,sg:=((Qsg.2:Nat):Int),pg:=⟨k2,od2,po2,L2,T2,M2,sk2,fr2,to2,q2⟩ },er⟩) HR0.out HKK.out rfl (by
  rw [show rdX 1 R0.1=rd1 R0.1 from rfl]
  unfold rd1
  rw [HQsg.out]
  dsimp only
  rw [HQb.out,if_pos HZE.out]
  dsimp only
  rw [HDP.out]))
 have HXX:Hid (rr.x L2 T2 M2={ noX with k:=1,sg:=((Qsg.2:Nat):Int),pg:=⟨k2,od2,po2,L2,T2,M2,sk2,fr2,to2,q2⟩ }):=hid (by rw [← HRR.out,HPV.out];rfl)
 clear hm8 hfr
 go_upto_region 24 with ((with_reducible refine z4t pv HQ7.out.q.x ?_ ?_ ?_);rfl;(rw [HPV.out];rfl);rw [HRR.out,HWx.out])
 clear HPV HRR HWx HCN HP5 HQ7 HFR de
 by_cases he:er=0
 case neg =>
  have de:(er != 0)=true:=by simpa using he
  have HNE:Hid (er≠0):=hid he
  clear he
  have HRF:Hid (RB (w8.setRow R (rcs rr)) R rr):=hid (HQ8.out.q.res.set _)
  have HG:Hid (z2b W B Bs (.returned (.tuple #[.agg (rcs rr),.int .i64 er])) (w8.setRow R (rcs rr))):=hid (by
   have ho:=HQ8.out.q.ord
   have hcc:Chg (fun k=>k=B) W (w8.setRow R (rcs rr)):=HQ8.out.q.chg.trans (T:=fun k=>k=R) ⟨rfl,rfl,rfl,by simp [World.setRow],fun k _ hn=>setRow_other _ _ _ _ hn⟩ fun k hk e=>by omega
   have hE:z4m Bs=er:=HRD.out.1.trans (by unfold rdE;rw [if_neg HNE.out])
   exact⟨rr,L2,T2,M2,by rw [hE],z6e HM8.out (S:=fun k=>k=R) ⟨rfl,rfl,rfl,by simp [World.setRow],fun k _ hn=>setRow_other _ _ _ _ hn⟩ (fun a h e=>by have:=HFX.out.1 a h;omega) (fun a h e=>by have:=HFX.out.2.1 a h;omega) (fun a h e=>by have:=HFX.out.2.2 a h;omega),fun h=>absurd (hE.symm.trans h) HNE.out,hcc,fun a h=>by have:=HFX.out.1 a h;omega,fun a h=>by have:=HFX.out.2.1 a h;omega,fun a h=>by have:=HFX.out.2.2 a h;omega⟩)
  go_wp2_with (first | ((with_reducible refine z0q HQ8.out.q.x ?_ ?_);rfl) | ((with_reducible refine z0e rr HQ8.out.q.res ?_ ?_ ?_);rfl;rfl))
  (try simp only [Exit.inBlock,Exit.then])
  refine bodyPost_ret (v:=.tuple #[.agg (rcs rr),.int .i64 er]) ?_ rfl HG.out
  exact z0m rfl _ _ R rr _ rfl rfl HRF.out
 subst he
 go_wp2_with fail
 have HXn:=hid HQ8.out.q.x
 have hd:=HQ8.out.later (show Below w8.heap.size w8 w8.drew from (Below.refl _ _).drew)
 have HQd:=hid hd
 have HBX:Hid (RB w8.drew X rr):=hid hd.q.x
 clear hd
 have HM9:Hid (RvM w8.drew rr L2 T2 M2):=hid (PgM.later HM8.out (show Below w8.heap.size w8 w8.drew from (Below.refl _ _).drew))
 refine wp_region_held_drew (S:=fun w'=>Hid (RB w' X rr)) (by kernel_rfl) HBX (fun hHeld=>?_)
 refine wpAnyH_take (i:=0) (oi:=⟨some 90,_,_,_,_,_⟩) (v:=.agg (rcs rr)) rfl (by kernel_rfl) (by kernel_rfl) (by kernel_rfl) (fun _ _ _ h=>h) (Or.inl ⟨by rfl,fun w' hw'=>z1z rfl (Hid.out hw')⟩) (by assumption) ?_
 simp only [Act.put,sIB,sCZ,sCS]
 refine wpAnyH_take (i:=1) (oi:=⟨some 91,_,_,_,_,_⟩) (v:=.pointer (some ⟨B,0,none⟩)) rfl (by kernel_rfl) (by kernel_rfl) (by kernel_rfl) (fun _ _ _ h=>h) (Or.inl ⟨by rfl,fun w' hw'=>?_⟩) (by assumption) ?_
 · clear hHeld
   go_simp
 simp only [Act.put,sIB,sCZ,sCS]
 generalize w8.drew=Wd at *
 refine wpAnyH_ready (rs:=[2]) (by kernel_rfl) (by simp) (AllReadyH.cons rfl (fun K hK=>?_) AllReadyH.nil)
 go_simp
 go_wp2_with fail
 refine (z7e HQd.out.q.z).mono ?_
 rintro e wz ⟨rfl,rfl⟩
 go_wp2_with fail
 refine hK.out _ _ HBX (fun hHeld2=>?_)
 clear hK K hHeld
 have hHeld:=hHeld2
 clear hHeld2
 (try simp only [Act.put,sIB,sCZ,sCS])
 refine wpAnyH_ready (rs:=[3]) (by kernel_rfl) (by simp) (AllReadyH.cons rfl (fun K hK=>?_) AllReadyH.nil)
 rw [if_pos (by rfl)]
 refine wp_store_row 51 _ _ rfl R (rcs rr) rfl rfl 51 _ HQd.out.q.res (by kernel_rfl) rfl (z2c _) ?_
 have HB2:Hid (RB (Wd.setRow R (rcs rr)) X rr):=hid ((setRow_other _ _ _ _ (by have:=HQd.out.q.ord;omega)).trans HBX.out)
 refine hK.out _ _ HB2 (fun hHeld2=>?_)
 clear hK K hHeld
 have hHeld:=hHeld2
 clear hHeld2
 (try simp only [Act.put,sIB,sCZ,sCS])
 refine wpAnyH_take (i:=4) (oi:=⟨some 3,_,_,_,_,_⟩) (v:=.int .i64 (endR S2)) rfl (by kernel_rfl) (by kernel_rfl) (by kernel_rfl) (fun _ _ _ h=>h) (Or.inl ⟨by rfl,fun w' hw'=>?_⟩) (by assumption) ?_
 · clear hHeld
   go_simp
 simp only [Act.put,sIB,sCZ,sCS]
 refine wpAnyH_done (by kernel_rfl) ?_ _
 clear hHeld
 have HRF:Hid (RB (Wd.setRow R (rcs rr)) R rr):=hid (HQd.out.q.res.set _)
 have HG:Hid (z2b W B Bs (.returned (.tuple #[.agg (rcs rr),.int .i64 (endR S2)])) (Wd.setRow R (rcs rr))):=hid (by
  have ho:=HQd.out.q.ord
  have hcc:Chg (fun k=>k=B) W (Wd.setRow R (rcs rr)):=HQd.out.q.chg.trans (T:=fun k=>k=R) ⟨rfl,rfl,rfl,by simp [World.setRow],fun k _ hn=>setRow_other _ _ _ _ hn⟩ fun k hk e=>by omega
  have hE:z4m Bs=endR S2:=HRD.out.1
  refine⟨rr,L2,T2,M2,by rw [hE],z6e HM9.out (S:=fun k=>k=R) ⟨rfl,rfl,rfl,by simp [World.setRow],fun k _ hn=>setRow_other _ _ _ _ hn⟩ (fun a h e=>by have:=HFX.out.1 a h;omega) (fun a h e=>by have:=HFX.out.2.1 a h;omega) (fun a h e=>by have:=HFX.out.2.2 a h;omega),fun _=>?_,hcc,fun a h=>by have:=HFX.out.1 a h;have:=HQd.out.q.ord;omega,fun a h=>by have:=HFX.out.2.1 a h;have:=HQd.out.q.ord;omega,fun a h=>by have:=HFX.out.2.2 a h;have:=HQd.out.q.ord;omega⟩
  rw [HRD.out.2]
  exact HXX.out)
 go_wp2_with fail
 refine bodyPost_ret (v:=.tuple #[.agg (rcs rr),.int .i64 (endR S2)]) ?_ rfl HG.out
 exact z0m rfl _ _ R rr _ rfl rfl HRF.out
theorem rec_read2 (W:World) (N B:Nat) (Bs:List Nat) (hz:Zw W N B (0,Bs)) (hk:(((numR ((0,Bs):St) 1).2:Nat):Int)=2):Calls Tryz.prog 92 #[.pointer (some ⟨B,0,none⟩)] W (z2b W B Bs):=by
 obtain⟨R,hR⟩:∃ R,W.heap.size=R:=⟨_,rfl⟩
 obtain⟨W0,hW0,hr0,hb0⟩:∃ W0,W.alloc (.cells zr 51)=W0∧RB W0 R rz∧Below W.heap.size W W0:=⟨_,rfl,by rw [← hR];exact z0b W _,(Below.refl _ _).alloc (Nat.le_refl _) _⟩
 have HZ0:=hid (hz.below hb0)
 have HRE:=hid hR
 have HW0:=hid hW0
 have HR0b:=hid hr0
 have HB0:=hid hb0
 have HNR:Hid (N≤R):=hid (by have:=hz.size;omega)
 obtain⟨R0,hR0⟩:∃ Q,numR ((0,Bs):St) 1=Q:=⟨_,rfl⟩
 have hn:=z2k HZ0.out 1
 have hf:=z3e (S:=(0,Bs)) HZ0.out.bytes
 rw [hR0] at hn hf hk
 have HR0:=hid hR0
 have hx0:IntKind.u8.wrap ((R0.2:Nat):Int)=(R0.2:Nat):=z1g hf
 rw [hk] at hn hx0
 have HKK:=hid hk
 clear hR hW0 hr0 hb0 hR0 hf hz hk
 go_enter Tryz.func92,Tryz.ntmps92
 go_upto_region 1 with (fail)
 rw [HW0.out,HRE.out]
 go_wp2_with fail
 refine hn.mono ?_
 rintro e w1 ⟨rfl,hz1,hc1⟩
 obtain⟨X,hX⟩:∃ X,w1.heap.size=X:=⟨_,rfl⟩
 have hRX:R<X:=by have:=z0g HR0b.out;have:=hc1.size;omega
 have hlow:=HZ0.out.low
 have hNR:=HNR.out
 have hres:=HR0b.out.chg hc1 (by omega)
 have hch0:Chg (fun k=>k=B) W w1:=(Chg.of_below (S:=fun k=>k=B) HB0.out).trans hc1 fun _ _ e=>e
 obtain⟨w1a,hw1a,hxa,hba⟩:∃ w1a,w1.alloc (.cells zr 51)=w1a∧RB w1a X rz∧Below w1.heap.size w1 w1a:=⟨_,rfl,by rw [← hX];exact z0b w1 _,(Below.refl _ _).alloc (Nat.le_refl _) _⟩
 have hQa:Qz W w1a N B R X R0.1 rz:=⟨hz1.below hba,hxa,hres.later hba,hch0.trans (Chg.of_below (S:=fun k=>k=B) hba) fun _ _ e=>e,by omega,hRX,by have:=HRE.out;omega⟩
 obtain⟨w2,hw2,hQ2⟩:∃ w2,w1a.setRow X (rcs (rk 2))=w2∧Qz W w2 N B R X R0.1 (rk 2):=⟨_,rfl,hQa.set _⟩
 have HXa:=hid hxa
 have HW1a:=hid hw1a
 have HW2:=hid hw2
 have HQ2:=hid hQ2
 have HXE:=hid hX
 clear hz1 hc1 hX hRX hlow hNR hres hch0 hw1a hxa hba hQa hw2 hQ2 hn
 have c0:w2.cell? ⟨X,0,none⟩=some (.int .u8 2):=z0a HQ2.out.x rfl
 go_wp2_with ((try rw [HXE.out]);(try rw [HW1a.out]);(with_reducible refine z0e (rk 2) HXa.out ?_ ?_ ?_);rfl;rfl;rw [HW2.out])
 have hpa:=z1m 2 w2
 unfold z1k at hpa
 rw [show ptc 2=#[.bool true,.bool true,.bool true,.bool false,.bool false,.bool false] from rfl,show kOk 2=true from rfl] at hpa
 refine hpa.mono ?_
 rintro e w3 ⟨rfl,h3⟩
 have HQ3:=hid (HQ2.out.later h3)
 clear h3 hpa c0 HQ2 hx0
 obtain⟨Pb,hPb⟩:∃ n,w3.heap.size=n:=⟨_,rfl⟩
 obtain⟨w4,hwn,hxn,hbn⟩:∃ w4,(w3.alloc (.cells pz 194)).setRow Pb #[.bool true,.bool true,.bool true,.bool false,.bool false,.bool false]=w4∧w4.heap[Pb]?=some (.cells #[.bool true,.bool true,.bool true,.bool false,.bool false,.bool false] 194 (0,0))∧Below w3.heap.size w3 w4:=⟨_,rfl,by rw [← hPb];exact setRow_heap _ _ _ _ _ _ (z0b w3 _),below_setRow ((Below.refl _ _).alloc (Nat.le_refl _) _) (by omega) _⟩
 have hxz:=z0b w3 (.cells pz 194)
 rw [hPb] at hxz
 have HQ4:Hid (Qp W w4 N B R X Pb #[.bool true,.bool true,.bool true,.bool false,.bool false,.bool false] R0.1 (rk 2)):=hid ⟨HQ3.out.later hbn,hxn,by have:=z0g HQ3.out.x;omega⟩
 have HPZ:=hid hxz
 have HWN:=hid hwn
 have HNN:=hid hPb
 have HS6:Hid ((#[.bool true,.bool true,.bool true,.bool false,.bool false,.bool false]:Array Value).size=6):=hid rfl
 have HA6:Hid ((#[.bool true,.bool true,.bool true,.bool false,.bool false,.bool false]:Array Value).all (·.oneCell')=true):=hid (by simp [Value.oneCell'])
 clear hxz hxn hbn hwn hPb HQ3
 have p0:=HQ4.out.c (j:=0) (v:=.bool true) rfl
 have p1:=HQ4.out.c (j:=1) (v:=.bool true) rfl
 have p2:=HQ4.out.c (j:=2) (v:=.bool true) rfl
 have p3:=HQ4.out.c (j:=3) (v:=.bool false) rfl
 have p4:=HQ4.out.c (j:=4) (v:=.bool false) rfl
 have p5:=HQ4.out.c (j:=5) (v:=.bool false) rfl
 go_wp2_with ((try rw [HNN.out]);(with_reducible refine z0l #[.bool true,.bool true,.bool true,.bool false,.bool false,.bool false] HS6.out HA6.out HPZ.out ?_ ?_ ?_);rfl;rfl;rw [HWN.out])
 have hn:=z2k HQ4.out.q.z 4
 obtain⟨Qsg,hQsg⟩:∃ Q,numR R0.1 4=Q:=⟨_,rfl⟩
 have hf:=z8u HQ4.out.q.z.bytes
 rw [hQsg] at hn hf
 have hxsg:IntKind.u32.wrap ((Qsg.2:Nat):Int)=(Qsg.2:Nat):=z1w hf
 clear hf
 have HQsg:=hid hQsg
 clear hQsg
 refine hn.mono ?_
 rintro e y5 ⟨rfl,hz,hc⟩
 have HQb:=hid (HQ4.out.low hz hc)
 clear hz hc hn HQ4
 clear p0 p1 p2 p3 p4 p5
 obtain⟨cy,cf⟩:=HQb.out.q.cx (j:=1) (v:=.int .u32 0) rfl
 go_upto_region 7 with (fail)
 clear cy cf hxsg
 have hq:=HQb.out.put 1 (.int .u32 ((Qsg.2:Nat):Int)) (rm 2 ((Qsg.2:Nat):Int) 0 0 false 0 0 0 0 0) rfl
 generalize y5.setCell ⟨X,1,none⟩ (.int .u32 ((Qsg.2:Nat):Int))=w5 at *
 have HQ5:=hid hq
 clear hq HQb
 have p0:=HQ5.out.c (j:=0) (v:=.bool true) rfl
 have p1:=HQ5.out.c (j:=1) (v:=.bool true) rfl
 have p2:=HQ5.out.c (j:=2) (v:=.bool true) rfl
 have p3:=HQ5.out.c (j:=3) (v:=.bool false) rfl
 have p4:=HQ5.out.c (j:=4) (v:=.bool false) rfl
 have p5:=HQ5.out.c (j:=5) (v:=.bool false) rfl
 go_wp2_with fail
 have hn:=z2k HQ5.out.q.z 4
 obtain⟨Qtx,hQtx⟩:∃ Q,numR Qsg.1 4=Q:=⟨_,rfl⟩
 have hf:=z8u HQ5.out.q.z.bytes
 rw [hQtx] at hn hf
 have hxtx:IntKind.u32.wrap ((Qtx.2:Nat):Int)=(Qtx.2:Nat):=z1w hf
 clear hf
 have HQtx:=hid hQtx
 clear hQtx
 refine hn.mono ?_
 rintro e y6 ⟨rfl,hz,hc⟩
 have HQb:=hid (HQ5.out.low hz hc)
 clear hz hc hn HQ5
 clear p0 p1 p2 p3 p4 p5
 obtain⟨cy,cf⟩:=HQb.out.q.cx (j:=2) (v:=.int .u32 0) rfl
 go_upto_region 9 with (fail)
 clear cy cf hxtx
 have hq:=HQb.out.put 2 (.int .u32 ((Qtx.2:Nat):Int)) (rm 2 ((Qsg.2:Nat):Int) ((Qtx.2:Nat):Int) 0 false 0 0 0 0 0) rfl
 generalize y6.setCell ⟨X,2,none⟩ (.int .u32 ((Qtx.2:Nat):Int))=w6 at *
 have HQ6:=hid hq
 clear hq HQb
 have p0:=HQ6.out.c (j:=0) (v:=.bool true) rfl
 have p1:=HQ6.out.c (j:=1) (v:=.bool true) rfl
 have p2:=HQ6.out.c (j:=2) (v:=.bool true) rfl
 have p3:=HQ6.out.c (j:=3) (v:=.bool false) rfl
 have p4:=HQ6.out.c (j:=4) (v:=.bool false) rfl
 have p5:=HQ6.out.c (j:=5) (v:=.bool false) rfl
 go_wp2_with fail
 have hn:=z2k HQ6.out.q.z 1
 obtain⟨Qst,hQst⟩:∃ Q,numR Qtx.1 1=Q:=⟨_,rfl⟩
 have hf:=z3e HQ6.out.q.z.bytes
 rw [hQst] at hn hf
 have hxst:IntKind.u8.wrap ((Qst.2:Nat):Int)=(Qst.2:Nat):=z1g hf
 clear hf
 have HQst:=hid hQst
 clear hQst
 refine hn.mono ?_
 rintro e y7 ⟨rfl,hz,hc⟩
 have HQb:=hid (HQ6.out.low hz hc)
 clear hz hc hn HQ6
 clear p0 p1 p2 p3 p4 p5
 obtain⟨cy,cf⟩:=HQb.out.q.cx (j:=3) (v:=.int .u8 0) rfl
 go_upto_region 11 with (fail)
 clear cy cf hxst
 have hq:=HQb.out.put 3 (.int .u8 ((Qst.2:Nat):Int)) (rm 2 ((Qsg.2:Nat):Int) ((Qtx.2:Nat):Int) ((Qst.2:Nat):Int) false 0 0 0 0 0) rfl
 generalize y7.setCell ⟨X,3,none⟩ (.int .u8 ((Qst.2:Nat):Int))=w7 at *
 have HQ7:=hid hq
 clear hq HQb
 have p0:=HQ7.out.c (j:=0) (v:=.bool true) rfl
 have p1:=HQ7.out.c (j:=1) (v:=.bool true) rfl
 have p2:=HQ7.out.c (j:=2) (v:=.bool true) rfl
 have p3:=HQ7.out.c (j:=3) (v:=.bool false) rfl
 have p4:=HQ7.out.c (j:=4) (v:=.bool false) rfl
 have p5:=HQ7.out.c (j:=5) (v:=.bool false) rfl
 go_wp2_with fail
 have hn:=zw_bool HQ7.out.q.z
 obtain⟨Qcp,hQcp⟩:∃ Q,z2v Qst.1=Q:=⟨_,rfl⟩
 rw [hQcp] at hn
 have HQcp:=hid hQcp
 clear hQcp
 refine hn.mono ?_
 rintro e y8 ⟨rfl,hz,hc⟩
 have HQb:=hid (HQ7.out.low hz hc)
 clear hz hc hn HQ7
 clear p0 p1 p2 p3 p4 p5
 obtain⟨cy,cf⟩:=HQb.out.q.cx (j:=4) (v:=.bool false) rfl
 go_upto_region 12 with (fail)
 clear cy cf
 have hq:=HQb.out.put 4 (.bool Qcp.2) (rm 2 ((Qsg.2:Nat):Int) ((Qtx.2:Nat):Int) ((Qst.2:Nat):Int) Qcp.2 0 0 0 0 0) rfl
 generalize y8.setCell ⟨X,4,none⟩ (.bool Qcp.2)=w8 at *
 have HQ8:=hid hq
 clear hq HQb
 have p0:=HQ8.out.c (j:=0) (v:=.bool true) rfl
 have p1:=HQ8.out.c (j:=1) (v:=.bool true) rfl
 have p2:=HQ8.out.c (j:=2) (v:=.bool true) rfl
 have p3:=HQ8.out.c (j:=3) (v:=.bool false) rfl
 have p4:=HQ8.out.c (j:=4) (v:=.bool false) rfl
 have p5:=HQ8.out.c (j:=5) (v:=.bool false) rfl
 have HRD:=hid (z9v (D:=⟨Qcp.1,{ noX with k:=2,sg:=((Qsg.2:Nat):Int),tx:=((Qtx.2:Nat):Int),st:=((Qst.2:Nat):Int),cp:=Qcp.2,key:=(0,0,0),d:=0,o:=0 },0⟩) HR0.out HKK.out rfl (by
  simp [rdX,rd2,keyR,HQsg.out,HQtx.out,HQst.out,HQcp.out,noX]))
 go_wp2_with fail
 clear p0 p1 p2 p3 p4 p5
 have HXn:=hid HQ8.out.q.x
 have hd:=HQ8.out.later (show Below w8.heap.size w8 w8.drew from (Below.refl _ _).drew)
 have HQd:=hid hd
 have HBX:Hid (RB w8.drew X (rm 2 ((Qsg.2:Nat):Int) ((Qtx.2:Nat):Int) ((Qst.2:Nat):Int) Qcp.2 0 0 0 0 0)):=hid hd.q.x
 clear hd
 refine wp_region_held_drew (S:=fun w'=>Hid (RB w' X (rm 2 ((Qsg.2:Nat):Int) ((Qtx.2:Nat):Int) ((Qst.2:Nat):Int) Qcp.2 0 0 0 0 0))) (by kernel_rfl) HBX (fun hHeld=>?_)
 refine wpAnyH_take (i:=0) (oi:=⟨some 90,_,_,_,_,_⟩) (v:=.agg (rcs (rm 2 ((Qsg.2:Nat):Int) ((Qtx.2:Nat):Int) ((Qst.2:Nat):Int) Qcp.2 0 0 0 0 0))) rfl (by kernel_rfl) (by kernel_rfl) (by kernel_rfl) (fun _ _ _ h=>h) (Or.inl ⟨by rfl,fun w' hw'=>z1z rfl (Hid.out hw')⟩) (by assumption) ?_
 simp only [Act.put,sIB,sCZ,sCS]
 refine wpAnyH_take (i:=1) (oi:=⟨some 91,_,_,_,_,_⟩) (v:=.pointer (some ⟨B,0,none⟩)) rfl (by kernel_rfl) (by kernel_rfl) (by kernel_rfl) (fun _ _ _ h=>h) (Or.inl ⟨by rfl,fun w' hw'=>?_⟩) (by assumption) ?_
 · clear hHeld
   go_simp
 simp only [Act.put,sIB,sCZ,sCS]
 generalize w8.drew=Wd at *
 refine wpAnyH_ready (rs:=[2]) (by kernel_rfl) (by simp) (AllReadyH.cons rfl (fun K hK=>?_) AllReadyH.nil)
 go_simp
 go_wp2_with fail
 refine (z7e HQd.out.q.z).mono ?_
 rintro e wz ⟨rfl,rfl⟩
 go_wp2_with fail
 refine hK.out _ _ HBX (fun hHeld2=>?_)
 clear hK K hHeld
 have hHeld:=hHeld2
 clear hHeld2
 (try simp only [Act.put,sIB,sCZ,sCS])
 refine wpAnyH_ready (rs:=[3]) (by kernel_rfl) (by simp) (AllReadyH.cons rfl (fun K hK=>?_) AllReadyH.nil)
 rw [if_pos (by rfl)]
 refine wp_store_row 51 _ _ rfl R (rcs (rm 2 ((Qsg.2:Nat):Int) ((Qtx.2:Nat):Int) ((Qst.2:Nat):Int) Qcp.2 0 0 0 0 0)) rfl rfl 51 _ HQd.out.q.res (by kernel_rfl) rfl (z2c _) ?_
 have HB2:Hid (RB (Wd.setRow R (rcs (rm 2 ((Qsg.2:Nat):Int) ((Qtx.2:Nat):Int) ((Qst.2:Nat):Int) Qcp.2 0 0 0 0 0))) X (rm 2 ((Qsg.2:Nat):Int) ((Qtx.2:Nat):Int) ((Qst.2:Nat):Int) Qcp.2 0 0 0 0 0)):=hid ((setRow_other _ _ _ _ (by have:=HQd.out.q.ord;omega)).trans HBX.out)
 refine hK.out _ _ HB2 (fun hHeld2=>?_)
 clear hK K hHeld
 have hHeld:=hHeld2
 clear hHeld2
 (try simp only [Act.put,sIB,sCZ,sCS])
 refine wpAnyH_take (i:=4) (oi:=⟨some 3,_,_,_,_,_⟩) (v:=.int .i64 (endR Qcp.1)) rfl (by kernel_rfl) (by kernel_rfl) (by kernel_rfl) (fun _ _ _ h=>h) (Or.inl ⟨by rfl,fun w' hw'=>?_⟩) (by assumption) ?_
 · clear hHeld
   go_simp
 simp only [Act.put,sIB,sCZ,sCS]
 refine wpAnyH_done (by kernel_rfl) ?_ _
 clear hHeld
 have HRF:Hid (RB (Wd.setRow R (rcs (rm 2 ((Qsg.2:Nat):Int) ((Qtx.2:Nat):Int) ((Qst.2:Nat):Int) Qcp.2 0 0 0 0 0))) R (rm 2 ((Qsg.2:Nat):Int) ((Qtx.2:Nat):Int) ((Qst.2:Nat):Int) Qcp.2 0 0 0 0 0)):=hid (HQd.out.q.res.set _)
 have HG:Hid (z2b W B Bs (.returned (.tuple #[.agg (rcs (rm 2 ((Qsg.2:Nat):Int) ((Qtx.2:Nat):Int) ((Qst.2:Nat):Int) Qcp.2 0 0 0 0 0)),.int .i64 (endR Qcp.1)])) (Wd.setRow R (rcs (rm 2 ((Qsg.2:Nat):Int) ((Qtx.2:Nat):Int) ((Qst.2:Nat):Int) Qcp.2 0 0 0 0 0)))):=hid (by
  have ho:=HQd.out.q.ord
  have hcc:Chg (fun k=>k=B) W (Wd.setRow R (rcs (rm 2 ((Qsg.2:Nat):Int) ((Qtx.2:Nat):Int) ((Qst.2:Nat):Int) Qcp.2 0 0 0 0 0))):=HQd.out.q.chg.trans (T:=fun k=>k=R) ⟨rfl,rfl,rfl,by simp [World.setRow],fun k _ hn=>setRow_other _ _ _ _ hn⟩ fun k hk e=>by omega
  have hE:z4m Bs=endR Qcp.1:=HRD.out.1
  refine⟨(rm 2 ((Qsg.2:Nat):Int) ((Qtx.2:Nat):Int) ((Qst.2:Nat):Int) Qcp.2 0 0 0 0 0),[],[],[],by rw [hE],z1b _ _ _ _ _ _ _ _ _ _ _,fun _=>?_,hcc,(fun a h=>by have h':(none:Option Addr)=some a:=h;cases h'),(fun a h=>by have h':(none:Option Addr)=some a:=h;cases h'),(fun a h=>by have h':(none:Option Addr)=some a:=h;cases h')⟩
  rw [HRD.out.2]
  rfl)
 go_wp2_with fail
 refine bodyPost_ret (v:=.tuple #[.agg (rcs (rm 2 ((Qsg.2:Nat):Int) ((Qtx.2:Nat):Int) ((Qst.2:Nat):Int) Qcp.2 0 0 0 0 0)),.int .i64 (endR Qcp.1)]) ?_ rfl HG.out
 exact z0m rfl _ _ R (rm 2 ((Qsg.2:Nat):Int) ((Qtx.2:Nat):Int) ((Qst.2:Nat):Int) Qcp.2 0 0 0 0 0) _ rfl rfl HRF.out
theorem rec_read3 (W:World) (N B:Nat) (Bs:List Nat) (hz:Zw W N B (0,Bs)) (hk:(((numR ((0,Bs):St) 1).2:Nat):Int)=3):Calls Tryz.prog 92 #[.pointer (some ⟨B,0,none⟩)] W (z2b W B Bs):=by
 obtain⟨R,hR⟩:∃ R,W.heap.size=R:=⟨_,rfl⟩
 obtain⟨W0,hW0,hr0,hb0⟩:∃ W0,W.alloc (.cells zr 51)=W0∧RB W0 R rz∧Below W.heap.size W W0:=⟨_,rfl,by rw [← hR];exact z0b W _,(Below.refl _ _).alloc (Nat.le_refl _) _⟩
 have HZ0:=hid (hz.below hb0)
 have HRE:=hid hR
 have HW0:=hid hW0
 have HR0b:=hid hr0
 have HB0:=hid hb0
 have HNR:Hid (N≤R):=hid (by have:=hz.size;omega)
 obtain⟨R0,hR0⟩:∃ Q,numR ((0,Bs):St) 1=Q:=⟨_,rfl⟩
 have hn:=z2k HZ0.out 1
 have hf:=z3e (S:=(0,Bs)) HZ0.out.bytes
 rw [hR0] at hn hf hk
 have HR0:=hid hR0
 have hx0:IntKind.u8.wrap ((R0.2:Nat):Int)=(R0.2:Nat):=z1g hf
 rw [hk] at hn hx0
 have HKK:=hid hk
 clear hR hW0 hr0 hb0 hR0 hf hz hk
 go_enter Tryz.func92,Tryz.ntmps92
 go_upto_region 1 with (fail)
 rw [HW0.out,HRE.out]
 go_wp2_with fail
 refine hn.mono ?_
 rintro e w1 ⟨rfl,hz1,hc1⟩
 obtain⟨X,hX⟩:∃ X,w1.heap.size=X:=⟨_,rfl⟩
 have hRX:R<X:=by have:=z0g HR0b.out;have:=hc1.size;omega
 have hlow:=HZ0.out.low
 have hNR:=HNR.out
 have hres:=HR0b.out.chg hc1 (by omega)
 have hch0:Chg (fun k=>k=B) W w1:=(Chg.of_below (S:=fun k=>k=B) HB0.out).trans hc1 fun _ _ e=>e
 obtain⟨w1a,hw1a,hxa,hba⟩:∃ w1a,w1.alloc (.cells zr 51)=w1a∧RB w1a X rz∧Below w1.heap.size w1 w1a:=⟨_,rfl,by rw [← hX];exact z0b w1 _,(Below.refl _ _).alloc (Nat.le_refl _) _⟩
 have hQa:Qz W w1a N B R X R0.1 rz:=⟨hz1.below hba,hxa,hres.later hba,hch0.trans (Chg.of_below (S:=fun k=>k=B) hba) fun _ _ e=>e,by omega,hRX,by have:=HRE.out;omega⟩
 obtain⟨w2,hw2,hQ2⟩:∃ w2,w1a.setRow X (rcs (rk 3))=w2∧Qz W w2 N B R X R0.1 (rk 3):=⟨_,rfl,hQa.set _⟩
 have HXa:=hid hxa
 have HW1a:=hid hw1a
 have HW2:=hid hw2
 have HQ2:=hid hQ2
 have HXE:=hid hX
 clear hz1 hc1 hX hRX hlow hNR hres hch0 hw1a hxa hba hQa hw2 hQ2 hn
 have c0:w2.cell? ⟨X,0,none⟩=some (.int .u8 3):=z0a HQ2.out.x rfl
 go_wp2_with ((try rw [HXE.out]);(try rw [HW1a.out]);(with_reducible refine z0e (rk 3) HXa.out ?_ ?_ ?_);rfl;rfl;rw [HW2.out])
 have hpa:=z1m 3 w2
 unfold z1k at hpa
 rw [show ptc 3=#[.bool false,.bool true,.bool false,.bool true,.bool false,.bool false] from rfl,show kOk 3=true from rfl] at hpa
 refine hpa.mono ?_
 rintro e w3 ⟨rfl,h3⟩
 have HQ3:=hid (HQ2.out.later h3)
 clear h3 hpa c0 HQ2 hx0
 obtain⟨Pb,hPb⟩:∃ n,w3.heap.size=n:=⟨_,rfl⟩
 obtain⟨w4,hwn,hxn,hbn⟩:∃ w4,(w3.alloc (.cells pz 194)).setRow Pb #[.bool false,.bool true,.bool false,.bool true,.bool false,.bool false]=w4∧w4.heap[Pb]?=some (.cells #[.bool false,.bool true,.bool false,.bool true,.bool false,.bool false] 194 (0,0))∧Below w3.heap.size w3 w4:=⟨_,rfl,by rw [← hPb];exact setRow_heap _ _ _ _ _ _ (z0b w3 _),below_setRow ((Below.refl _ _).alloc (Nat.le_refl _) _) (by omega) _⟩
 have hxz:=z0b w3 (.cells pz 194)
 rw [hPb] at hxz
 have HQ4:Hid (Qp W w4 N B R X Pb #[.bool false,.bool true,.bool false,.bool true,.bool false,.bool false] R0.1 (rk 3)):=hid ⟨HQ3.out.later hbn,hxn,by have:=z0g HQ3.out.x;omega⟩
 have HPZ:=hid hxz
 have HWN:=hid hwn
 have HNN:=hid hPb
 have HS6:Hid ((#[.bool false,.bool true,.bool false,.bool true,.bool false,.bool false]:Array Value).size=6):=hid rfl
 have HA6:Hid ((#[.bool false,.bool true,.bool false,.bool true,.bool false,.bool false]:Array Value).all (·.oneCell')=true):=hid (by simp [Value.oneCell'])
 clear hxz hxn hbn hwn hPb HQ3
 have p0:=HQ4.out.c (j:=0) (v:=.bool false) rfl
 have p1:=HQ4.out.c (j:=1) (v:=.bool true) rfl
 have p2:=HQ4.out.c (j:=2) (v:=.bool false) rfl
 have p3:=HQ4.out.c (j:=3) (v:=.bool true) rfl
 have p4:=HQ4.out.c (j:=4) (v:=.bool false) rfl
 have p5:=HQ4.out.c (j:=5) (v:=.bool false) rfl
 go_wp2_with ((try rw [HNN.out]);(with_reducible refine z0l #[.bool false,.bool true,.bool false,.bool true,.bool false,.bool false] HS6.out HA6.out HPZ.out ?_ ?_ ?_);rfl;rfl;rw [HWN.out])
 have hn:=z2k HQ4.out.q.z 4
 obtain⟨Qtx,hQtx⟩:∃ Q,numR R0.1 4=Q:=⟨_,rfl⟩
 have hf:=z8u HQ4.out.q.z.bytes
 rw [hQtx] at hn hf
 have hxtx:IntKind.u32.wrap ((Qtx.2:Nat):Int)=(Qtx.2:Nat):=z1w hf
 clear hf
 have HQtx:=hid hQtx
 clear hQtx
 refine hn.mono ?_
 rintro e y5 ⟨rfl,hz,hc⟩
 have HQb:=hid (HQ4.out.low hz hc)
 clear hz hc hn HQ4
 clear p0 p1 p2 p3 p4 p5
 obtain⟨cy,cf⟩:=HQb.out.q.cx (j:=2) (v:=.int .u32 0) rfl
 go_upto_region 9 with (fail)
 clear cy cf hxtx
 have hq:=HQb.out.put 2 (.int .u32 ((Qtx.2:Nat):Int)) (rm 3 0 ((Qtx.2:Nat):Int) 0 false 0 0 0 0 0) rfl
 generalize y5.setCell ⟨X,2,none⟩ (.int .u32 ((Qtx.2:Nat):Int))=w5 at *
 have HQ5:=hid hq
 clear hq HQb
 have p0:=HQ5.out.c (j:=0) (v:=.bool false) rfl
 have p1:=HQ5.out.c (j:=1) (v:=.bool true) rfl
 have p2:=HQ5.out.c (j:=2) (v:=.bool false) rfl
 have p3:=HQ5.out.c (j:=3) (v:=.bool true) rfl
 have p4:=HQ5.out.c (j:=4) (v:=.bool false) rfl
 have p5:=HQ5.out.c (j:=5) (v:=.bool false) rfl
 go_wp2_with fail
 have hn:=z2k HQ5.out.q.z 1
 have hf:=z3e HQ5.out.q.z.bytes
 obtain⟨Qka,hQka⟩:∃ Q,numR Qtx.1 1=Q:=⟨_,rfl⟩
 rw [hQka] at hn hf
 have hxka:IntKind.u8.wrap ((Qka.2:Nat):Int)=(Qka.2:Nat):=z1g hf
 have HQka:=hid hQka
 clear hf hQka
 refine hn.mono ?_
 rintro e w6 ⟨rfl,hz,hc⟩
 have HQ6:=hid (HQ5.out.low hz hc)
 clear hn hz hc HQ5
 go_wp2_with fail
 have hn:=z2k HQ6.out.q.z 1
 have hf:=z3e HQ6.out.q.z.bytes
 obtain⟨Qkb,hQkb⟩:∃ Q,numR Qka.1 1=Q:=⟨_,rfl⟩
 rw [hQkb] at hn hf
 have hxkb:IntKind.u8.wrap ((Qkb.2:Nat):Int)=(Qkb.2:Nat):=z1g hf
 have HQkb:=hid hQkb
 clear hf hQkb
 refine hn.mono ?_
 rintro e w7 ⟨rfl,hz,hc⟩
 have HQ7:=hid (HQ6.out.low hz hc)
 clear hn hz hc HQ6
 go_wp2_with fail
 have hn:=z2k HQ7.out.q.z 1
 have hf:=z3e HQ7.out.q.z.bytes
 obtain⟨Qkc,hQkc⟩:∃ Q,numR Qkb.1 1=Q:=⟨_,rfl⟩
 rw [hQkc] at hn hf
 have hxkc:IntKind.u8.wrap ((Qkc.2:Nat):Int)=(Qkc.2:Nat):=z1g hf
 have HQkc:=hid hQkc
 clear hf hQkc
 refine hn.mono ?_
 rintro e w8 ⟨rfl,hz,hc⟩
 have HQ8:=hid (HQ7.out.low hz hc)
 clear hn hz hc HQ7
 obtain⟨w9,hgen,hq⟩:∃ w9,w8.setRow X (rcs { (rm 3 0 ((Qtx.2:Nat):Int) 0 false 0 0 0 0 0) with ka:=((Qka.2:Nat):Int),kb:=((Qkb.2:Nat):Int),kc:=((Qkc.2:Nat):Int) })=w9∧Qp W w9 N B R X Pb #[.bool false,.bool true,.bool false,.bool true,.bool false,.bool false] Qkc.1 (rm 3 0 ((Qtx.2:Nat):Int) 0 false ((Qka.2:Nat):Int) ((Qkb.2:Nat):Int) ((Qkc.2:Nat):Int) 0 0):=⟨_,rfl,HQ8.out.set (rm 3 0 ((Qtx.2:Nat):Int) 0 false ((Qka.2:Nat):Int) ((Qkb.2:Nat):Int) ((Qkc.2:Nat):Int) 0 0)⟩
 have HGEN:=hid hgen
 have HQ9:=hid hq
 clear hgen hq
 go_upto_region 14 with ((with_reducible refine z3n ((Qka.2:Nat):Int) ((Qkb.2:Nat):Int) ((Qkc.2:Nat):Int) HQ8.out.q.x ?_ ?_ ?_);rfl;rfl;rw [HGEN.out])
 clear HGEN hxka hxkb hxkc HQ8
 clear p0 p1 p2 p3 p4 p5
 have p0:=HQ9.out.c (j:=0) (v:=.bool false) rfl
 have p1:=HQ9.out.c (j:=1) (v:=.bool true) rfl
 have p2:=HQ9.out.c (j:=2) (v:=.bool false) rfl
 have p3:=HQ9.out.c (j:=3) (v:=.bool true) rfl
 have p4:=HQ9.out.c (j:=4) (v:=.bool false) rfl
 have p5:=HQ9.out.c (j:=5) (v:=.bool false) rfl
 go_wp2_with fail
 have hn:=zw_int HQ9.out.q.z
 obtain⟨Qd,hQd⟩:∃ Q,numR Qkc.1 8=Q:=⟨_,rfl⟩
 rw [hQd] at hn
 have HQd:=hid hQd
 clear hQd
 refine hn.mono ?_
 rintro e y10 ⟨rfl,hz,hc⟩
 have HQb:=hid (HQ9.out.low hz hc)
 clear hz hc hn HQ9
 clear p0 p1 p2 p3 p4 p5
 obtain⟨cy,cf⟩:=HQb.out.q.cx (j:=8) (v:=.int .i64 0) rfl
 go_upto_region 15 with (fail)
 clear cy cf
 have hq:=HQb.out.put 8 (.int .i64 (sgn Qd.2)) (rm 3 0 ((Qtx.2:Nat):Int) 0 false ((Qka.2:Nat):Int) ((Qkb.2:Nat):Int) ((Qkc.2:Nat):Int) (sgn Qd.2) 0) rfl
 generalize y10.setCell ⟨X,8,none⟩ (.int .i64 (sgn Qd.2))=w10 at *
 have HQ10:=hid hq
 clear hq HQb
 have p0:=HQ10.out.c (j:=0) (v:=.bool false) rfl
 have p1:=HQ10.out.c (j:=1) (v:=.bool true) rfl
 have p2:=HQ10.out.c (j:=2) (v:=.bool false) rfl
 have p3:=HQ10.out.c (j:=3) (v:=.bool true) rfl
 have p4:=HQ10.out.c (j:=4) (v:=.bool false) rfl
 have p5:=HQ10.out.c (j:=5) (v:=.bool false) rfl
 have HRD:=hid (z9v (D:=⟨Qd.1,{ noX with k:=3,sg:=0,tx:=((Qtx.2:Nat):Int),st:=0,cp:=false,key:=(((Qka.2:Nat):Int),((Qkb.2:Nat):Int),((Qkc.2:Nat):Int)),d:=(sgn Qd.2),o:=0 },0⟩) HR0.out HKK.out rfl (by
  simp [rdX,rd3,keyR,HQtx.out,HQka.out,HQkb.out,HQkc.out,HQd.out,noX]))
 go_wp2_with fail
 clear p0 p1 p2 p3 p4 p5
 have HXn:=hid HQ10.out.q.x
 have hd:=HQ10.out.later (show Below w10.heap.size w10 w10.drew from (Below.refl _ _).drew)
 have HQd:=hid hd
 have HBX:Hid (RB w10.drew X (rm 3 0 ((Qtx.2:Nat):Int) 0 false ((Qka.2:Nat):Int) ((Qkb.2:Nat):Int) ((Qkc.2:Nat):Int) (sgn Qd.2) 0)):=hid hd.q.x
 clear hd
 refine wp_region_held_drew (S:=fun w'=>Hid (RB w' X (rm 3 0 ((Qtx.2:Nat):Int) 0 false ((Qka.2:Nat):Int) ((Qkb.2:Nat):Int) ((Qkc.2:Nat):Int) (sgn Qd.2) 0))) (by kernel_rfl) HBX (fun hHeld=>?_)
 refine wpAnyH_take (i:=0) (oi:=⟨some 90,_,_,_,_,_⟩) (v:=.agg (rcs (rm 3 0 ((Qtx.2:Nat):Int) 0 false ((Qka.2:Nat):Int) ((Qkb.2:Nat):Int) ((Qkc.2:Nat):Int) (sgn Qd.2) 0))) rfl (by kernel_rfl) (by kernel_rfl) (by kernel_rfl) (fun _ _ _ h=>h) (Or.inl ⟨by rfl,fun w' hw'=>z1z rfl (Hid.out hw')⟩) (by assumption) ?_
 simp only [Act.put,sIB,sCZ,sCS]
 refine wpAnyH_take (i:=1) (oi:=⟨some 91,_,_,_,_,_⟩) (v:=.pointer (some ⟨B,0,none⟩)) rfl (by kernel_rfl) (by kernel_rfl) (by kernel_rfl) (fun _ _ _ h=>h) (Or.inl ⟨by rfl,fun w' hw'=>?_⟩) (by assumption) ?_
 · clear hHeld
   go_simp
 simp only [Act.put,sIB,sCZ,sCS]
 generalize w10.drew=Wd at *
 refine wpAnyH_ready (rs:=[2]) (by kernel_rfl) (by simp) (AllReadyH.cons rfl (fun K hK=>?_) AllReadyH.nil)
 go_simp
 go_wp2_with fail
 refine (z7e HQd.out.q.z).mono ?_
 rintro e wz ⟨rfl,rfl⟩
 go_wp2_with fail
 refine hK.out _ _ HBX (fun hHeld2=>?_)
 clear hK K hHeld
 have hHeld:=hHeld2
 clear hHeld2
 (try simp only [Act.put,sIB,sCZ,sCS])
 refine wpAnyH_ready (rs:=[3]) (by kernel_rfl) (by simp) (AllReadyH.cons rfl (fun K hK=>?_) AllReadyH.nil)
 rw [if_pos (by rfl)]
 refine wp_store_row 51 _ _ rfl R (rcs (rm 3 0 ((Qtx.2:Nat):Int) 0 false ((Qka.2:Nat):Int) ((Qkb.2:Nat):Int) ((Qkc.2:Nat):Int) (sgn Qd.2) 0)) rfl rfl 51 _ HQd.out.q.res (by kernel_rfl) rfl (z2c _) ?_
 have HB2:Hid (RB (Wd.setRow R (rcs (rm 3 0 ((Qtx.2:Nat):Int) 0 false ((Qka.2:Nat):Int) ((Qkb.2:Nat):Int) ((Qkc.2:Nat):Int) (sgn Qd.2) 0))) X (rm 3 0 ((Qtx.2:Nat):Int) 0 false ((Qka.2:Nat):Int) ((Qkb.2:Nat):Int) ((Qkc.2:Nat):Int) (sgn Qd.2) 0)):=hid ((setRow_other _ _ _ _ (by have:=HQd.out.q.ord;omega)).trans HBX.out)
 refine hK.out _ _ HB2 (fun hHeld2=>?_)
 clear hK K hHeld
 have hHeld:=hHeld2
 clear hHeld2
 (try simp only [Act.put,sIB,sCZ,sCS])
 refine wpAnyH_take (i:=4) (oi:=⟨some 3,_,_,_,_,_⟩) (v:=.int .i64 (endR Qd.1)) rfl (by kernel_rfl) (by kernel_rfl) (by kernel_rfl) (fun _ _ _ h=>h) (Or.inl ⟨by rfl,fun w' hw'=>?_⟩) (by assumption) ?_
 · clear hHeld
   go_simp
 simp only [Act.put,sIB,sCZ,sCS]
 refine wpAnyH_done (by kernel_rfl) ?_ _
 clear hHeld
 have HRF:Hid (RB (Wd.setRow R (rcs (rm 3 0 ((Qtx.2:Nat):Int) 0 false ((Qka.2:Nat):Int) ((Qkb.2:Nat):Int) ((Qkc.2:Nat):Int) (sgn Qd.2) 0))) R (rm 3 0 ((Qtx.2:Nat):Int) 0 false ((Qka.2:Nat):Int) ((Qkb.2:Nat):Int) ((Qkc.2:Nat):Int) (sgn Qd.2) 0)):=hid (HQd.out.q.res.set _)
 have HG:Hid (z2b W B Bs (.returned (.tuple #[.agg (rcs (rm 3 0 ((Qtx.2:Nat):Int) 0 false ((Qka.2:Nat):Int) ((Qkb.2:Nat):Int) ((Qkc.2:Nat):Int) (sgn Qd.2) 0)),.int .i64 (endR Qd.1)])) (Wd.setRow R (rcs (rm 3 0 ((Qtx.2:Nat):Int) 0 false ((Qka.2:Nat):Int) ((Qkb.2:Nat):Int) ((Qkc.2:Nat):Int) (sgn Qd.2) 0)))):=hid (by
  have ho:=HQd.out.q.ord
  have hcc:Chg (fun k=>k=B) W (Wd.setRow R (rcs (rm 3 0 ((Qtx.2:Nat):Int) 0 false ((Qka.2:Nat):Int) ((Qkb.2:Nat):Int) ((Qkc.2:Nat):Int) (sgn Qd.2) 0))):=HQd.out.q.chg.trans (T:=fun k=>k=R) ⟨rfl,rfl,rfl,by simp [World.setRow],fun k _ hn=>setRow_other _ _ _ _ hn⟩ fun k hk e=>by omega
  have hE:z4m Bs=endR Qd.1:=HRD.out.1
  refine⟨(rm 3 0 ((Qtx.2:Nat):Int) 0 false ((Qka.2:Nat):Int) ((Qkb.2:Nat):Int) ((Qkc.2:Nat):Int) (sgn Qd.2) 0),[],[],[],by rw [hE],z1b _ _ _ _ _ _ _ _ _ _ _,fun _=>?_,hcc,(fun a h=>by have h':(none:Option Addr)=some a:=h;cases h'),(fun a h=>by have h':(none:Option Addr)=some a:=h;cases h'),(fun a h=>by have h':(none:Option Addr)=some a:=h;cases h')⟩
  rw [HRD.out.2]
  rfl)
 go_wp2_with fail
 refine bodyPost_ret (v:=.tuple #[.agg (rcs (rm 3 0 ((Qtx.2:Nat):Int) 0 false ((Qka.2:Nat):Int) ((Qkb.2:Nat):Int) ((Qkc.2:Nat):Int) (sgn Qd.2) 0)),.int .i64 (endR Qd.1)]) ?_ rfl HG.out
 exact z0m rfl _ _ R (rm 3 0 ((Qtx.2:Nat):Int) 0 false ((Qka.2:Nat):Int) ((Qkb.2:Nat):Int) ((Qkc.2:Nat):Int) (sgn Qd.2) 0) _ rfl rfl HRF.out
theorem rec_read4 (W:World) (N B:Nat) (Bs:List Nat) (hz:Zw W N B (0,Bs)) (hk:(((numR ((0,Bs):St) 1).2:Nat):Int)=4):Calls Tryz.prog 92 #[.pointer (some ⟨B,0,none⟩)] W (z2b W B Bs):=by
 obtain⟨R,hR⟩:∃ R,W.heap.size=R:=⟨_,rfl⟩
 obtain⟨W0,hW0,hr0,hb0⟩:∃ W0,W.alloc (.cells zr 51)=W0∧RB W0 R rz∧Below W.heap.size W W0:=⟨_,rfl,by rw [← hR];exact z0b W _,(Below.refl _ _).alloc (Nat.le_refl _) _⟩
 have HZ0:=hid (hz.below hb0)
 have HRE:=hid hR
 have HW0:=hid hW0
 have HR0b:=hid hr0
 have HB0:=hid hb0
 have HNR:Hid (N≤R):=hid (by have:=hz.size;omega)
 obtain⟨R0,hR0⟩:∃ Q,numR ((0,Bs):St) 1=Q:=⟨_,rfl⟩
 have hn:=z2k HZ0.out 1
 have hf:=z3e (S:=(0,Bs)) HZ0.out.bytes
 rw [hR0] at hn hf hk
 have HR0:=hid hR0
 have hx0:IntKind.u8.wrap ((R0.2:Nat):Int)=(R0.2:Nat):=z1g hf
 rw [hk] at hn hx0
 have HKK:=hid hk
 clear hR hW0 hr0 hb0 hR0 hf hz hk
 go_enter Tryz.func92,Tryz.ntmps92
 go_upto_region 1 with (fail)
 rw [HW0.out,HRE.out]
 go_wp2_with fail
 refine hn.mono ?_
 rintro e w1 ⟨rfl,hz1,hc1⟩
 obtain⟨X,hX⟩:∃ X,w1.heap.size=X:=⟨_,rfl⟩
 have hRX:R<X:=by have:=z0g HR0b.out;have:=hc1.size;omega
 have hlow:=HZ0.out.low
 have hNR:=HNR.out
 have hres:=HR0b.out.chg hc1 (by omega)
 have hch0:Chg (fun k=>k=B) W w1:=(Chg.of_below (S:=fun k=>k=B) HB0.out).trans hc1 fun _ _ e=>e
 obtain⟨w1a,hw1a,hxa,hba⟩:∃ w1a,w1.alloc (.cells zr 51)=w1a∧RB w1a X rz∧Below w1.heap.size w1 w1a:=⟨_,rfl,by rw [← hX];exact z0b w1 _,(Below.refl _ _).alloc (Nat.le_refl _) _⟩
 have hQa:Qz W w1a N B R X R0.1 rz:=⟨hz1.below hba,hxa,hres.later hba,hch0.trans (Chg.of_below (S:=fun k=>k=B) hba) fun _ _ e=>e,by omega,hRX,by have:=HRE.out;omega⟩
 obtain⟨w2,hw2,hQ2⟩:∃ w2,w1a.setRow X (rcs (rk 4))=w2∧Qz W w2 N B R X R0.1 (rk 4):=⟨_,rfl,hQa.set _⟩
 have HXa:=hid hxa
 have HW1a:=hid hw1a
 have HW2:=hid hw2
 have HQ2:=hid hQ2
 have HXE:=hid hX
 clear hz1 hc1 hX hRX hlow hNR hres hch0 hw1a hxa hba hQa hw2 hQ2 hn
 have c0:w2.cell? ⟨X,0,none⟩=some (.int .u8 4):=z0a HQ2.out.x rfl
 go_wp2_with ((try rw [HXE.out]);(try rw [HW1a.out]);(with_reducible refine z0e (rk 4) HXa.out ?_ ?_ ?_);rfl;rfl;rw [HW2.out])
 have hpa:=z1m 4 w2
 unfold z1k at hpa
 rw [show ptc 4=#[.bool false,.bool true,.bool false,.bool false,.bool false,.bool false] from rfl,show kOk 4=true from rfl] at hpa
 refine hpa.mono ?_
 rintro e w3 ⟨rfl,h3⟩
 have HQ3:=hid (HQ2.out.later h3)
 clear h3 hpa c0 HQ2 hx0
 obtain⟨Pb,hPb⟩:∃ n,w3.heap.size=n:=⟨_,rfl⟩
 obtain⟨w4,hwn,hxn,hbn⟩:∃ w4,(w3.alloc (.cells pz 194)).setRow Pb #[.bool false,.bool true,.bool false,.bool false,.bool false,.bool false]=w4∧w4.heap[Pb]?=some (.cells #[.bool false,.bool true,.bool false,.bool false,.bool false,.bool false] 194 (0,0))∧Below w3.heap.size w3 w4:=⟨_,rfl,by rw [← hPb];exact setRow_heap _ _ _ _ _ _ (z0b w3 _),below_setRow ((Below.refl _ _).alloc (Nat.le_refl _) _) (by omega) _⟩
 have hxz:=z0b w3 (.cells pz 194)
 rw [hPb] at hxz
 have HQ4:Hid (Qp W w4 N B R X Pb #[.bool false,.bool true,.bool false,.bool false,.bool false,.bool false] R0.1 (rk 4)):=hid ⟨HQ3.out.later hbn,hxn,by have:=z0g HQ3.out.x;omega⟩
 have HPZ:=hid hxz
 have HWN:=hid hwn
 have HNN:=hid hPb
 have HS6:Hid ((#[.bool false,.bool true,.bool false,.bool false,.bool false,.bool false]:Array Value).size=6):=hid rfl
 have HA6:Hid ((#[.bool false,.bool true,.bool false,.bool false,.bool false,.bool false]:Array Value).all (·.oneCell')=true):=hid (by simp [Value.oneCell'])
 clear hxz hxn hbn hwn hPb HQ3
 have p0:=HQ4.out.c (j:=0) (v:=.bool false) rfl
 have p1:=HQ4.out.c (j:=1) (v:=.bool true) rfl
 have p2:=HQ4.out.c (j:=2) (v:=.bool false) rfl
 have p3:=HQ4.out.c (j:=3) (v:=.bool false) rfl
 have p4:=HQ4.out.c (j:=4) (v:=.bool false) rfl
 have p5:=HQ4.out.c (j:=5) (v:=.bool false) rfl
 go_wp2_with ((try rw [HNN.out]);(with_reducible refine z0l #[.bool false,.bool true,.bool false,.bool false,.bool false,.bool false] HS6.out HA6.out HPZ.out ?_ ?_ ?_);rfl;rfl;rw [HWN.out])
 have hn:=z2k HQ4.out.q.z 4
 obtain⟨Qtx,hQtx⟩:∃ Q,numR R0.1 4=Q:=⟨_,rfl⟩
 have hf:=z8u HQ4.out.q.z.bytes
 rw [hQtx] at hn hf
 have hxtx:IntKind.u32.wrap ((Qtx.2:Nat):Int)=(Qtx.2:Nat):=z1w hf
 clear hf
 have HQtx:=hid hQtx
 clear hQtx
 refine hn.mono ?_
 rintro e y5 ⟨rfl,hz,hc⟩
 have HQb:=hid (HQ4.out.low hz hc)
 clear hz hc hn HQ4
 clear p0 p1 p2 p3 p4 p5
 obtain⟨cy,cf⟩:=HQb.out.q.cx (j:=2) (v:=.int .u32 0) rfl
 go_upto_region 9 with (fail)
 clear cy cf hxtx
 have hq:=HQb.out.put 2 (.int .u32 ((Qtx.2:Nat):Int)) (rm 4 0 ((Qtx.2:Nat):Int) 0 false 0 0 0 0 0) rfl
 generalize y5.setCell ⟨X,2,none⟩ (.int .u32 ((Qtx.2:Nat):Int))=w5 at *
 have HQ5:=hid hq
 clear hq HQb
 have p0:=HQ5.out.c (j:=0) (v:=.bool false) rfl
 have p1:=HQ5.out.c (j:=1) (v:=.bool true) rfl
 have p2:=HQ5.out.c (j:=2) (v:=.bool false) rfl
 have p3:=HQ5.out.c (j:=3) (v:=.bool false) rfl
 have p4:=HQ5.out.c (j:=4) (v:=.bool false) rfl
 have p5:=HQ5.out.c (j:=5) (v:=.bool false) rfl
 have HRD:=hid (z9v (D:=⟨Qtx.1,{ noX with k:=4,sg:=0,tx:=((Qtx.2:Nat):Int),st:=0,cp:=false,key:=(0,0,0),d:=0,o:=0 },0⟩) HR0.out HKK.out rfl (by
  simp [rdX,rd4,keyR,HQtx.out,noX]))
 go_wp2_with fail
 clear p0 p1 p2 p3 p4 p5
 have HXn:=hid HQ5.out.q.x
 have hd:=HQ5.out.later (show Below w5.heap.size w5 w5.drew from (Below.refl _ _).drew)
 have HQd:=hid hd
 have HBX:Hid (RB w5.drew X (rm 4 0 ((Qtx.2:Nat):Int) 0 false 0 0 0 0 0)):=hid hd.q.x
 clear hd
 refine wp_region_held_drew (S:=fun w'=>Hid (RB w' X (rm 4 0 ((Qtx.2:Nat):Int) 0 false 0 0 0 0 0))) (by kernel_rfl) HBX (fun hHeld=>?_)
 refine wpAnyH_take (i:=0) (oi:=⟨some 90,_,_,_,_,_⟩) (v:=.agg (rcs (rm 4 0 ((Qtx.2:Nat):Int) 0 false 0 0 0 0 0))) rfl (by kernel_rfl) (by kernel_rfl) (by kernel_rfl) (fun _ _ _ h=>h) (Or.inl ⟨by rfl,fun w' hw'=>z1z rfl (Hid.out hw')⟩) (by assumption) ?_
 simp only [Act.put,sIB,sCZ,sCS]
 refine wpAnyH_take (i:=1) (oi:=⟨some 91,_,_,_,_,_⟩) (v:=.pointer (some ⟨B,0,none⟩)) rfl (by kernel_rfl) (by kernel_rfl) (by kernel_rfl) (fun _ _ _ h=>h) (Or.inl ⟨by rfl,fun w' hw'=>?_⟩) (by assumption) ?_
 · clear hHeld
   go_simp
 simp only [Act.put,sIB,sCZ,sCS]
 generalize w5.drew=Wd at *
 refine wpAnyH_ready (rs:=[2]) (by kernel_rfl) (by simp) (AllReadyH.cons rfl (fun K hK=>?_) AllReadyH.nil)
 go_simp
 go_wp2_with fail
 refine (z7e HQd.out.q.z).mono ?_
 rintro e wz ⟨rfl,rfl⟩
 go_wp2_with fail
 refine hK.out _ _ HBX (fun hHeld2=>?_)
 clear hK K hHeld
 have hHeld:=hHeld2
 clear hHeld2
 (try simp only [Act.put,sIB,sCZ,sCS])
 refine wpAnyH_ready (rs:=[3]) (by kernel_rfl) (by simp) (AllReadyH.cons rfl (fun K hK=>?_) AllReadyH.nil)
 rw [if_pos (by rfl)]
 refine wp_store_row 51 _ _ rfl R (rcs (rm 4 0 ((Qtx.2:Nat):Int) 0 false 0 0 0 0 0)) rfl rfl 51 _ HQd.out.q.res (by kernel_rfl) rfl (z2c _) ?_
 have HB2:Hid (RB (Wd.setRow R (rcs (rm 4 0 ((Qtx.2:Nat):Int) 0 false 0 0 0 0 0))) X (rm 4 0 ((Qtx.2:Nat):Int) 0 false 0 0 0 0 0)):=hid ((setRow_other _ _ _ _ (by have:=HQd.out.q.ord;omega)).trans HBX.out)
 refine hK.out _ _ HB2 (fun hHeld2=>?_)
 clear hK K hHeld
 have hHeld:=hHeld2
 clear hHeld2
 (try simp only [Act.put,sIB,sCZ,sCS])
 refine wpAnyH_take (i:=4) (oi:=⟨some 3,_,_,_,_,_⟩) (v:=.int .i64 (endR Qtx.1)) rfl (by kernel_rfl) (by kernel_rfl) (by kernel_rfl) (fun _ _ _ h=>h) (Or.inl ⟨by rfl,fun w' hw'=>?_⟩) (by assumption) ?_
 · clear hHeld
   go_simp
 simp only [Act.put,sIB,sCZ,sCS]
 refine wpAnyH_done (by kernel_rfl) ?_ _
 clear hHeld
 have HRF:Hid (RB (Wd.setRow R (rcs (rm 4 0 ((Qtx.2:Nat):Int) 0 false 0 0 0 0 0))) R (rm 4 0 ((Qtx.2:Nat):Int) 0 false 0 0 0 0 0)):=hid (HQd.out.q.res.set _)
 have HG:Hid (z2b W B Bs (.returned (.tuple #[.agg (rcs (rm 4 0 ((Qtx.2:Nat):Int) 0 false 0 0 0 0 0)),.int .i64 (endR Qtx.1)])) (Wd.setRow R (rcs (rm 4 0 ((Qtx.2:Nat):Int) 0 false 0 0 0 0 0)))):=hid (by
  have ho:=HQd.out.q.ord
  have hcc:Chg (fun k=>k=B) W (Wd.setRow R (rcs (rm 4 0 ((Qtx.2:Nat):Int) 0 false 0 0 0 0 0))):=HQd.out.q.chg.trans (T:=fun k=>k=R) ⟨rfl,rfl,rfl,by simp [World.setRow],fun k _ hn=>setRow_other _ _ _ _ hn⟩ fun k hk e=>by omega
  have hE:z4m Bs=endR Qtx.1:=HRD.out.1
  refine⟨(rm 4 0 ((Qtx.2:Nat):Int) 0 false 0 0 0 0 0),[],[],[],by rw [hE],z1b _ _ _ _ _ _ _ _ _ _ _,fun _=>?_,hcc,(fun a h=>by have h':(none:Option Addr)=some a:=h;cases h'),(fun a h=>by have h':(none:Option Addr)=some a:=h;cases h'),(fun a h=>by have h':(none:Option Addr)=some a:=h;cases h')⟩
  rw [HRD.out.2]
  rfl)
 go_wp2_with fail
 refine bodyPost_ret (v:=.tuple #[.agg (rcs (rm 4 0 ((Qtx.2:Nat):Int) 0 false 0 0 0 0 0)),.int .i64 (endR Qtx.1)]) ?_ rfl HG.out
 exact z0m rfl _ _ R (rm 4 0 ((Qtx.2:Nat):Int) 0 false 0 0 0 0 0) _ rfl rfl HRF.out
theorem rec_read5 (W:World) (N B:Nat) (Bs:List Nat) (hz:Zw W N B (0,Bs)) (hk:(((numR ((0,Bs):St) 1).2:Nat):Int)=5):Calls Tryz.prog 92 #[.pointer (some ⟨B,0,none⟩)] W (z2b W B Bs):=by
 obtain⟨R,hR⟩:∃ R,W.heap.size=R:=⟨_,rfl⟩
 obtain⟨W0,hW0,hr0,hb0⟩:∃ W0,W.alloc (.cells zr 51)=W0∧RB W0 R rz∧Below W.heap.size W W0:=⟨_,rfl,by rw [← hR];exact z0b W _,(Below.refl _ _).alloc (Nat.le_refl _) _⟩
 have HZ0:=hid (hz.below hb0)
 have HRE:=hid hR
 have HW0:=hid hW0
 have HR0b:=hid hr0
 have HB0:=hid hb0
 have HNR:Hid (N≤R):=hid (by have:=hz.size;omega)
 obtain⟨R0,hR0⟩:∃ Q,numR ((0,Bs):St) 1=Q:=⟨_,rfl⟩
 have hn:=z2k HZ0.out 1
 have hf:=z3e (S:=(0,Bs)) HZ0.out.bytes
 rw [hR0] at hn hf hk
 have HR0:=hid hR0
 have hx0:IntKind.u8.wrap ((R0.2:Nat):Int)=(R0.2:Nat):=z1g hf
 rw [hk] at hn hx0
 have HKK:=hid hk
 clear hR hW0 hr0 hb0 hR0 hf hz hk
 go_enter Tryz.func92,Tryz.ntmps92
 go_upto_region 1 with (fail)
 rw [HW0.out,HRE.out]
 go_wp2_with fail
 refine hn.mono ?_
 rintro e w1 ⟨rfl,hz1,hc1⟩
 obtain⟨X,hX⟩:∃ X,w1.heap.size=X:=⟨_,rfl⟩
 have hRX:R<X:=by have:=z0g HR0b.out;have:=hc1.size;omega
 have hlow:=HZ0.out.low
 have hNR:=HNR.out
 have hres:=HR0b.out.chg hc1 (by omega)
 have hch0:Chg (fun k=>k=B) W w1:=(Chg.of_below (S:=fun k=>k=B) HB0.out).trans hc1 fun _ _ e=>e
 obtain⟨w1a,hw1a,hxa,hba⟩:∃ w1a,w1.alloc (.cells zr 51)=w1a∧RB w1a X rz∧Below w1.heap.size w1 w1a:=⟨_,rfl,by rw [← hX];exact z0b w1 _,(Below.refl _ _).alloc (Nat.le_refl _) _⟩
 have hQa:Qz W w1a N B R X R0.1 rz:=⟨hz1.below hba,hxa,hres.later hba,hch0.trans (Chg.of_below (S:=fun k=>k=B) hba) fun _ _ e=>e,by omega,hRX,by have:=HRE.out;omega⟩
 obtain⟨w2,hw2,hQ2⟩:∃ w2,w1a.setRow X (rcs (rk 5))=w2∧Qz W w2 N B R X R0.1 (rk 5):=⟨_,rfl,hQa.set _⟩
 have HXa:=hid hxa
 have HW1a:=hid hw1a
 have HW2:=hid hw2
 have HQ2:=hid hQ2
 have HXE:=hid hX
 clear hz1 hc1 hX hRX hlow hNR hres hch0 hw1a hxa hba hQa hw2 hQ2 hn
 have c0:w2.cell? ⟨X,0,none⟩=some (.int .u8 5):=z0a HQ2.out.x rfl
 go_wp2_with ((try rw [HXE.out]);(try rw [HW1a.out]);(with_reducible refine z0e (rk 5) HXa.out ?_ ?_ ?_);rfl;rfl;rw [HW2.out])
 have hpa:=z1m 5 w2
 unfold z1k at hpa
 rw [show ptc 5=#[.bool false,.bool true,.bool false,.bool false,.bool false,.bool false] from rfl,show kOk 5=true from rfl] at hpa
 refine hpa.mono ?_
 rintro e w3 ⟨rfl,h3⟩
 have HQ3:=hid (HQ2.out.later h3)
 clear h3 hpa c0 HQ2 hx0
 obtain⟨Pb,hPb⟩:∃ n,w3.heap.size=n:=⟨_,rfl⟩
 obtain⟨w4,hwn,hxn,hbn⟩:∃ w4,(w3.alloc (.cells pz 194)).setRow Pb #[.bool false,.bool true,.bool false,.bool false,.bool false,.bool false]=w4∧w4.heap[Pb]?=some (.cells #[.bool false,.bool true,.bool false,.bool false,.bool false,.bool false] 194 (0,0))∧Below w3.heap.size w3 w4:=⟨_,rfl,by rw [← hPb];exact setRow_heap _ _ _ _ _ _ (z0b w3 _),below_setRow ((Below.refl _ _).alloc (Nat.le_refl _) _) (by omega) _⟩
 have hxz:=z0b w3 (.cells pz 194)
 rw [hPb] at hxz
 have HQ4:Hid (Qp W w4 N B R X Pb #[.bool false,.bool true,.bool false,.bool false,.bool false,.bool false] R0.1 (rk 5)):=hid ⟨HQ3.out.later hbn,hxn,by have:=z0g HQ3.out.x;omega⟩
 have HPZ:=hid hxz
 have HWN:=hid hwn
 have HNN:=hid hPb
 have HS6:Hid ((#[.bool false,.bool true,.bool false,.bool false,.bool false,.bool false]:Array Value).size=6):=hid rfl
 have HA6:Hid ((#[.bool false,.bool true,.bool false,.bool false,.bool false,.bool false]:Array Value).all (·.oneCell')=true):=hid (by simp [Value.oneCell'])
 clear hxz hxn hbn hwn hPb HQ3
 have p0:=HQ4.out.c (j:=0) (v:=.bool false) rfl
 have p1:=HQ4.out.c (j:=1) (v:=.bool true) rfl
 have p2:=HQ4.out.c (j:=2) (v:=.bool false) rfl
 have p3:=HQ4.out.c (j:=3) (v:=.bool false) rfl
 have p4:=HQ4.out.c (j:=4) (v:=.bool false) rfl
 have p5:=HQ4.out.c (j:=5) (v:=.bool false) rfl
 go_wp2_with ((try rw [HNN.out]);(with_reducible refine z0l #[.bool false,.bool true,.bool false,.bool false,.bool false,.bool false] HS6.out HA6.out HPZ.out ?_ ?_ ?_);rfl;rfl;rw [HWN.out])
 have hn:=z2k HQ4.out.q.z 4
 obtain⟨Qtx,hQtx⟩:∃ Q,numR R0.1 4=Q:=⟨_,rfl⟩
 have hf:=z8u HQ4.out.q.z.bytes
 rw [hQtx] at hn hf
 have hxtx:IntKind.u32.wrap ((Qtx.2:Nat):Int)=(Qtx.2:Nat):=z1w hf
 clear hf
 have HQtx:=hid hQtx
 clear hQtx
 refine hn.mono ?_
 rintro e y5 ⟨rfl,hz,hc⟩
 have HQb:=hid (HQ4.out.low hz hc)
 clear hz hc hn HQ4
 clear p0 p1 p2 p3 p4 p5
 obtain⟨cy,cf⟩:=HQb.out.q.cx (j:=2) (v:=.int .u32 0) rfl
 go_upto_region 9 with (fail)
 clear cy cf hxtx
 have hq:=HQb.out.put 2 (.int .u32 ((Qtx.2:Nat):Int)) (rm 5 0 ((Qtx.2:Nat):Int) 0 false 0 0 0 0 0) rfl
 generalize y5.setCell ⟨X,2,none⟩ (.int .u32 ((Qtx.2:Nat):Int))=w5 at *
 have HQ5:=hid hq
 clear hq HQb
 have p0:=HQ5.out.c (j:=0) (v:=.bool false) rfl
 have p1:=HQ5.out.c (j:=1) (v:=.bool true) rfl
 have p2:=HQ5.out.c (j:=2) (v:=.bool false) rfl
 have p3:=HQ5.out.c (j:=3) (v:=.bool false) rfl
 have p4:=HQ5.out.c (j:=4) (v:=.bool false) rfl
 have p5:=HQ5.out.c (j:=5) (v:=.bool false) rfl
 have HRD:=hid (z9v (D:=⟨Qtx.1,{ noX with k:=5,sg:=0,tx:=((Qtx.2:Nat):Int),st:=0,cp:=false,key:=(0,0,0),d:=0,o:=0 },0⟩) HR0.out HKK.out rfl (by
  simp [rdX,rd4,keyR,HQtx.out,noX]))
 go_wp2_with fail
 clear p0 p1 p2 p3 p4 p5
 have HXn:=hid HQ5.out.q.x
 have hd:=HQ5.out.later (show Below w5.heap.size w5 w5.drew from (Below.refl _ _).drew)
 have HQd:=hid hd
 have HBX:Hid (RB w5.drew X (rm 5 0 ((Qtx.2:Nat):Int) 0 false 0 0 0 0 0)):=hid hd.q.x
 clear hd
 refine wp_region_held_drew (S:=fun w'=>Hid (RB w' X (rm 5 0 ((Qtx.2:Nat):Int) 0 false 0 0 0 0 0))) (by kernel_rfl) HBX (fun hHeld=>?_)
 refine wpAnyH_take (i:=0) (oi:=⟨some 90,_,_,_,_,_⟩) (v:=.agg (rcs (rm 5 0 ((Qtx.2:Nat):Int) 0 false 0 0 0 0 0))) rfl (by kernel_rfl) (by kernel_rfl) (by kernel_rfl) (fun _ _ _ h=>h) (Or.inl ⟨by rfl,fun w' hw'=>z1z rfl (Hid.out hw')⟩) (by assumption) ?_
 simp only [Act.put,sIB,sCZ,sCS]
 refine wpAnyH_take (i:=1) (oi:=⟨some 91,_,_,_,_,_⟩) (v:=.pointer (some ⟨B,0,none⟩)) rfl (by kernel_rfl) (by kernel_rfl) (by kernel_rfl) (fun _ _ _ h=>h) (Or.inl ⟨by rfl,fun w' hw'=>?_⟩) (by assumption) ?_
 · clear hHeld
   go_simp
 simp only [Act.put,sIB,sCZ,sCS]
 generalize w5.drew=Wd at *
 refine wpAnyH_ready (rs:=[2]) (by kernel_rfl) (by simp) (AllReadyH.cons rfl (fun K hK=>?_) AllReadyH.nil)
 go_simp
 go_wp2_with fail
 refine (z7e HQd.out.q.z).mono ?_
 rintro e wz ⟨rfl,rfl⟩
 go_wp2_with fail
 refine hK.out _ _ HBX (fun hHeld2=>?_)
 clear hK K hHeld
 have hHeld:=hHeld2
 clear hHeld2
 (try simp only [Act.put,sIB,sCZ,sCS])
 refine wpAnyH_ready (rs:=[3]) (by kernel_rfl) (by simp) (AllReadyH.cons rfl (fun K hK=>?_) AllReadyH.nil)
 rw [if_pos (by rfl)]
 refine wp_store_row 51 _ _ rfl R (rcs (rm 5 0 ((Qtx.2:Nat):Int) 0 false 0 0 0 0 0)) rfl rfl 51 _ HQd.out.q.res (by kernel_rfl) rfl (z2c _) ?_
 have HB2:Hid (RB (Wd.setRow R (rcs (rm 5 0 ((Qtx.2:Nat):Int) 0 false 0 0 0 0 0))) X (rm 5 0 ((Qtx.2:Nat):Int) 0 false 0 0 0 0 0)):=hid ((setRow_other _ _ _ _ (by have:=HQd.out.q.ord;omega)).trans HBX.out)
 refine hK.out _ _ HB2 (fun hHeld2=>?_)
 clear hK K hHeld
 have hHeld:=hHeld2
 clear hHeld2
 (try simp only [Act.put,sIB,sCZ,sCS])
 refine wpAnyH_take (i:=4) (oi:=⟨some 3,_,_,_,_,_⟩) (v:=.int .i64 (endR Qtx.1)) rfl (by kernel_rfl) (by kernel_rfl) (by kernel_rfl) (fun _ _ _ h=>h) (Or.inl ⟨by rfl,fun w' hw'=>?_⟩) (by assumption) ?_
 · clear hHeld
   go_simp
 simp only [Act.put,sIB,sCZ,sCS]
 refine wpAnyH_done (by kernel_rfl) ?_ _
 clear hHeld
 have HRF:Hid (RB (Wd.setRow R (rcs (rm 5 0 ((Qtx.2:Nat):Int) 0 false 0 0 0 0 0))) R (rm 5 0 ((Qtx.2:Nat):Int) 0 false 0 0 0 0 0)):=hid (HQd.out.q.res.set _)
 have HG:Hid (z2b W B Bs (.returned (.tuple #[.agg (rcs (rm 5 0 ((Qtx.2:Nat):Int) 0 false 0 0 0 0 0)),.int .i64 (endR Qtx.1)])) (Wd.setRow R (rcs (rm 5 0 ((Qtx.2:Nat):Int) 0 false 0 0 0 0 0)))):=hid (by
  have ho:=HQd.out.q.ord
  have hcc:Chg (fun k=>k=B) W (Wd.setRow R (rcs (rm 5 0 ((Qtx.2:Nat):Int) 0 false 0 0 0 0 0))):=HQd.out.q.chg.trans (T:=fun k=>k=R) ⟨rfl,rfl,rfl,by simp [World.setRow],fun k _ hn=>setRow_other _ _ _ _ hn⟩ fun k hk e=>by omega
  have hE:z4m Bs=endR Qtx.1:=HRD.out.1
  refine⟨(rm 5 0 ((Qtx.2:Nat):Int) 0 false 0 0 0 0 0),[],[],[],by rw [hE],z1b _ _ _ _ _ _ _ _ _ _ _,fun _=>?_,hcc,(fun a h=>by have h':(none:Option Addr)=some a:=h;cases h'),(fun a h=>by have h':(none:Option Addr)=some a:=h;cases h'),(fun a h=>by have h':(none:Option Addr)=some a:=h;cases h')⟩
  rw [HRD.out.2]
  rfl)
 go_wp2_with fail
 refine bodyPost_ret (v:=.tuple #[.agg (rcs (rm 5 0 ((Qtx.2:Nat):Int) 0 false 0 0 0 0 0)),.int .i64 (endR Qtx.1)]) ?_ rfl HG.out
 exact z0m rfl _ _ R (rm 5 0 ((Qtx.2:Nat):Int) 0 false 0 0 0 0 0) _ rfl rfl HRF.out
theorem rec_read6 (W:World) (N B:Nat) (Bs:List Nat) (hz:Zw W N B (0,Bs)) (hk:(((numR ((0,Bs):St) 1).2:Nat):Int)=6):Calls Tryz.prog 92 #[.pointer (some ⟨B,0,none⟩)] W (z2b W B Bs):=by
 obtain⟨R,hR⟩:∃ R,W.heap.size=R:=⟨_,rfl⟩
 obtain⟨W0,hW0,hr0,hb0⟩:∃ W0,W.alloc (.cells zr 51)=W0∧RB W0 R rz∧Below W.heap.size W W0:=⟨_,rfl,by rw [← hR];exact z0b W _,(Below.refl _ _).alloc (Nat.le_refl _) _⟩
 have HZ0:=hid (hz.below hb0)
 have HRE:=hid hR
 have HW0:=hid hW0
 have HR0b:=hid hr0
 have HB0:=hid hb0
 have HNR:Hid (N≤R):=hid (by have:=hz.size;omega)
 obtain⟨R0,hR0⟩:∃ Q,numR ((0,Bs):St) 1=Q:=⟨_,rfl⟩
 have hn:=z2k HZ0.out 1
 have hf:=z3e (S:=(0,Bs)) HZ0.out.bytes
 rw [hR0] at hn hf hk
 have HR0:=hid hR0
 have hx0:IntKind.u8.wrap ((R0.2:Nat):Int)=(R0.2:Nat):=z1g hf
 rw [hk] at hn hx0
 have HKK:=hid hk
 clear hR hW0 hr0 hb0 hR0 hf hz hk
 go_enter Tryz.func92,Tryz.ntmps92
 go_upto_region 1 with (fail)
 rw [HW0.out,HRE.out]
 go_wp2_with fail
 refine hn.mono ?_
 rintro e w1 ⟨rfl,hz1,hc1⟩
 obtain⟨X,hX⟩:∃ X,w1.heap.size=X:=⟨_,rfl⟩
 have hRX:R<X:=by have:=z0g HR0b.out;have:=hc1.size;omega
 have hlow:=HZ0.out.low
 have hNR:=HNR.out
 have hres:=HR0b.out.chg hc1 (by omega)
 have hch0:Chg (fun k=>k=B) W w1:=(Chg.of_below (S:=fun k=>k=B) HB0.out).trans hc1 fun _ _ e=>e
 obtain⟨w1a,hw1a,hxa,hba⟩:∃ w1a,w1.alloc (.cells zr 51)=w1a∧RB w1a X rz∧Below w1.heap.size w1 w1a:=⟨_,rfl,by rw [← hX];exact z0b w1 _,(Below.refl _ _).alloc (Nat.le_refl _) _⟩
 have hQa:Qz W w1a N B R X R0.1 rz:=⟨hz1.below hba,hxa,hres.later hba,hch0.trans (Chg.of_below (S:=fun k=>k=B) hba) fun _ _ e=>e,by omega,hRX,by have:=HRE.out;omega⟩
 obtain⟨w2,hw2,hQ2⟩:∃ w2,w1a.setRow X (rcs (rk 6))=w2∧Qz W w2 N B R X R0.1 (rk 6):=⟨_,rfl,hQa.set _⟩
 have HXa:=hid hxa
 have HW1a:=hid hw1a
 have HW2:=hid hw2
 have HQ2:=hid hQ2
 have HXE:=hid hX
 clear hz1 hc1 hX hRX hlow hNR hres hch0 hw1a hxa hba hQa hw2 hQ2 hn
 have c0:w2.cell? ⟨X,0,none⟩=some (.int .u8 6):=z0a HQ2.out.x rfl
 go_wp2_with ((try rw [HXE.out]);(try rw [HW1a.out]);(with_reducible refine z0e (rk 6) HXa.out ?_ ?_ ?_);rfl;rfl;rw [HW2.out])
 have hpa:=z1m 6 w2
 unfold z1k at hpa
 rw [show ptc 6=#[.bool false,.bool true,.bool false,.bool true,.bool false,.bool false] from rfl,show kOk 6=true from rfl] at hpa
 refine hpa.mono ?_
 rintro e w3 ⟨rfl,h3⟩
 have HQ3:=hid (HQ2.out.later h3)
 clear h3 hpa c0 HQ2 hx0
 obtain⟨Pb,hPb⟩:∃ n,w3.heap.size=n:=⟨_,rfl⟩
 obtain⟨w4,hwn,hxn,hbn⟩:∃ w4,(w3.alloc (.cells pz 194)).setRow Pb #[.bool false,.bool true,.bool false,.bool true,.bool false,.bool false]=w4∧w4.heap[Pb]?=some (.cells #[.bool false,.bool true,.bool false,.bool true,.bool false,.bool false] 194 (0,0))∧Below w3.heap.size w3 w4:=⟨_,rfl,by rw [← hPb];exact setRow_heap _ _ _ _ _ _ (z0b w3 _),below_setRow ((Below.refl _ _).alloc (Nat.le_refl _) _) (by omega) _⟩
 have hxz:=z0b w3 (.cells pz 194)
 rw [hPb] at hxz
 have HQ4:Hid (Qp W w4 N B R X Pb #[.bool false,.bool true,.bool false,.bool true,.bool false,.bool false] R0.1 (rk 6)):=hid ⟨HQ3.out.later hbn,hxn,by have:=z0g HQ3.out.x;omega⟩
 have HPZ:=hid hxz
 have HWN:=hid hwn
 have HNN:=hid hPb
 have HS6:Hid ((#[.bool false,.bool true,.bool false,.bool true,.bool false,.bool false]:Array Value).size=6):=hid rfl
 have HA6:Hid ((#[.bool false,.bool true,.bool false,.bool true,.bool false,.bool false]:Array Value).all (·.oneCell')=true):=hid (by simp [Value.oneCell'])
 clear hxz hxn hbn hwn hPb HQ3
 have p0:=HQ4.out.c (j:=0) (v:=.bool false) rfl
 have p1:=HQ4.out.c (j:=1) (v:=.bool true) rfl
 have p2:=HQ4.out.c (j:=2) (v:=.bool false) rfl
 have p3:=HQ4.out.c (j:=3) (v:=.bool true) rfl
 have p4:=HQ4.out.c (j:=4) (v:=.bool false) rfl
 have p5:=HQ4.out.c (j:=5) (v:=.bool false) rfl
 go_wp2_with ((try rw [HNN.out]);(with_reducible refine z0l #[.bool false,.bool true,.bool false,.bool true,.bool false,.bool false] HS6.out HA6.out HPZ.out ?_ ?_ ?_);rfl;rfl;rw [HWN.out])
 have hn:=z2k HQ4.out.q.z 4
 obtain⟨Qtx,hQtx⟩:∃ Q,numR R0.1 4=Q:=⟨_,rfl⟩
 have hf:=z8u HQ4.out.q.z.bytes
 rw [hQtx] at hn hf
 have hxtx:IntKind.u32.wrap ((Qtx.2:Nat):Int)=(Qtx.2:Nat):=z1w hf
 clear hf
 have HQtx:=hid hQtx
 clear hQtx
 refine hn.mono ?_
 rintro e y5 ⟨rfl,hz,hc⟩
 have HQb:=hid (HQ4.out.low hz hc)
 clear hz hc hn HQ4
 clear p0 p1 p2 p3 p4 p5
 obtain⟨cy,cf⟩:=HQb.out.q.cx (j:=2) (v:=.int .u32 0) rfl
 go_upto_region 9 with (fail)
 clear cy cf hxtx
 have hq:=HQb.out.put 2 (.int .u32 ((Qtx.2:Nat):Int)) (rm 6 0 ((Qtx.2:Nat):Int) 0 false 0 0 0 0 0) rfl
 generalize y5.setCell ⟨X,2,none⟩ (.int .u32 ((Qtx.2:Nat):Int))=w5 at *
 have HQ5:=hid hq
 clear hq HQb
 have p0:=HQ5.out.c (j:=0) (v:=.bool false) rfl
 have p1:=HQ5.out.c (j:=1) (v:=.bool true) rfl
 have p2:=HQ5.out.c (j:=2) (v:=.bool false) rfl
 have p3:=HQ5.out.c (j:=3) (v:=.bool true) rfl
 have p4:=HQ5.out.c (j:=4) (v:=.bool false) rfl
 have p5:=HQ5.out.c (j:=5) (v:=.bool false) rfl
 go_wp2_with fail
 have hn:=z2k HQ5.out.q.z 1
 have hf:=z3e HQ5.out.q.z.bytes
 obtain⟨Qka,hQka⟩:∃ Q,numR Qtx.1 1=Q:=⟨_,rfl⟩
 rw [hQka] at hn hf
 have hxka:IntKind.u8.wrap ((Qka.2:Nat):Int)=(Qka.2:Nat):=z1g hf
 have HQka:=hid hQka
 clear hf hQka
 refine hn.mono ?_
 rintro e w6 ⟨rfl,hz,hc⟩
 have HQ6:=hid (HQ5.out.low hz hc)
 clear hn hz hc HQ5
 go_wp2_with fail
 have hn:=z2k HQ6.out.q.z 1
 have hf:=z3e HQ6.out.q.z.bytes
 obtain⟨Qkb,hQkb⟩:∃ Q,numR Qka.1 1=Q:=⟨_,rfl⟩
 rw [hQkb] at hn hf
 have hxkb:IntKind.u8.wrap ((Qkb.2:Nat):Int)=(Qkb.2:Nat):=z1g hf
 have HQkb:=hid hQkb
 clear hf hQkb
 refine hn.mono ?_
 rintro e w7 ⟨rfl,hz,hc⟩
 have HQ7:=hid (HQ6.out.low hz hc)
 clear hn hz hc HQ6
 go_wp2_with fail
 have hn:=z2k HQ7.out.q.z 1
 have hf:=z3e HQ7.out.q.z.bytes
 obtain⟨Qkc,hQkc⟩:∃ Q,numR Qkb.1 1=Q:=⟨_,rfl⟩
 rw [hQkc] at hn hf
 have hxkc:IntKind.u8.wrap ((Qkc.2:Nat):Int)=(Qkc.2:Nat):=z1g hf
 have HQkc:=hid hQkc
 clear hf hQkc
 refine hn.mono ?_
 rintro e w8 ⟨rfl,hz,hc⟩
 have HQ8:=hid (HQ7.out.low hz hc)
 clear hn hz hc HQ7
 obtain⟨w9,hgen,hq⟩:∃ w9,w8.setRow X (rcs { (rm 6 0 ((Qtx.2:Nat):Int) 0 false 0 0 0 0 0) with ka:=((Qka.2:Nat):Int),kb:=((Qkb.2:Nat):Int),kc:=((Qkc.2:Nat):Int) })=w9∧Qp W w9 N B R X Pb #[.bool false,.bool true,.bool false,.bool true,.bool false,.bool false] Qkc.1 (rm 6 0 ((Qtx.2:Nat):Int) 0 false ((Qka.2:Nat):Int) ((Qkb.2:Nat):Int) ((Qkc.2:Nat):Int) 0 0):=⟨_,rfl,HQ8.out.set (rm 6 0 ((Qtx.2:Nat):Int) 0 false ((Qka.2:Nat):Int) ((Qkb.2:Nat):Int) ((Qkc.2:Nat):Int) 0 0)⟩
 have HGEN:=hid hgen
 have HQ9:=hid hq
 clear hgen hq
 go_upto_region 14 with ((with_reducible refine z3n ((Qka.2:Nat):Int) ((Qkb.2:Nat):Int) ((Qkc.2:Nat):Int) HQ8.out.q.x ?_ ?_ ?_);rfl;rfl;rw [HGEN.out])
 clear HGEN hxka hxkb hxkc HQ8
 clear p0 p1 p2 p3 p4 p5
 have p0:=HQ9.out.c (j:=0) (v:=.bool false) rfl
 have p1:=HQ9.out.c (j:=1) (v:=.bool true) rfl
 have p2:=HQ9.out.c (j:=2) (v:=.bool false) rfl
 have p3:=HQ9.out.c (j:=3) (v:=.bool true) rfl
 have p4:=HQ9.out.c (j:=4) (v:=.bool false) rfl
 have p5:=HQ9.out.c (j:=5) (v:=.bool false) rfl
 go_wp2_with fail
 have hn:=zw_int HQ9.out.q.z
 obtain⟨Qd,hQd⟩:∃ Q,numR Qkc.1 8=Q:=⟨_,rfl⟩
 rw [hQd] at hn
 have HQd:=hid hQd
 clear hQd
 refine hn.mono ?_
 rintro e y10 ⟨rfl,hz,hc⟩
 have HQb:=hid (HQ9.out.low hz hc)
 clear hz hc hn HQ9
 clear p0 p1 p2 p3 p4 p5
 obtain⟨cy,cf⟩:=HQb.out.q.cx (j:=8) (v:=.int .i64 0) rfl
 go_upto_region 15 with (fail)
 clear cy cf
 have hq:=HQb.out.put 8 (.int .i64 (sgn Qd.2)) (rm 6 0 ((Qtx.2:Nat):Int) 0 false ((Qka.2:Nat):Int) ((Qkb.2:Nat):Int) ((Qkc.2:Nat):Int) (sgn Qd.2) 0) rfl
 generalize y10.setCell ⟨X,8,none⟩ (.int .i64 (sgn Qd.2))=w10 at *
 have HQ10:=hid hq
 clear hq HQb
 have p0:=HQ10.out.c (j:=0) (v:=.bool false) rfl
 have p1:=HQ10.out.c (j:=1) (v:=.bool true) rfl
 have p2:=HQ10.out.c (j:=2) (v:=.bool false) rfl
 have p3:=HQ10.out.c (j:=3) (v:=.bool true) rfl
 have p4:=HQ10.out.c (j:=4) (v:=.bool false) rfl
 have p5:=HQ10.out.c (j:=5) (v:=.bool false) rfl
 have HRD:=hid (z9v (D:=⟨Qd.1,{ noX with k:=6,sg:=0,tx:=((Qtx.2:Nat):Int),st:=0,cp:=false,key:=(((Qka.2:Nat):Int),((Qkb.2:Nat):Int),((Qkc.2:Nat):Int)),d:=(sgn Qd.2),o:=0 },0⟩) HR0.out HKK.out rfl (by
  simp [rdX,rd3,keyR,HQtx.out,HQka.out,HQkb.out,HQkc.out,HQd.out,noX]))
 go_wp2_with fail
 clear p0 p1 p2 p3 p4 p5
 have HXn:=hid HQ10.out.q.x
 have hd:=HQ10.out.later (show Below w10.heap.size w10 w10.drew from (Below.refl _ _).drew)
 have HQd:=hid hd
 have HBX:Hid (RB w10.drew X (rm 6 0 ((Qtx.2:Nat):Int) 0 false ((Qka.2:Nat):Int) ((Qkb.2:Nat):Int) ((Qkc.2:Nat):Int) (sgn Qd.2) 0)):=hid hd.q.x
 clear hd
 refine wp_region_held_drew (S:=fun w'=>Hid (RB w' X (rm 6 0 ((Qtx.2:Nat):Int) 0 false ((Qka.2:Nat):Int) ((Qkb.2:Nat):Int) ((Qkc.2:Nat):Int) (sgn Qd.2) 0))) (by kernel_rfl) HBX (fun hHeld=>?_)
 refine wpAnyH_take (i:=0) (oi:=⟨some 90,_,_,_,_,_⟩) (v:=.agg (rcs (rm 6 0 ((Qtx.2:Nat):Int) 0 false ((Qka.2:Nat):Int) ((Qkb.2:Nat):Int) ((Qkc.2:Nat):Int) (sgn Qd.2) 0))) rfl (by kernel_rfl) (by kernel_rfl) (by kernel_rfl) (fun _ _ _ h=>h) (Or.inl ⟨by rfl,fun w' hw'=>z1z rfl (Hid.out hw')⟩) (by assumption) ?_
 simp only [Act.put,sIB,sCZ,sCS]
 refine wpAnyH_take (i:=1) (oi:=⟨some 91,_,_,_,_,_⟩) (v:=.pointer (some ⟨B,0,none⟩)) rfl (by kernel_rfl) (by kernel_rfl) (by kernel_rfl) (fun _ _ _ h=>h) (Or.inl ⟨by rfl,fun w' hw'=>?_⟩) (by assumption) ?_
 · clear hHeld
   go_simp
 simp only [Act.put,sIB,sCZ,sCS]
 generalize w10.drew=Wd at *
 refine wpAnyH_ready (rs:=[2]) (by kernel_rfl) (by simp) (AllReadyH.cons rfl (fun K hK=>?_) AllReadyH.nil)
 go_simp
 go_wp2_with fail
 refine (z7e HQd.out.q.z).mono ?_
 rintro e wz ⟨rfl,rfl⟩
 go_wp2_with fail
 refine hK.out _ _ HBX (fun hHeld2=>?_)
 clear hK K hHeld
 have hHeld:=hHeld2
 clear hHeld2
 (try simp only [Act.put,sIB,sCZ,sCS])
 refine wpAnyH_ready (rs:=[3]) (by kernel_rfl) (by simp) (AllReadyH.cons rfl (fun K hK=>?_) AllReadyH.nil)
 rw [if_pos (by rfl)]
 refine wp_store_row 51 _ _ rfl R (rcs (rm 6 0 ((Qtx.2:Nat):Int) 0 false ((Qka.2:Nat):Int) ((Qkb.2:Nat):Int) ((Qkc.2:Nat):Int) (sgn Qd.2) 0)) rfl rfl 51 _ HQd.out.q.res (by kernel_rfl) rfl (z2c _) ?_
 have HB2:Hid (RB (Wd.setRow R (rcs (rm 6 0 ((Qtx.2:Nat):Int) 0 false ((Qka.2:Nat):Int) ((Qkb.2:Nat):Int) ((Qkc.2:Nat):Int) (sgn Qd.2) 0))) X (rm 6 0 ((Qtx.2:Nat):Int) 0 false ((Qka.2:Nat):Int) ((Qkb.2:Nat):Int) ((Qkc.2:Nat):Int) (sgn Qd.2) 0)):=hid ((setRow_other _ _ _ _ (by have:=HQd.out.q.ord;omega)).trans HBX.out)
 refine hK.out _ _ HB2 (fun hHeld2=>?_)
 clear hK K hHeld
 have hHeld:=hHeld2
 clear hHeld2
 (try simp only [Act.put,sIB,sCZ,sCS])
 refine wpAnyH_take (i:=4) (oi:=⟨some 3,_,_,_,_,_⟩) (v:=.int .i64 (endR Qd.1)) rfl (by kernel_rfl) (by kernel_rfl) (by kernel_rfl) (fun _ _ _ h=>h) (Or.inl ⟨by rfl,fun w' hw'=>?_⟩) (by assumption) ?_
 · clear hHeld
   go_simp
 simp only [Act.put,sIB,sCZ,sCS]
 refine wpAnyH_done (by kernel_rfl) ?_ _
 clear hHeld
 have HRF:Hid (RB (Wd.setRow R (rcs (rm 6 0 ((Qtx.2:Nat):Int) 0 false ((Qka.2:Nat):Int) ((Qkb.2:Nat):Int) ((Qkc.2:Nat):Int) (sgn Qd.2) 0))) R (rm 6 0 ((Qtx.2:Nat):Int) 0 false ((Qka.2:Nat):Int) ((Qkb.2:Nat):Int) ((Qkc.2:Nat):Int) (sgn Qd.2) 0)):=hid (HQd.out.q.res.set _)
 have HG:Hid (z2b W B Bs (.returned (.tuple #[.agg (rcs (rm 6 0 ((Qtx.2:Nat):Int) 0 false ((Qka.2:Nat):Int) ((Qkb.2:Nat):Int) ((Qkc.2:Nat):Int) (sgn Qd.2) 0)),.int .i64 (endR Qd.1)])) (Wd.setRow R (rcs (rm 6 0 ((Qtx.2:Nat):Int) 0 false ((Qka.2:Nat):Int) ((Qkb.2:Nat):Int) ((Qkc.2:Nat):Int) (sgn Qd.2) 0)))):=hid (by
  have ho:=HQd.out.q.ord
  have hcc:Chg (fun k=>k=B) W (Wd.setRow R (rcs (rm 6 0 ((Qtx.2:Nat):Int) 0 false ((Qka.2:Nat):Int) ((Qkb.2:Nat):Int) ((Qkc.2:Nat):Int) (sgn Qd.2) 0))):=HQd.out.q.chg.trans (T:=fun k=>k=R) ⟨rfl,rfl,rfl,by simp [World.setRow],fun k _ hn=>setRow_other _ _ _ _ hn⟩ fun k hk e=>by omega
  have hE:z4m Bs=endR Qd.1:=HRD.out.1
  refine⟨(rm 6 0 ((Qtx.2:Nat):Int) 0 false ((Qka.2:Nat):Int) ((Qkb.2:Nat):Int) ((Qkc.2:Nat):Int) (sgn Qd.2) 0),[],[],[],by rw [hE],z1b _ _ _ _ _ _ _ _ _ _ _,fun _=>?_,hcc,(fun a h=>by have h':(none:Option Addr)=some a:=h;cases h'),(fun a h=>by have h':(none:Option Addr)=some a:=h;cases h'),(fun a h=>by have h':(none:Option Addr)=some a:=h;cases h')⟩
  rw [HRD.out.2]
  rfl)
 go_wp2_with fail
 refine bodyPost_ret (v:=.tuple #[.agg (rcs (rm 6 0 ((Qtx.2:Nat):Int) 0 false ((Qka.2:Nat):Int) ((Qkb.2:Nat):Int) ((Qkc.2:Nat):Int) (sgn Qd.2) 0)),.int .i64 (endR Qd.1)]) ?_ rfl HG.out
 exact z0m rfl _ _ R (rm 6 0 ((Qtx.2:Nat):Int) 0 false ((Qka.2:Nat):Int) ((Qkb.2:Nat):Int) ((Qkc.2:Nat):Int) (sgn Qd.2) 0) _ rfl rfl HRF.out
theorem rec_read7 (W:World) (N B:Nat) (Bs:List Nat) (hz:Zw W N B (0,Bs)) (hk:(((numR ((0,Bs):St) 1).2:Nat):Int)=7):Calls Tryz.prog 92 #[.pointer (some ⟨B,0,none⟩)] W (z2b W B Bs):=by
 obtain⟨R,hR⟩:∃ R,W.heap.size=R:=⟨_,rfl⟩
 obtain⟨W0,hW0,hr0,hb0⟩:∃ W0,W.alloc (.cells zr 51)=W0∧RB W0 R rz∧Below W.heap.size W W0:=⟨_,rfl,by rw [← hR];exact z0b W _,(Below.refl _ _).alloc (Nat.le_refl _) _⟩
 have HZ0:=hid (hz.below hb0)
 have HRE:=hid hR
 have HW0:=hid hW0
 have HR0b:=hid hr0
 have HB0:=hid hb0
 have HNR:Hid (N≤R):=hid (by have:=hz.size;omega)
 obtain⟨R0,hR0⟩:∃ Q,numR ((0,Bs):St) 1=Q:=⟨_,rfl⟩
 have hn:=z2k HZ0.out 1
 have hf:=z3e (S:=(0,Bs)) HZ0.out.bytes
 rw [hR0] at hn hf hk
 have HR0:=hid hR0
 have hx0:IntKind.u8.wrap ((R0.2:Nat):Int)=(R0.2:Nat):=z1g hf
 rw [hk] at hn hx0
 have HKK:=hid hk
 clear hR hW0 hr0 hb0 hR0 hf hz hk
 go_enter Tryz.func92,Tryz.ntmps92
 go_upto_region 1 with (fail)
 rw [HW0.out,HRE.out]
 go_wp2_with fail
 refine hn.mono ?_
 rintro e w1 ⟨rfl,hz1,hc1⟩
 obtain⟨X,hX⟩:∃ X,w1.heap.size=X:=⟨_,rfl⟩
 have hRX:R<X:=by have:=z0g HR0b.out;have:=hc1.size;omega
 have hlow:=HZ0.out.low
 have hNR:=HNR.out
 have hres:=HR0b.out.chg hc1 (by omega)
 have hch0:Chg (fun k=>k=B) W w1:=(Chg.of_below (S:=fun k=>k=B) HB0.out).trans hc1 fun _ _ e=>e
 obtain⟨w1a,hw1a,hxa,hba⟩:∃ w1a,w1.alloc (.cells zr 51)=w1a∧RB w1a X rz∧Below w1.heap.size w1 w1a:=⟨_,rfl,by rw [← hX];exact z0b w1 _,(Below.refl _ _).alloc (Nat.le_refl _) _⟩
 have hQa:Qz W w1a N B R X R0.1 rz:=⟨hz1.below hba,hxa,hres.later hba,hch0.trans (Chg.of_below (S:=fun k=>k=B) hba) fun _ _ e=>e,by omega,hRX,by have:=HRE.out;omega⟩
 obtain⟨w2,hw2,hQ2⟩:∃ w2,w1a.setRow X (rcs (rk 7))=w2∧Qz W w2 N B R X R0.1 (rk 7):=⟨_,rfl,hQa.set _⟩
 have HXa:=hid hxa
 have HW1a:=hid hw1a
 have HW2:=hid hw2
 have HQ2:=hid hQ2
 have HXE:=hid hX
 clear hz1 hc1 hX hRX hlow hNR hres hch0 hw1a hxa hba hQa hw2 hQ2 hn
 have c0:w2.cell? ⟨X,0,none⟩=some (.int .u8 7):=z0a HQ2.out.x rfl
 go_wp2_with ((try rw [HXE.out]);(try rw [HW1a.out]);(with_reducible refine z0e (rk 7) HXa.out ?_ ?_ ?_);rfl;rfl;rw [HW2.out])
 have hpa:=z1m 7 w2
 unfold z1k at hpa
 rw [show ptc 7=#[.bool false,.bool true,.bool false,.bool false,.bool false,.bool false] from rfl,show kOk 7=true from rfl] at hpa
 refine hpa.mono ?_
 rintro e w3 ⟨rfl,h3⟩
 have HQ3:=hid (HQ2.out.later h3)
 clear h3 hpa c0 HQ2 hx0
 obtain⟨Pb,hPb⟩:∃ n,w3.heap.size=n:=⟨_,rfl⟩
 obtain⟨w4,hwn,hxn,hbn⟩:∃ w4,(w3.alloc (.cells pz 194)).setRow Pb #[.bool false,.bool true,.bool false,.bool false,.bool false,.bool false]=w4∧w4.heap[Pb]?=some (.cells #[.bool false,.bool true,.bool false,.bool false,.bool false,.bool false] 194 (0,0))∧Below w3.heap.size w3 w4:=⟨_,rfl,by rw [← hPb];exact setRow_heap _ _ _ _ _ _ (z0b w3 _),below_setRow ((Below.refl _ _).alloc (Nat.le_refl _) _) (by omega) _⟩
 have hxz:=z0b w3 (.cells pz 194)
 rw [hPb] at hxz
 have HQ4:Hid (Qp W w4 N B R X Pb #[.bool false,.bool true,.bool false,.bool false,.bool false,.bool false] R0.1 (rk 7)):=hid ⟨HQ3.out.later hbn,hxn,by have:=z0g HQ3.out.x;omega⟩
 have HPZ:=hid hxz
 have HWN:=hid hwn
 have HNN:=hid hPb
 have HS6:Hid ((#[.bool false,.bool true,.bool false,.bool false,.bool false,.bool false]:Array Value).size=6):=hid rfl
 have HA6:Hid ((#[.bool false,.bool true,.bool false,.bool false,.bool false,.bool false]:Array Value).all (·.oneCell')=true):=hid (by simp [Value.oneCell'])
 clear hxz hxn hbn hwn hPb HQ3
 have p0:=HQ4.out.c (j:=0) (v:=.bool false) rfl
 have p1:=HQ4.out.c (j:=1) (v:=.bool true) rfl
 have p2:=HQ4.out.c (j:=2) (v:=.bool false) rfl
 have p3:=HQ4.out.c (j:=3) (v:=.bool false) rfl
 have p4:=HQ4.out.c (j:=4) (v:=.bool false) rfl
 have p5:=HQ4.out.c (j:=5) (v:=.bool false) rfl
 go_wp2_with ((try rw [HNN.out]);(with_reducible refine z0l #[.bool false,.bool true,.bool false,.bool false,.bool false,.bool false] HS6.out HA6.out HPZ.out ?_ ?_ ?_);rfl;rfl;rw [HWN.out])
 have hn:=z2k HQ4.out.q.z 4
 obtain⟨Qtx,hQtx⟩:∃ Q,numR R0.1 4=Q:=⟨_,rfl⟩
 have hf:=z8u HQ4.out.q.z.bytes
 rw [hQtx] at hn hf
 have hxtx:IntKind.u32.wrap ((Qtx.2:Nat):Int)=(Qtx.2:Nat):=z1w hf
 clear hf
 have HQtx:=hid hQtx
 clear hQtx
 refine hn.mono ?_
 rintro e y5 ⟨rfl,hz,hc⟩
 have HQb:=hid (HQ4.out.low hz hc)
 clear hz hc hn HQ4
 clear p0 p1 p2 p3 p4 p5
 obtain⟨cy,cf⟩:=HQb.out.q.cx (j:=2) (v:=.int .u32 0) rfl
 go_upto_region 9 with (fail)
 clear cy cf hxtx
 have hq:=HQb.out.put 2 (.int .u32 ((Qtx.2:Nat):Int)) (rm 7 0 ((Qtx.2:Nat):Int) 0 false 0 0 0 0 0) rfl
 generalize y5.setCell ⟨X,2,none⟩ (.int .u32 ((Qtx.2:Nat):Int))=w5 at *
 have HQ5:=hid hq
 clear hq HQb
 have p0:=HQ5.out.c (j:=0) (v:=.bool false) rfl
 have p1:=HQ5.out.c (j:=1) (v:=.bool true) rfl
 have p2:=HQ5.out.c (j:=2) (v:=.bool false) rfl
 have p3:=HQ5.out.c (j:=3) (v:=.bool false) rfl
 have p4:=HQ5.out.c (j:=4) (v:=.bool false) rfl
 have p5:=HQ5.out.c (j:=5) (v:=.bool false) rfl
 have HRD:=hid (z9v (D:=⟨Qtx.1,{ noX with k:=7,sg:=0,tx:=((Qtx.2:Nat):Int),st:=0,cp:=false,key:=(0,0,0),d:=0,o:=0 },0⟩) HR0.out HKK.out rfl (by
  simp [rdX,rd4,keyR,HQtx.out,noX]))
 go_wp2_with fail
 clear p0 p1 p2 p3 p4 p5
 have HXn:=hid HQ5.out.q.x
 have hd:=HQ5.out.later (show Below w5.heap.size w5 w5.drew from (Below.refl _ _).drew)
 have HQd:=hid hd
 have HBX:Hid (RB w5.drew X (rm 7 0 ((Qtx.2:Nat):Int) 0 false 0 0 0 0 0)):=hid hd.q.x
 clear hd
 refine wp_region_held_drew (S:=fun w'=>Hid (RB w' X (rm 7 0 ((Qtx.2:Nat):Int) 0 false 0 0 0 0 0))) (by kernel_rfl) HBX (fun hHeld=>?_)
 refine wpAnyH_take (i:=0) (oi:=⟨some 90,_,_,_,_,_⟩) (v:=.agg (rcs (rm 7 0 ((Qtx.2:Nat):Int) 0 false 0 0 0 0 0))) rfl (by kernel_rfl) (by kernel_rfl) (by kernel_rfl) (fun _ _ _ h=>h) (Or.inl ⟨by rfl,fun w' hw'=>z1z rfl (Hid.out hw')⟩) (by assumption) ?_
 simp only [Act.put,sIB,sCZ,sCS]
 refine wpAnyH_take (i:=1) (oi:=⟨some 91,_,_,_,_,_⟩) (v:=.pointer (some ⟨B,0,none⟩)) rfl (by kernel_rfl) (by kernel_rfl) (by kernel_rfl) (fun _ _ _ h=>h) (Or.inl ⟨by rfl,fun w' hw'=>?_⟩) (by assumption) ?_
 · clear hHeld
   go_simp
 simp only [Act.put,sIB,sCZ,sCS]
 generalize w5.drew=Wd at *
 refine wpAnyH_ready (rs:=[2]) (by kernel_rfl) (by simp) (AllReadyH.cons rfl (fun K hK=>?_) AllReadyH.nil)
 go_simp
 go_wp2_with fail
 refine (z7e HQd.out.q.z).mono ?_
 rintro e wz ⟨rfl,rfl⟩
 go_wp2_with fail
 refine hK.out _ _ HBX (fun hHeld2=>?_)
 clear hK K hHeld
 have hHeld:=hHeld2
 clear hHeld2
 (try simp only [Act.put,sIB,sCZ,sCS])
 refine wpAnyH_ready (rs:=[3]) (by kernel_rfl) (by simp) (AllReadyH.cons rfl (fun K hK=>?_) AllReadyH.nil)
 rw [if_pos (by rfl)]
 refine wp_store_row 51 _ _ rfl R (rcs (rm 7 0 ((Qtx.2:Nat):Int) 0 false 0 0 0 0 0)) rfl rfl 51 _ HQd.out.q.res (by kernel_rfl) rfl (z2c _) ?_
 have HB2:Hid (RB (Wd.setRow R (rcs (rm 7 0 ((Qtx.2:Nat):Int) 0 false 0 0 0 0 0))) X (rm 7 0 ((Qtx.2:Nat):Int) 0 false 0 0 0 0 0)):=hid ((setRow_other _ _ _ _ (by have:=HQd.out.q.ord;omega)).trans HBX.out)
 refine hK.out _ _ HB2 (fun hHeld2=>?_)
 clear hK K hHeld
 have hHeld:=hHeld2
 clear hHeld2
 (try simp only [Act.put,sIB,sCZ,sCS])
 refine wpAnyH_take (i:=4) (oi:=⟨some 3,_,_,_,_,_⟩) (v:=.int .i64 (endR Qtx.1)) rfl (by kernel_rfl) (by kernel_rfl) (by kernel_rfl) (fun _ _ _ h=>h) (Or.inl ⟨by rfl,fun w' hw'=>?_⟩) (by assumption) ?_
 · clear hHeld
   go_simp
 simp only [Act.put,sIB,sCZ,sCS]
 refine wpAnyH_done (by kernel_rfl) ?_ _
 clear hHeld
 have HRF:Hid (RB (Wd.setRow R (rcs (rm 7 0 ((Qtx.2:Nat):Int) 0 false 0 0 0 0 0))) R (rm 7 0 ((Qtx.2:Nat):Int) 0 false 0 0 0 0 0)):=hid (HQd.out.q.res.set _)
 have HG:Hid (z2b W B Bs (.returned (.tuple #[.agg (rcs (rm 7 0 ((Qtx.2:Nat):Int) 0 false 0 0 0 0 0)),.int .i64 (endR Qtx.1)])) (Wd.setRow R (rcs (rm 7 0 ((Qtx.2:Nat):Int) 0 false 0 0 0 0 0)))):=hid (by
  have ho:=HQd.out.q.ord
  have hcc:Chg (fun k=>k=B) W (Wd.setRow R (rcs (rm 7 0 ((Qtx.2:Nat):Int) 0 false 0 0 0 0 0))):=HQd.out.q.chg.trans (T:=fun k=>k=R) ⟨rfl,rfl,rfl,by simp [World.setRow],fun k _ hn=>setRow_other _ _ _ _ hn⟩ fun k hk e=>by omega
  have hE:z4m Bs=endR Qtx.1:=HRD.out.1
  refine⟨(rm 7 0 ((Qtx.2:Nat):Int) 0 false 0 0 0 0 0),[],[],[],by rw [hE],z1b _ _ _ _ _ _ _ _ _ _ _,fun _=>?_,hcc,(fun a h=>by have h':(none:Option Addr)=some a:=h;cases h'),(fun a h=>by have h':(none:Option Addr)=some a:=h;cases h'),(fun a h=>by have h':(none:Option Addr)=some a:=h;cases h')⟩
  rw [HRD.out.2]
  rfl)
 go_wp2_with fail
 refine bodyPost_ret (v:=.tuple #[.agg (rcs (rm 7 0 ((Qtx.2:Nat):Int) 0 false 0 0 0 0 0)),.int .i64 (endR Qtx.1)]) ?_ rfl HG.out
 exact z0m rfl _ _ R (rm 7 0 ((Qtx.2:Nat):Int) 0 false 0 0 0 0 0) _ rfl rfl HRF.out
theorem rec_read8 (W:World) (N B:Nat) (Bs:List Nat) (hz:Zw W N B (0,Bs)) (hk:(((numR ((0,Bs):St) 1).2:Nat):Int)=8):Calls Tryz.prog 92 #[.pointer (some ⟨B,0,none⟩)] W (z2b W B Bs):=by
 obtain⟨R,hR⟩:∃ R,W.heap.size=R:=⟨_,rfl⟩
 obtain⟨W0,hW0,hr0,hb0⟩:∃ W0,W.alloc (.cells zr 51)=W0∧RB W0 R rz∧Below W.heap.size W W0:=⟨_,rfl,by rw [← hR];exact z0b W _,(Below.refl _ _).alloc (Nat.le_refl _) _⟩
 have HZ0:=hid (hz.below hb0)
 have HRE:=hid hR
 have HW0:=hid hW0
 have HR0b:=hid hr0
 have HB0:=hid hb0
 have HNR:Hid (N≤R):=hid (by have:=hz.size;omega)
 obtain⟨R0,hR0⟩:∃ Q,numR ((0,Bs):St) 1=Q:=⟨_,rfl⟩
 have hn:=z2k HZ0.out 1
 have hf:=z3e (S:=(0,Bs)) HZ0.out.bytes
 rw [hR0] at hn hf hk
 have HR0:=hid hR0
 have hx0:IntKind.u8.wrap ((R0.2:Nat):Int)=(R0.2:Nat):=z1g hf
 rw [hk] at hn hx0
 have HKK:=hid hk
 clear hR hW0 hr0 hb0 hR0 hf hz hk
 go_enter Tryz.func92,Tryz.ntmps92
 go_upto_region 1 with (fail)
 rw [HW0.out,HRE.out]
 go_wp2_with fail
 refine hn.mono ?_
 rintro e w1 ⟨rfl,hz1,hc1⟩
 obtain⟨X,hX⟩:∃ X,w1.heap.size=X:=⟨_,rfl⟩
 have hRX:R<X:=by have:=z0g HR0b.out;have:=hc1.size;omega
 have hlow:=HZ0.out.low
 have hNR:=HNR.out
 have hres:=HR0b.out.chg hc1 (by omega)
 have hch0:Chg (fun k=>k=B) W w1:=(Chg.of_below (S:=fun k=>k=B) HB0.out).trans hc1 fun _ _ e=>e
 obtain⟨w1a,hw1a,hxa,hba⟩:∃ w1a,w1.alloc (.cells zr 51)=w1a∧RB w1a X rz∧Below w1.heap.size w1 w1a:=⟨_,rfl,by rw [← hX];exact z0b w1 _,(Below.refl _ _).alloc (Nat.le_refl _) _⟩
 have hQa:Qz W w1a N B R X R0.1 rz:=⟨hz1.below hba,hxa,hres.later hba,hch0.trans (Chg.of_below (S:=fun k=>k=B) hba) fun _ _ e=>e,by omega,hRX,by have:=HRE.out;omega⟩
 obtain⟨w2,hw2,hQ2⟩:∃ w2,w1a.setRow X (rcs (rk 8))=w2∧Qz W w2 N B R X R0.1 (rk 8):=⟨_,rfl,hQa.set _⟩
 have HXa:=hid hxa
 have HW1a:=hid hw1a
 have HW2:=hid hw2
 have HQ2:=hid hQ2
 have HXE:=hid hX
 clear hz1 hc1 hX hRX hlow hNR hres hch0 hw1a hxa hba hQa hw2 hQ2 hn
 have c0:w2.cell? ⟨X,0,none⟩=some (.int .u8 8):=z0a HQ2.out.x rfl
 go_wp2_with ((try rw [HXE.out]);(try rw [HW1a.out]);(with_reducible refine z0e (rk 8) HXa.out ?_ ?_ ?_);rfl;rfl;rw [HW2.out])
 have hpa:=z1m 8 w2
 unfold z1k at hpa
 rw [show ptc 8=#[.bool true,.bool false,.bool false,.bool false,.bool false,.bool false] from rfl,show kOk 8=true from rfl] at hpa
 refine hpa.mono ?_
 rintro e w3 ⟨rfl,h3⟩
 have HQ3:=hid (HQ2.out.later h3)
 clear h3 hpa c0 HQ2 hx0
 obtain⟨Pb,hPb⟩:∃ n,w3.heap.size=n:=⟨_,rfl⟩
 obtain⟨w4,hwn,hxn,hbn⟩:∃ w4,(w3.alloc (.cells pz 194)).setRow Pb #[.bool true,.bool false,.bool false,.bool false,.bool false,.bool false]=w4∧w4.heap[Pb]?=some (.cells #[.bool true,.bool false,.bool false,.bool false,.bool false,.bool false] 194 (0,0))∧Below w3.heap.size w3 w4:=⟨_,rfl,by rw [← hPb];exact setRow_heap _ _ _ _ _ _ (z0b w3 _),below_setRow ((Below.refl _ _).alloc (Nat.le_refl _) _) (by omega) _⟩
 have hxz:=z0b w3 (.cells pz 194)
 rw [hPb] at hxz
 have HQ4:Hid (Qp W w4 N B R X Pb #[.bool true,.bool false,.bool false,.bool false,.bool false,.bool false] R0.1 (rk 8)):=hid ⟨HQ3.out.later hbn,hxn,by have:=z0g HQ3.out.x;omega⟩
 have HPZ:=hid hxz
 have HWN:=hid hwn
 have HNN:=hid hPb
 have HS6:Hid ((#[.bool true,.bool false,.bool false,.bool false,.bool false,.bool false]:Array Value).size=6):=hid rfl
 have HA6:Hid ((#[.bool true,.bool false,.bool false,.bool false,.bool false,.bool false]:Array Value).all (·.oneCell')=true):=hid (by simp [Value.oneCell'])
 clear hxz hxn hbn hwn hPb HQ3
 have p0:=HQ4.out.c (j:=0) (v:=.bool true) rfl
 have p1:=HQ4.out.c (j:=1) (v:=.bool false) rfl
 have p2:=HQ4.out.c (j:=2) (v:=.bool false) rfl
 have p3:=HQ4.out.c (j:=3) (v:=.bool false) rfl
 have p4:=HQ4.out.c (j:=4) (v:=.bool false) rfl
 have p5:=HQ4.out.c (j:=5) (v:=.bool false) rfl
 go_wp2_with ((try rw [HNN.out]);(with_reducible refine z0l #[.bool true,.bool false,.bool false,.bool false,.bool false,.bool false] HS6.out HA6.out HPZ.out ?_ ?_ ?_);rfl;rfl;rw [HWN.out])
 have hn:=z2k HQ4.out.q.z 4
 obtain⟨Qsg,hQsg⟩:∃ Q,numR R0.1 4=Q:=⟨_,rfl⟩
 have hf:=z8u HQ4.out.q.z.bytes
 rw [hQsg] at hn hf
 have hxsg:IntKind.u32.wrap ((Qsg.2:Nat):Int)=(Qsg.2:Nat):=z1w hf
 clear hf
 have HQsg:=hid hQsg
 clear hQsg
 refine hn.mono ?_
 rintro e y5 ⟨rfl,hz,hc⟩
 have HQb:=hid (HQ4.out.low hz hc)
 clear hz hc hn HQ4
 clear p0 p1 p2 p3 p4 p5
 obtain⟨cy,cf⟩:=HQb.out.q.cx (j:=1) (v:=.int .u32 0) rfl
 go_upto_region 7 with (fail)
 clear cy cf hxsg
 have hq:=HQb.out.put 1 (.int .u32 ((Qsg.2:Nat):Int)) (rm 8 ((Qsg.2:Nat):Int) 0 0 false 0 0 0 0 0) rfl
 generalize y5.setCell ⟨X,1,none⟩ (.int .u32 ((Qsg.2:Nat):Int))=w5 at *
 have HQ5:=hid hq
 clear hq HQb
 have p0:=HQ5.out.c (j:=0) (v:=.bool true) rfl
 have p1:=HQ5.out.c (j:=1) (v:=.bool false) rfl
 have p2:=HQ5.out.c (j:=2) (v:=.bool false) rfl
 have p3:=HQ5.out.c (j:=3) (v:=.bool false) rfl
 have p4:=HQ5.out.c (j:=4) (v:=.bool false) rfl
 have p5:=HQ5.out.c (j:=5) (v:=.bool false) rfl
 have HRD:=hid (z9v (D:=⟨Qsg.1,{ noX with k:=8,sg:=((Qsg.2:Nat):Int),tx:=0,st:=0,cp:=false,key:=(0,0,0),d:=0,o:=0 },0⟩) HR0.out HKK.out rfl (by
  simp [rdX,rd8,keyR,HQsg.out,noX]))
 go_wp2_with fail
 clear p0 p1 p2 p3 p4 p5
 have HXn:=hid HQ5.out.q.x
 have hd:=HQ5.out.later (show Below w5.heap.size w5 w5.drew from (Below.refl _ _).drew)
 have HQd:=hid hd
 have HBX:Hid (RB w5.drew X (rm 8 ((Qsg.2:Nat):Int) 0 0 false 0 0 0 0 0)):=hid hd.q.x
 clear hd
 refine wp_region_held_drew (S:=fun w'=>Hid (RB w' X (rm 8 ((Qsg.2:Nat):Int) 0 0 false 0 0 0 0 0))) (by kernel_rfl) HBX (fun hHeld=>?_)
 refine wpAnyH_take (i:=0) (oi:=⟨some 90,_,_,_,_,_⟩) (v:=.agg (rcs (rm 8 ((Qsg.2:Nat):Int) 0 0 false 0 0 0 0 0))) rfl (by kernel_rfl) (by kernel_rfl) (by kernel_rfl) (fun _ _ _ h=>h) (Or.inl ⟨by rfl,fun w' hw'=>z1z rfl (Hid.out hw')⟩) (by assumption) ?_
 simp only [Act.put,sIB,sCZ,sCS]
 refine wpAnyH_take (i:=1) (oi:=⟨some 91,_,_,_,_,_⟩) (v:=.pointer (some ⟨B,0,none⟩)) rfl (by kernel_rfl) (by kernel_rfl) (by kernel_rfl) (fun _ _ _ h=>h) (Or.inl ⟨by rfl,fun w' hw'=>?_⟩) (by assumption) ?_
 · clear hHeld
   go_simp
 simp only [Act.put,sIB,sCZ,sCS]
 generalize w5.drew=Wd at *
 refine wpAnyH_ready (rs:=[2]) (by kernel_rfl) (by simp) (AllReadyH.cons rfl (fun K hK=>?_) AllReadyH.nil)
 go_simp
 go_wp2_with fail
 refine (z7e HQd.out.q.z).mono ?_
 rintro e wz ⟨rfl,rfl⟩
 go_wp2_with fail
 refine hK.out _ _ HBX (fun hHeld2=>?_)
 clear hK K hHeld
 have hHeld:=hHeld2
 clear hHeld2
 (try simp only [Act.put,sIB,sCZ,sCS])
 refine wpAnyH_ready (rs:=[3]) (by kernel_rfl) (by simp) (AllReadyH.cons rfl (fun K hK=>?_) AllReadyH.nil)
 rw [if_pos (by rfl)]
 refine wp_store_row 51 _ _ rfl R (rcs (rm 8 ((Qsg.2:Nat):Int) 0 0 false 0 0 0 0 0)) rfl rfl 51 _ HQd.out.q.res (by kernel_rfl) rfl (z2c _) ?_
 have HB2:Hid (RB (Wd.setRow R (rcs (rm 8 ((Qsg.2:Nat):Int) 0 0 false 0 0 0 0 0))) X (rm 8 ((Qsg.2:Nat):Int) 0 0 false 0 0 0 0 0)):=hid ((setRow_other _ _ _ _ (by have:=HQd.out.q.ord;omega)).trans HBX.out)
 refine hK.out _ _ HB2 (fun hHeld2=>?_)
 clear hK K hHeld
 have hHeld:=hHeld2
 clear hHeld2
 (try simp only [Act.put,sIB,sCZ,sCS])
 refine wpAnyH_take (i:=4) (oi:=⟨some 3,_,_,_,_,_⟩) (v:=.int .i64 (endR Qsg.1)) rfl (by kernel_rfl) (by kernel_rfl) (by kernel_rfl) (fun _ _ _ h=>h) (Or.inl ⟨by rfl,fun w' hw'=>?_⟩) (by assumption) ?_
 · clear hHeld
   go_simp
 simp only [Act.put,sIB,sCZ,sCS]
 refine wpAnyH_done (by kernel_rfl) ?_ _
 clear hHeld
 have HRF:Hid (RB (Wd.setRow R (rcs (rm 8 ((Qsg.2:Nat):Int) 0 0 false 0 0 0 0 0))) R (rm 8 ((Qsg.2:Nat):Int) 0 0 false 0 0 0 0 0)):=hid (HQd.out.q.res.set _)
 have HG:Hid (z2b W B Bs (.returned (.tuple #[.agg (rcs (rm 8 ((Qsg.2:Nat):Int) 0 0 false 0 0 0 0 0)),.int .i64 (endR Qsg.1)])) (Wd.setRow R (rcs (rm 8 ((Qsg.2:Nat):Int) 0 0 false 0 0 0 0 0)))):=hid (by
  have ho:=HQd.out.q.ord
  have hcc:Chg (fun k=>k=B) W (Wd.setRow R (rcs (rm 8 ((Qsg.2:Nat):Int) 0 0 false 0 0 0 0 0))):=HQd.out.q.chg.trans (T:=fun k=>k=R) ⟨rfl,rfl,rfl,by simp [World.setRow],fun k _ hn=>setRow_other _ _ _ _ hn⟩ fun k hk e=>by omega
  have hE:z4m Bs=endR Qsg.1:=HRD.out.1
  refine⟨(rm 8 ((Qsg.2:Nat):Int) 0 0 false 0 0 0 0 0),[],[],[],by rw [hE],z1b _ _ _ _ _ _ _ _ _ _ _,fun _=>?_,hcc,(fun a h=>by have h':(none:Option Addr)=some a:=h;cases h'),(fun a h=>by have h':(none:Option Addr)=some a:=h;cases h'),(fun a h=>by have h':(none:Option Addr)=some a:=h;cases h')⟩
  rw [HRD.out.2]
  rfl)
 go_wp2_with fail
 refine bodyPost_ret (v:=.tuple #[.agg (rcs (rm 8 ((Qsg.2:Nat):Int) 0 0 false 0 0 0 0 0)),.int .i64 (endR Qsg.1)]) ?_ rfl HG.out
 exact z0m rfl _ _ R (rm 8 ((Qsg.2:Nat):Int) 0 0 false 0 0 0 0 0) _ rfl rfl HRF.out
theorem rec_read9 (W:World) (N B:Nat) (Bs:List Nat) (hz:Zw W N B (0,Bs)) (hk:(((numR ((0,Bs):St) 1).2:Nat):Int)=9):Calls Tryz.prog 92 #[.pointer (some ⟨B,0,none⟩)] W (z2b W B Bs):=by
 obtain⟨R,hR⟩:∃ R,W.heap.size=R:=⟨_,rfl⟩
 obtain⟨W0,hW0,hr0,hb0⟩:∃ W0,W.alloc (.cells zr 51)=W0∧RB W0 R rz∧Below W.heap.size W W0:=⟨_,rfl,by rw [← hR];exact z0b W _,(Below.refl _ _).alloc (Nat.le_refl _) _⟩
 have HZ0:=hid (hz.below hb0)
 have HRE:=hid hR
 have HW0:=hid hW0
 have HR0b:=hid hr0
 have HB0:=hid hb0
 have HNR:Hid (N≤R):=hid (by have:=hz.size;omega)
 obtain⟨R0,hR0⟩:∃ Q,numR ((0,Bs):St) 1=Q:=⟨_,rfl⟩
 have hn:=z2k HZ0.out 1
 have hf:=z3e (S:=(0,Bs)) HZ0.out.bytes
 rw [hR0] at hn hf hk
 have HR0:=hid hR0
 have hx0:IntKind.u8.wrap ((R0.2:Nat):Int)=(R0.2:Nat):=z1g hf
 rw [hk] at hn hx0
 have HKK:=hid hk
 clear hR hW0 hr0 hb0 hR0 hf hz hk
 go_enter Tryz.func92,Tryz.ntmps92
 go_upto_region 1 with (fail)
 rw [HW0.out,HRE.out]
 go_wp2_with fail
 refine hn.mono ?_
 rintro e w1 ⟨rfl,hz1,hc1⟩
 obtain⟨X,hX⟩:∃ X,w1.heap.size=X:=⟨_,rfl⟩
 have hRX:R<X:=by have:=z0g HR0b.out;have:=hc1.size;omega
 have hlow:=HZ0.out.low
 have hNR:=HNR.out
 have hres:=HR0b.out.chg hc1 (by omega)
 have hch0:Chg (fun k=>k=B) W w1:=(Chg.of_below (S:=fun k=>k=B) HB0.out).trans hc1 fun _ _ e=>e
 obtain⟨w1a,hw1a,hxa,hba⟩:∃ w1a,w1.alloc (.cells zr 51)=w1a∧RB w1a X rz∧Below w1.heap.size w1 w1a:=⟨_,rfl,by rw [← hX];exact z0b w1 _,(Below.refl _ _).alloc (Nat.le_refl _) _⟩
 have hQa:Qz W w1a N B R X R0.1 rz:=⟨hz1.below hba,hxa,hres.later hba,hch0.trans (Chg.of_below (S:=fun k=>k=B) hba) fun _ _ e=>e,by omega,hRX,by have:=HRE.out;omega⟩
 obtain⟨w2,hw2,hQ2⟩:∃ w2,w1a.setRow X (rcs (rk 9))=w2∧Qz W w2 N B R X R0.1 (rk 9):=⟨_,rfl,hQa.set _⟩
 have HXa:=hid hxa
 have HW1a:=hid hw1a
 have HW2:=hid hw2
 have HQ2:=hid hQ2
 have HXE:=hid hX
 clear hz1 hc1 hX hRX hlow hNR hres hch0 hw1a hxa hba hQa hw2 hQ2 hn
 have c0:w2.cell? ⟨X,0,none⟩=some (.int .u8 9):=z0a HQ2.out.x rfl
 go_wp2_with ((try rw [HXE.out]);(try rw [HW1a.out]);(with_reducible refine z0e (rk 9) HXa.out ?_ ?_ ?_);rfl;rfl;rw [HW2.out])
 have hpa:=z1m 9 w2
 unfold z1k at hpa
 rw [show ptc 9=#[.bool true,.bool false,.bool false,.bool false,.bool true,.bool false] from rfl,show kOk 9=true from rfl] at hpa
 refine hpa.mono ?_
 rintro e w3 ⟨rfl,h3⟩
 have HQ3:=hid (HQ2.out.later h3)
 clear h3 hpa c0 HQ2 hx0
 obtain⟨Pb,hPb⟩:∃ n,w3.heap.size=n:=⟨_,rfl⟩
 obtain⟨w4,hwn,hxn,hbn⟩:∃ w4,(w3.alloc (.cells pz 194)).setRow Pb #[.bool true,.bool false,.bool false,.bool false,.bool true,.bool false]=w4∧w4.heap[Pb]?=some (.cells #[.bool true,.bool false,.bool false,.bool false,.bool true,.bool false] 194 (0,0))∧Below w3.heap.size w3 w4:=⟨_,rfl,by rw [← hPb];exact setRow_heap _ _ _ _ _ _ (z0b w3 _),below_setRow ((Below.refl _ _).alloc (Nat.le_refl _) _) (by omega) _⟩
 have hxz:=z0b w3 (.cells pz 194)
 rw [hPb] at hxz
 have HQ4:Hid (Qp W w4 N B R X Pb #[.bool true,.bool false,.bool false,.bool false,.bool true,.bool false] R0.1 (rk 9)):=hid ⟨HQ3.out.later hbn,hxn,by have:=z0g HQ3.out.x;omega⟩
 have HPZ:=hid hxz
 have HWN:=hid hwn
 have HNN:=hid hPb
 have HS6:Hid ((#[.bool true,.bool false,.bool false,.bool false,.bool true,.bool false]:Array Value).size=6):=hid rfl
 have HA6:Hid ((#[.bool true,.bool false,.bool false,.bool false,.bool true,.bool false]:Array Value).all (·.oneCell')=true):=hid (by simp [Value.oneCell'])
 clear hxz hxn hbn hwn hPb HQ3
 have p0:=HQ4.out.c (j:=0) (v:=.bool true) rfl
 have p1:=HQ4.out.c (j:=1) (v:=.bool false) rfl
 have p2:=HQ4.out.c (j:=2) (v:=.bool false) rfl
 have p3:=HQ4.out.c (j:=3) (v:=.bool false) rfl
 have p4:=HQ4.out.c (j:=4) (v:=.bool true) rfl
 have p5:=HQ4.out.c (j:=5) (v:=.bool false) rfl
 go_wp2_with ((try rw [HNN.out]);(with_reducible refine z0l #[.bool true,.bool false,.bool false,.bool false,.bool true,.bool false] HS6.out HA6.out HPZ.out ?_ ?_ ?_);rfl;rfl;rw [HWN.out])
 have hn:=z2k HQ4.out.q.z 4
 obtain⟨Qsg,hQsg⟩:∃ Q,numR R0.1 4=Q:=⟨_,rfl⟩
 have hf:=z8u HQ4.out.q.z.bytes
 rw [hQsg] at hn hf
 have hxsg:IntKind.u32.wrap ((Qsg.2:Nat):Int)=(Qsg.2:Nat):=z1w hf
 clear hf
 have HQsg:=hid hQsg
 clear hQsg
 refine hn.mono ?_
 rintro e y5 ⟨rfl,hz,hc⟩
 have HQb:=hid (HQ4.out.low hz hc)
 clear hz hc hn HQ4
 clear p0 p1 p2 p3 p4 p5
 obtain⟨cy,cf⟩:=HQb.out.q.cx (j:=1) (v:=.int .u32 0) rfl
 go_upto_region 7 with (fail)
 clear cy cf hxsg
 have hq:=HQb.out.put 1 (.int .u32 ((Qsg.2:Nat):Int)) (rm 9 ((Qsg.2:Nat):Int) 0 0 false 0 0 0 0 0) rfl
 generalize y5.setCell ⟨X,1,none⟩ (.int .u32 ((Qsg.2:Nat):Int))=w5 at *
 have HQ5:=hid hq
 clear hq HQb
 have p0:=HQ5.out.c (j:=0) (v:=.bool true) rfl
 have p1:=HQ5.out.c (j:=1) (v:=.bool false) rfl
 have p2:=HQ5.out.c (j:=2) (v:=.bool false) rfl
 have p3:=HQ5.out.c (j:=3) (v:=.bool false) rfl
 have p4:=HQ5.out.c (j:=4) (v:=.bool true) rfl
 have p5:=HQ5.out.c (j:=5) (v:=.bool false) rfl
 go_wp2_with fail
 have hn:=z2k HQ5.out.q.z 1
 obtain⟨Qo,hQo⟩:∃ Q,numR Qsg.1 1=Q:=⟨_,rfl⟩
 have hf:=z3e HQ5.out.q.z.bytes
 rw [hQo] at hn hf
 have hxo:IntKind.u8.wrap ((Qo.2:Nat):Int)=(Qo.2:Nat):=z1g hf
 clear hf
 have HQo:=hid hQo
 clear hQo
 refine hn.mono ?_
 rintro e y6 ⟨rfl,hz,hc⟩
 have HQb:=hid (HQ5.out.low hz hc)
 clear hz hc hn HQ5
 clear p0 p1 p2 p3 p4 p5
 obtain⟨cy,cf⟩:=HQb.out.q.cx (j:=9) (v:=.int .u8 0) rfl
 go_upto_region 17 with (fail)
 clear cy cf hxo
 have hq:=HQb.out.put 9 (.int .u8 ((Qo.2:Nat):Int)) (rm 9 ((Qsg.2:Nat):Int) 0 0 false 0 0 0 0 ((Qo.2:Nat):Int)) rfl
 generalize y6.setCell ⟨X,9,none⟩ (.int .u8 ((Qo.2:Nat):Int))=w6 at *
 have HQ6:=hid hq
 clear hq HQb
 have p0:=HQ6.out.c (j:=0) (v:=.bool true) rfl
 have p1:=HQ6.out.c (j:=1) (v:=.bool false) rfl
 have p2:=HQ6.out.c (j:=2) (v:=.bool false) rfl
 have p3:=HQ6.out.c (j:=3) (v:=.bool false) rfl
 have p4:=HQ6.out.c (j:=4) (v:=.bool true) rfl
 have p5:=HQ6.out.c (j:=5) (v:=.bool false) rfl
 have HRD:=hid (z9v (D:=⟨Qo.1,{ noX with k:=9,sg:=((Qsg.2:Nat):Int),tx:=0,st:=0,cp:=false,key:=(0,0,0),d:=0,o:=((Qo.2:Nat):Int) },0⟩) HR0.out HKK.out rfl (by
  simp [rdX,rd9,keyR,HQsg.out,HQo.out,noX]))
 go_wp2_with fail
 clear p0 p1 p2 p3 p4 p5
 have HXn:=hid HQ6.out.q.x
 have hd:=HQ6.out.later (show Below w6.heap.size w6 w6.drew from (Below.refl _ _).drew)
 have HQd:=hid hd
 have HBX:Hid (RB w6.drew X (rm 9 ((Qsg.2:Nat):Int) 0 0 false 0 0 0 0 ((Qo.2:Nat):Int))):=hid hd.q.x
 clear hd
 refine wp_region_held_drew (S:=fun w'=>Hid (RB w' X (rm 9 ((Qsg.2:Nat):Int) 0 0 false 0 0 0 0 ((Qo.2:Nat):Int)))) (by kernel_rfl) HBX (fun hHeld=>?_)
 refine wpAnyH_take (i:=0) (oi:=⟨some 90,_,_,_,_,_⟩) (v:=.agg (rcs (rm 9 ((Qsg.2:Nat):Int) 0 0 false 0 0 0 0 ((Qo.2:Nat):Int)))) rfl (by kernel_rfl) (by kernel_rfl) (by kernel_rfl) (fun _ _ _ h=>h) (Or.inl ⟨by rfl,fun w' hw'=>z1z rfl (Hid.out hw')⟩) (by assumption) ?_
 simp only [Act.put,sIB,sCZ,sCS]
 refine wpAnyH_take (i:=1) (oi:=⟨some 91,_,_,_,_,_⟩) (v:=.pointer (some ⟨B,0,none⟩)) rfl (by kernel_rfl) (by kernel_rfl) (by kernel_rfl) (fun _ _ _ h=>h) (Or.inl ⟨by rfl,fun w' hw'=>?_⟩) (by assumption) ?_
 · clear hHeld
   go_simp
 simp only [Act.put,sIB,sCZ,sCS]
 generalize w6.drew=Wd at *
 refine wpAnyH_ready (rs:=[2]) (by kernel_rfl) (by simp) (AllReadyH.cons rfl (fun K hK=>?_) AllReadyH.nil)
 go_simp
 go_wp2_with fail
 refine (z7e HQd.out.q.z).mono ?_
 rintro e wz ⟨rfl,rfl⟩
 go_wp2_with fail
 refine hK.out _ _ HBX (fun hHeld2=>?_)
 clear hK K hHeld
 have hHeld:=hHeld2
 clear hHeld2
 (try simp only [Act.put,sIB,sCZ,sCS])
 refine wpAnyH_ready (rs:=[3]) (by kernel_rfl) (by simp) (AllReadyH.cons rfl (fun K hK=>?_) AllReadyH.nil)
 rw [if_pos (by rfl)]
 refine wp_store_row 51 _ _ rfl R (rcs (rm 9 ((Qsg.2:Nat):Int) 0 0 false 0 0 0 0 ((Qo.2:Nat):Int))) rfl rfl 51 _ HQd.out.q.res (by kernel_rfl) rfl (z2c _) ?_
 have HB2:Hid (RB (Wd.setRow R (rcs (rm 9 ((Qsg.2:Nat):Int) 0 0 false 0 0 0 0 ((Qo.2:Nat):Int)))) X (rm 9 ((Qsg.2:Nat):Int) 0 0 false 0 0 0 0 ((Qo.2:Nat):Int))):=hid ((setRow_other _ _ _ _ (by have:=HQd.out.q.ord;omega)).trans HBX.out)
 refine hK.out _ _ HB2 (fun hHeld2=>?_)
 clear hK K hHeld
 have hHeld:=hHeld2
 clear hHeld2
 (try simp only [Act.put,sIB,sCZ,sCS])
 refine wpAnyH_take (i:=4) (oi:=⟨some 3,_,_,_,_,_⟩) (v:=.int .i64 (endR Qo.1)) rfl (by kernel_rfl) (by kernel_rfl) (by kernel_rfl) (fun _ _ _ h=>h) (Or.inl ⟨by rfl,fun w' hw'=>?_⟩) (by assumption) ?_
 · clear hHeld
   go_simp
 simp only [Act.put,sIB,sCZ,sCS]
 refine wpAnyH_done (by kernel_rfl) ?_ _
 clear hHeld
 have HRF:Hid (RB (Wd.setRow R (rcs (rm 9 ((Qsg.2:Nat):Int) 0 0 false 0 0 0 0 ((Qo.2:Nat):Int)))) R (rm 9 ((Qsg.2:Nat):Int) 0 0 false 0 0 0 0 ((Qo.2:Nat):Int))):=hid (HQd.out.q.res.set _)
 have HG:Hid (z2b W B Bs (.returned (.tuple #[.agg (rcs (rm 9 ((Qsg.2:Nat):Int) 0 0 false 0 0 0 0 ((Qo.2:Nat):Int))),.int .i64 (endR Qo.1)])) (Wd.setRow R (rcs (rm 9 ((Qsg.2:Nat):Int) 0 0 false 0 0 0 0 ((Qo.2:Nat):Int))))):=hid (by
  have ho:=HQd.out.q.ord
  have hcc:Chg (fun k=>k=B) W (Wd.setRow R (rcs (rm 9 ((Qsg.2:Nat):Int) 0 0 false 0 0 0 0 ((Qo.2:Nat):Int)))):=HQd.out.q.chg.trans (T:=fun k=>k=R) ⟨rfl,rfl,rfl,by simp [World.setRow],fun k _ hn=>setRow_other _ _ _ _ hn⟩ fun k hk e=>by omega
  have hE:z4m Bs=endR Qo.1:=HRD.out.1
  refine⟨(rm 9 ((Qsg.2:Nat):Int) 0 0 false 0 0 0 0 ((Qo.2:Nat):Int)),[],[],[],by rw [hE],z1b _ _ _ _ _ _ _ _ _ _ _,fun _=>?_,hcc,(fun a h=>by have h':(none:Option Addr)=some a:=h;cases h'),(fun a h=>by have h':(none:Option Addr)=some a:=h;cases h'),(fun a h=>by have h':(none:Option Addr)=some a:=h;cases h')⟩
  rw [HRD.out.2]
  rfl)
 go_wp2_with fail
 refine bodyPost_ret (v:=.tuple #[.agg (rcs (rm 9 ((Qsg.2:Nat):Int) 0 0 false 0 0 0 0 ((Qo.2:Nat):Int))),.int .i64 (endR Qo.1)]) ?_ rfl HG.out
 exact z0m rfl _ _ R (rm 9 ((Qsg.2:Nat):Int) 0 0 false 0 0 0 0 ((Qo.2:Nat):Int)) _ rfl rfl HRF.out
theorem rec_readx (W:World) (N B:Nat) (Bs:List Nat) (hz:Zw W N B (0,Bs)) (kk:Int) (hko:kOk kk=false) (hk:(((numR ((0,Bs):St) 1).2:Nat):Int)=kk):Calls Tryz.prog 92 #[.pointer (some ⟨B,0,none⟩)] W (z2b W B Bs):=by
 have HPK:Hid (ptc kk=pz∧kOk kk=false):=hid ⟨by obtain⟨e1,e2,e3,e4,e5,e6,e7,e8,e9⟩:=not_kOk hko;unfold ptc kS kT kB kA kO kP;simp [e1,e2,e3,e4,e5,e6,e7,e8,e9],hko⟩
 clear hko
 obtain⟨R,hR⟩:∃ R,W.heap.size=R:=⟨_,rfl⟩
 obtain⟨W0,hW0,hr0,hb0⟩:∃ W0,W.alloc (.cells zr 51)=W0∧RB W0 R rz∧Below W.heap.size W W0:=⟨_,rfl,by rw [← hR];exact z0b W _,(Below.refl _ _).alloc (Nat.le_refl _) _⟩
 have HZ0:=hid (hz.below hb0)
 have HRE:=hid hR
 have HW0:=hid hW0
 have HR0b:=hid hr0
 have HB0:=hid hb0
 have HNR:Hid (N≤R):=hid (by have:=hz.size;omega)
 obtain⟨R0,hR0⟩:∃ Q,numR ((0,Bs):St) 1=Q:=⟨_,rfl⟩
 have hn:=z2k HZ0.out 1
 have hf:=z3e (S:=(0,Bs)) HZ0.out.bytes
 rw [hR0] at hn hf hk
 have HR0:=hid hR0
 have hx0:IntKind.u8.wrap ((R0.2:Nat):Int)=(R0.2:Nat):=z1g hf
 rw [hk] at hn hx0
 have HKK:=hid hk
 clear hR hW0 hr0 hb0 hR0 hf hz hk
 have HE:=hid (rd_bad HR0.out HKK.out HPK.out.2)
 obtain⟨er,her⟩:∃ er,(if R0.1.1≠0 then R0.1.1 else 8)=er:=⟨_,rfl⟩
 rw [her] at HE
 have HER:=hid her
 have HNE:Hid (er≠0):=hid (by rw [← her];split <;> omega)
 clear her
 go_enter Tryz.func92,Tryz.ntmps92
 go_upto_region 1 with (fail)
 rw [HW0.out,HRE.out]
 go_wp2_with fail
 refine hn.mono ?_
 rintro e w1 ⟨rfl,hz1,hc1⟩
 obtain⟨X,hX⟩:∃ X,w1.heap.size=X:=⟨_,rfl⟩
 have hRX:R<X:=by have:=z0g HR0b.out;have:=hc1.size;omega
 have hlow:=HZ0.out.low
 have hNR:=HNR.out
 have hres:=HR0b.out.chg hc1 (by omega)
 have hch0:Chg (fun k=>k=B) W w1:=(Chg.of_below (S:=fun k=>k=B) HB0.out).trans hc1 fun _ _ e=>e
 obtain⟨w1a,hw1a,hxa,hba⟩:∃ w1a,w1.alloc (.cells zr 51)=w1a∧RB w1a X rz∧Below w1.heap.size w1 w1a:=⟨_,rfl,by rw [← hX];exact z0b w1 _,(Below.refl _ _).alloc (Nat.le_refl _) _⟩
 have hQa:Qz W w1a N B R X R0.1 rz:=⟨hz1.below hba,hxa,hres.later hba,hch0.trans (Chg.of_below (S:=fun k=>k=B) hba) fun _ _ e=>e,by omega,hRX,by have:=HRE.out;omega⟩
 obtain⟨w2,hw2,hQ2⟩:∃ w2,w1a.setRow X (rcs (rk kk))=w2∧Qz W w2 N B R X R0.1 (rk kk):=⟨_,rfl,hQa.set _⟩
 have HXa:=hid hxa
 have HW1a:=hid hw1a
 have HW2:=hid hw2
 have HQ2:=hid hQ2
 have HXE:=hid hX
 clear hz1 hc1 hX hRX hlow hNR hres hch0 hw1a hxa hba hQa hw2 hQ2 hn
 have c0:w2.cell? ⟨X,0,none⟩=some (.int .u8 kk):=z0a HQ2.out.x rfl
 go_wp2_with ((try rw [HXE.out]);(try rw [HW1a.out]);(with_reducible refine z0e (rk kk) HXa.out ?_ ?_ ?_);rfl;rfl;rw [HW2.out])
 have hpa:=z1m kk w2
 unfold z1k at hpa
 rw [HPK.out.1,HPK.out.2] at hpa
 refine hpa.mono ?_
 rintro e w3 ⟨rfl,h3⟩
 have HQ3:=hid (HQ2.out.later h3)
 clear h3 hpa c0 HQ2 hx0
 obtain⟨Pb,hPb⟩:∃ n,w3.heap.size=n:=⟨_,rfl⟩
 obtain⟨w4,hwn,hxn,hbn⟩:∃ w4,(w3.alloc (.cells pz 194)).setRow Pb #[.bool false,.bool false,.bool false,.bool false,.bool false,.bool false]=w4∧w4.heap[Pb]?=some (.cells #[.bool false,.bool false,.bool false,.bool false,.bool false,.bool false] 194 (0,0))∧Below w3.heap.size w3 w4:=⟨_,rfl,by rw [← hPb];exact setRow_heap _ _ _ _ _ _ (z0b w3 _),below_setRow ((Below.refl _ _).alloc (Nat.le_refl _) _) (by omega) _⟩
 have hxz:=z0b w3 (.cells pz 194)
 rw [hPb] at hxz
 have HQ4:Hid (Qp W w4 N B R X Pb #[.bool false,.bool false,.bool false,.bool false,.bool false,.bool false] R0.1 (rk kk)):=hid ⟨HQ3.out.later hbn,hxn,by have:=z0g HQ3.out.x;omega⟩
 have HPZ:=hid hxz
 have HWN:=hid hwn
 have HNN:=hid hPb
 have HS6:Hid ((#[.bool false,.bool false,.bool false,.bool false,.bool false,.bool false]:Array Value).size=6):=hid rfl
 have HA6:Hid ((#[.bool false,.bool false,.bool false,.bool false,.bool false,.bool false]:Array Value).all (·.oneCell')=true):=hid (by simp [Value.oneCell'])
 clear hxz hxn hbn hwn hPb HQ3
 go_wp2_with ((try rw [HNN.out]);(with_reducible refine z0l #[.bool false,.bool false,.bool false,.bool false,.bool false,.bool false] HS6.out HA6.out HPZ.out ?_ ?_ ?_);rfl;rfl;rw [HWN.out])
 have hd:=HQ4.out.later (show Below w4.heap.size w4 w4.drew from (Below.refl _ _).drew)
 have HQd:=hid hd
 have HBX:Hid (RB w4.drew X (rk kk)):=hid hd.q.x
 clear hd
 refine wp_region_held_drew (S:=fun w'=>Hid (RB w' X (rk kk))) (by kernel_rfl) HBX (fun hHeld=>?_)
 refine wpAnyH_take (i:=0) (oi:=⟨some 22,_,_,_,_,_⟩) (v:=.agg (rcs (rk kk))) rfl (by kernel_rfl) (by kernel_rfl) (by kernel_rfl) (fun _ _ _ h=>h) (Or.inl ⟨by rfl,fun w' hw'=>z1z rfl (Hid.out hw')⟩) (by assumption) ?_
 simp only [Act.put,sIB,sCZ,sCS]
 refine wpAnyH_take (i:=1) (oi:=⟨some 23,_,_,_,_,_⟩) (v:=.pointer (some ⟨B,0,none⟩)) rfl (by kernel_rfl) (by kernel_rfl) (by kernel_rfl) (fun _ _ _ h=>h) (Or.inl ⟨by rfl,fun w' hw'=>?_⟩) (by assumption) ?_
 · clear hHeld
   go_simp
 simp only [Act.put,sIB,sCZ,sCS]
 generalize w4.drew=Wd at *
 refine wpAnyH_ready (rs:=[2]) (by kernel_rfl) (by simp) (AllReadyH.cons rfl (fun K hK=>?_) AllReadyH.nil)
 go_simp
 go_wp2_with fail
 refine (zw_err HQd.out.q.z).mono ?_
 rintro e wz ⟨rfl,rfl⟩
 go_wp2_with fail
 refine hK.out _ _ HBX (fun hHeld2=>?_)
 clear hK K hHeld
 have hHeld:=hHeld2
 clear hHeld2
 (try simp only [Act.put,sIB,sCZ,sCS])
 obtain⟨w6,hw6,hbx6,hb6⟩:∃ w6,(Wd.alloc (.cells #[.int .i64 R0.1.1,.int .i64 8] 56))=w6∧w6.heap[Wd.heap.size]?=some (.cells #[.int .i64 R0.1.1,.int .i64 8] 56 (0,0))∧Below Wd.heap.size Wd w6:=⟨_,rfl,z0b Wd _,(Below.refl _ _).alloc (Nat.le_refl _) _⟩
 have HQ6:=hid (HQd.out.later hb6)
 have HB6:Hid (RB w6 X (rk kk)):=hid HQ6.out.q.x
 have HX6:=hid hbx6
 have HW6:=hid hw6
 clear hw6 hbx6 hb6
 refine wpAnyH_ready (rs:=[3]) (by kernel_rfl) (by simp) (AllReadyH.cons rfl (fun K hK=>?_) AllReadyH.nil)
 go_simp
 rw [HW6.out]
 refine hK.out _ _ HB6 (fun hHeld2=>?_)
 clear hK K hHeld
 have hHeld:=hHeld2
 clear hHeld2
 (try simp only [Act.put,sIB,sCZ,sCS])
 refine wpAnyH_ready (rs:=[4]) (by kernel_rfl) (by simp) (AllReadyH.cons rfl (fun K hK=>?_) AllReadyH.nil)
 go_simp
 go_wp2_with fail
 have hor:=or_errno Wd.heap.size R0.1.1 8 w6 (z0a HX6.out rfl) (z0a HX6.out rfl)
 rw [HER.out] at hor
 refine hor.mono ?_
 rintro e x7 ⟨rfl,hb7⟩
 have HQ7:=hid (HQ6.out.later hb7)
 have HB7:Hid (RB x7 X (rk kk)):=hid HQ7.out.q.x
 clear hb7 hor
 go_wp2_with fail
 refine hK.out _ _ HB7 (fun hHeld2=>?_)
 clear hK K hHeld
 have hHeld:=hHeld2
 clear hHeld2
 (try simp only [Act.put,sIB,sCZ,sCS])
 refine wpAnyH_ready (rs:=[5]) (by kernel_rfl) (by simp) (AllReadyH.cons rfl (fun K hK=>?_) AllReadyH.nil)
 rw [if_pos (by rfl)]
 refine wp_store_row 51 _ _ rfl R (rcs (rk kk)) rfl rfl 51 _ HQ7.out.q.res (by kernel_rfl) rfl (z2c _) ?_
 have HB2:Hid (RB (x7.setRow R (rcs (rk kk))) X (rk kk)):=hid ((setRow_other _ _ _ _ (by have:=HQ7.out.q.ord;omega)).trans HB7.out)
 refine hK.out _ _ HB2 (fun hHeld2=>?_)
 clear hK K hHeld
 have hHeld:=hHeld2
 clear hHeld2
 (try simp only [Act.put,sIB,sCZ,sCS])
 refine wpAnyH_take (i:=6) (oi:=⟨some 3,_,_,_,_,_⟩) (v:=.int .i64 er) rfl (by kernel_rfl) (by kernel_rfl) (by kernel_rfl) (fun _ _ _ h=>h) (Or.inl ⟨by rfl,fun w' hw'=>?_⟩) (by assumption) ?_
 · clear hHeld
   go_simp
 simp only [Act.put,sIB,sCZ,sCS]
 refine wpAnyH_done (by kernel_rfl) ?_ _
 clear hHeld
 have HRF:Hid (RB (x7.setRow R (rcs (rk kk))) R (rk kk)):=hid (HQ7.out.q.res.set _)
 have HG:Hid (z2b W B Bs (.returned (.tuple #[.agg (rcs (rk kk)),.int .i64 er])) (x7.setRow R (rcs (rk kk)))):=hid (by
  have ho:=HQ7.out.q.ord
  have hcc:Chg (fun k=>k=B) W (x7.setRow R (rcs (rk kk))):=HQ7.out.q.chg.trans (T:=fun k=>k=R) ⟨rfl,rfl,rfl,by simp [World.setRow],fun k _ hn=>setRow_other _ _ _ _ hn⟩ fun k hk e=>by omega
  exact⟨(rk kk),[],[],[],by rw [HE.out],no_lists ⟨rfl,rfl,rfl,rfl,rfl,rfl,rfl,rfl,rfl⟩ _,fun h=>absurd (HE.out.symm.trans h) HNE.out,hcc,(fun a h=>by have h':(none:Option Addr)=some a:=h;cases h'),(fun a h=>by have h':(none:Option Addr)=some a:=h;cases h'),(fun a h=>by have h':(none:Option Addr)=some a:=h;cases h')⟩)
 (try simp only [Exit.inBlock,Exit.then])
 go_wp2_with fail
 refine bodyPost_ret (v:=.tuple #[.agg (rcs (rk kk)),.int .i64 er]) ?_ rfl HG.out
 exact z0m rfl _ _ R (rk kk) _ rfl rfl HRF.out
theorem rec_read (W:World) (N B:Nat) (Bs:List Nat) (hz:Zw W N B (0,Bs)) (hw:∀ w,Chg (fun k=>k=B) W w→Words w):Calls Tryz.prog 92 #[.pointer (some ⟨B,0,none⟩)] W (z2b W B Bs):=by
 obtain⟨kk,hkk⟩:∃ kk:Int,(((numR ((0,Bs):St) 1).2:Nat):Int)=kk:=⟨_,rfl⟩
 cases hko:kOk kk with
 | true =>
  rcases z5c hko with h | h | h | h | h | h | h | h | h <;> rw [h] at hkk
  · exact rec_read1 W N B Bs hz hw hkk
  · exact rec_read2 W N B Bs hz hkk
  · exact rec_read3 W N B Bs hz hkk
  · exact rec_read4 W N B Bs hz hkk
  · exact rec_read5 W N B Bs hz hkk
  · exact rec_read6 W N B Bs hz hkk
  · exact rec_read7 W N B Bs hz hkk
  · exact rec_read8 W N B Bs hz hkk
  · exact rec_read9 W N B Bs hz hkk
 | false=>exact rec_readx W N B Bs hz kk hko hkk
theorem decP_small (B:List Nat):(decP B).2.lines.length≤3∧(decP B).2.takes.length≤12∧(decP B).2.owes.length≤3:=by
 unfold decP
 split
 · exact⟨Nat.zero_le _,Nat.zero_le _,Nat.zero_le _⟩
 · split
   · exact⟨z4s _ _ _,z4s _ _ _,z4s _ _ _⟩
   · exact⟨Nat.zero_le _,Nat.zero_le _,Nat.zero_le _⟩
theorem decP_ok {B:List Nat} (hB:∀ y∈B,y<256):Pgok (decP B).2:=by
 by_cases h:(decP B).1=0
 · exact (enc_dec hB h).2.2
 · unfold decP at h ⊢
   split
   · exact z6a
   · rename_i h1
     rw [if_neg h1] at h
     split
     · rename_i h2
       rw [if_pos h2] at h
       exact absurd rfl h
     · exact z6a
theorem z8n {x:Nat} (h:x<256):(0:Int)≤(x:Nat)∧((x:Nat):Int)≤255:=by omega
theorem z5a {x:Nat} (h:x<4294967296):(0:Int)≤(x:Nat)∧((x:Nat):Int)≤4294967295:=by omega
theorem z6d {k:Int} (hk:kOk k=true) {S:St} (h:∀ y∈S.2,y<256):Rxok (rdX k S).rx∧(rdX k S).rx.pg.lines.length≤3∧(rdX k S).rx.pg.takes.length≤12∧(rdX k S).rx.pg.owes.length≤3:=by
 have h4:=z8u h
 have b4:=z0k h 4
 have hz:(0:Int)≤0∧(0:Int)≤255:=by omega
 have hz4:(0:Int)≤0∧(0:Int)≤4294967295:=by omega
 have hk0:Kok ((0,0,0):K):=⟨hz,hz,hz⟩
 have hd0:In64 0:=by simp [In64]
 have hn:([]:List Ln).length≤3∧([]:List Tk).length≤12∧([]:List Ln).length≤3:=⟨Nat.zero_le _,Nat.zero_le _,Nat.zero_le _⟩
 rcases z5c hk with e | e | e | e | e | e | e | e | e <;> subst e
 · rw [show rdX 1 S=rd1 S from rfl]
   unfold rd1
   dsimp only
   have hb:=z9t b4 512
   split
   · exact⟨⟨⟨by show (0:Int)≤1;omega,by show (1:Int)≤255;omega⟩,z5a h4,hz4,hz,hk0,hd0,hz,decP_ok hb⟩,decP_small _⟩
   · exact⟨⟨⟨by show (0:Int)≤1;omega,by show (1:Int)≤255;omega⟩,z5a h4,hz4,hz,hk0,hd0,hz,z6a⟩,hn⟩
 · rw [show rdX 2 S=rd2 S from rfl]
   unfold rd2
   dsimp only
   exact⟨⟨⟨by show (0:Int)≤2;omega,by show (2:Int)≤255;omega⟩,z5a h4,z5a (z8u b4),z8n (z3e (z0k b4 4)),hk0,hd0,hz,z6a⟩,hn⟩
 · rw [show rdX 3 S=rd3 3 S from rfl]
   unfold rd3 keyR
   dsimp only
   have b5:=z0k b4 1
   have b6:=z0k b5 1
   have b7:=z0k b6 1
   exact⟨⟨⟨by show (0:Int)≤3;omega,by show (3:Int)≤255;omega⟩,hz4,z5a h4,hz,⟨z8n (z3e b4),z8n (z3e b5),z8n (z3e b6)⟩,z9g (fit8 b7),hz,z6a⟩,hn⟩
 · rw [show rdX 4 S=rd4 4 S from rfl]
   exact⟨⟨⟨by show (0:Int)≤4;omega,by show (4:Int)≤255;omega⟩,hz4,z5a h4,hz,hk0,hd0,hz,z6a⟩,hn⟩
 · rw [show rdX 5 S=rd4 5 S from rfl]
   exact⟨⟨⟨by show (0:Int)≤5;omega,by show (5:Int)≤255;omega⟩,hz4,z5a h4,hz,hk0,hd0,hz,z6a⟩,hn⟩
 · rw [show rdX 6 S=rd3 6 S from rfl]
   unfold rd3 keyR
   dsimp only
   have b5:=z0k b4 1
   have b6:=z0k b5 1
   have b7:=z0k b6 1
   exact⟨⟨⟨by show (0:Int)≤6;omega,by show (6:Int)≤255;omega⟩,hz4,z5a h4,hz,⟨z8n (z3e b4),z8n (z3e b5),z8n (z3e b6)⟩,z9g (fit8 b7),hz,z6a⟩,hn⟩
 · rw [show rdX 7 S=rd4 7 S from rfl]
   exact⟨⟨⟨by show (0:Int)≤7;omega,by show (7:Int)≤255;omega⟩,hz4,z5a h4,hz,hk0,hd0,hz,z6a⟩,hn⟩
 · rw [show rdX 8 S=rd8 S from rfl]
   exact⟨⟨⟨by show (0:Int)≤8;omega,by show (8:Int)≤255;omega⟩,z5a h4,hz4,hz,hk0,hd0,hz,z6a⟩,hn⟩
 · rw [show rdX 9 S=rd9 S from rfl]
   exact⟨⟨⟨by show (0:Int)≤9;omega,by show (9:Int)≤255;omega⟩,z5a h4,hz4,hz,hk0,hd0,z8n (z3e b4),z6a⟩,hn⟩
theorem decX_eq (Bs:List Nat):decX Bs=if z4m Bs≠0 then (z4m Bs,noX) else if z1f (rdX (((numR (0,Bs) 1).2:Nat):Int) (numR (0,Bs) 1).1).rx=true then (0,(rdX (((numR (0,Bs) 1).2:Nat):Int) (numR (0,Bs) 1).1).rx) else (8,noX):=by
 unfold decX z4m
 dsimp only
 by_cases hk:kOk (((numR (0,Bs) 1).2:Nat):Int)=true
 · rw [if_pos hk,if_pos hk]
 · rw [if_neg hk,if_neg hk]
   have hne:(if (numR (0,Bs) 1).1.1≠0 then (numR (0,Bs) 1).1.1 else 8)≠0:=by split <;> omega
   rw [if_pos hne]
theorem readE_ok {Bs:List Nat} (hB:∀ y∈Bs,y<256) (h:z4m Bs=0):Rxok (rdX (((numR (0,Bs) 1).2:Nat):Int) (numR (0,Bs) 1).1).rx∧(rdX (((numR (0,Bs) 1).2:Nat):Int) (numR (0,Bs) 1).1).rx.pg.lines.length≤3∧(rdX (((numR (0,Bs) 1).2:Nat):Int) (numR (0,Bs) 1).1).rx.pg.takes.length≤12∧(rdX (((numR (0,Bs) 1).2:Nat):Int) (numR (0,Bs) 1).1).rx.pg.owes.length≤3:=by
 cases hk:kOk (((numR (0,Bs) 1).2:Nat):Int) with
 | true=>exact z6d hk (z0k (S:=(0,Bs)) hB 1)
 | false =>
  unfold z4m at h
  rw [hk,if_neg (by decide)] at h
  split at h
  · rename_i h1;exact absurd h h1
  · exact absurd h (by decide)
def Nw (W:World) (r:Rv):Prop:=(∀ a,r.lp=some a→W.heap.size≤a.block)∧(∀ a,r.tp=some a→W.heap.size≤a.block)∧(∀ a,r.wp=some a→W.heap.size≤a.block)
theorem z3i (W:World):Nw W rz:=⟨(fun a h=>by cases h),(fun a h=>by cases h),fun a h=>by cases h⟩
theorem q1d (W:World) {r:Rv} (h1:r.lp=none) (h2:r.tp=none) (h3:r.wp=none):Nw W r:=⟨(fun a h=>by rw [h1] at h;cases h),(fun a h=>by rw [h2] at h;cases h),fun a h=>by rw [h3] at h;cases h⟩
def z0s (W:World) (res:Int × Rx) (e:Ending) (w':World):Prop:=∃ r L T M,e=.returned (.tuple #[.agg (rcs r),.int .i64 res.1])∧r.x L T M=res.2∧RvM w' r L T M∧Below W.heap.size W w'∧Nw W r
theorem rec_decode (p:Option Addr) (n c:Nat) (Bs:List Nat) (W:World) (hw:Words W) (hS:Sl W p n c Bs) (hn:n≤600) :
 Calls Tryz.prog 49 #[.slice p n c] W (z0s W (decX Bs)):=by
 obtain⟨R,hR⟩:∃ R,W.heap.size=R:=⟨_,rfl⟩
 obtain⟨W0,hW0,hr0,hb0⟩:∃ W0,W.alloc (.cells zr 51)=W0∧RB W0 R rz∧Below W.heap.size W W0:=⟨_,rfl,by rw [← hR];exact z0b W _,(Below.refl _ _).alloc (Nat.le_refl _) _⟩
 have hrd:=q0l p n c Bs W0 (hS.later hb0) (by omega)
 have HLN:Hid (Bs.length≤1000):=hid (by have:=hS.len;omega)
 have HBY:Hid (∀ y∈Bs,y<256):=hid hS.lt
 have HRD:=hid hrd
 have HW0:=hid hW0
 have HR0:=hid hr0
 have HB0:=hid hb0
 have HWD:=hid hw
 have HRE:=hid hR
 have HDX:=hid (decX_eq Bs)
 clear hW0 hr0 hb0 hrd hS hw hR hn
 go_enter Tryz.func49,Tryz.ntmps49
 go_upto_region 1 with (fail)
 rw [HW0.out,HRE.out]
 go_wp2_with fail
 refine HRD.out.mono ?_
 rintro e w1 ⟨B,p',c',rfl,hB,hrd,hpb,hb1⟩
 have hBl:=hrd.lt
 have hs01:=hb1.size
 have hRlt:=z0g HR0.out
 have hZ:Zw w1 w1.heap.size B (0,Bs):=⟨⟨p',c',hrd,fun a ha=>by have:=(hpb a ha).2;omega⟩,hBl,Nat.le_refl _,HLN.out,HBY.out⟩
 have hlow:W.heap.size≤B:=by have:=HB0.out.size;omega
 have HBW:=hid (fun w (hc:Chg (fun k=>k=B) w1 w)=>Chg.below (W:=W) (B:=W.heap.size) (HB0.out.trans (hb1.mono HB0.out.size)) (by have:=HB0.out.size;omega) hc fun k hk=>by omega)
 have hrr:=rec_read w1 w1.heap.size B Bs hZ (fun w hc=>HWD.out.later (HBW.out w hc))
 have HR1:=hid (HR0.out.later hb1)
 have HRB:Hid (R≠B):=hid (by omega)
 clear hB hrd hpb hb1 hBl hs01 hRlt hZ hlow HRD
 go_wp2_with fail
 refine hrr.mono ?_
 rintro e w2 ⟨r,L,T,M,rfl,hm,hx,hc,hf1,hf2,hf3⟩
 have HFR:Hid ((∀ a,r.lp=some a→R<a.block)∧(∀ a,r.tp=some a→R<a.block)∧(∀ a,r.wp=some a→R<a.block)):=hid (by
  have:=z0g HR1.out
  exact⟨fun a h=>by have:=hf1 a h;omega,fun a h=>by have:=hf2 a h;omega,fun a h=>by have:=hf3 a h;omega⟩)
 clear hf1 hf2 hf3
 have HB2:=hid (HBW.out w2 hc)
 have HR2:=hid (HR1.out.chg hc HRB.out)
 have HX:=hid hx
 have HM:=hid hm
 clear hm hx hc hrr HR1 HRB HBW
 obtain⟨ec,hec⟩:∃ z,z4m Bs=z:=⟨_,rfl⟩
 rw [hec]
 have HEC:=hid hec
 clear hec
 obtain⟨N2,hN2⟩:∃ n,w2.heap.size=n:=⟨_,rfl⟩
 obtain⟨w3,hwn,hxn,hbn⟩:∃ w3,(w2.alloc (.cells zr 51)).setRow N2 (rcs r)=w3∧RB w3 N2 r∧Below w2.heap.size w2 w3:=⟨_,rfl,by rw [← hN2];exact setRow_heap _ _ _ _ _ _ (z0b w2 _),below_setRow ((Below.refl _ _).alloc (Nat.le_refl _) _) (by omega) _⟩
 have hxz:RB (w2.alloc (.cells zr 51)) N2 rz:=by rw [← hN2];exact z0b w2 _
 have HX3:=hid hxn
 have HXZ:=hid hxz
 have HR3:=hid (HR2.out.later hbn)
 have HB3:=hid (HB2.out.trans (hbn.mono HB2.out.size))
 have HM3:=hid (HM.out.later hbn)
 have HWN:=hid hwn
 have HNN:=hid hN2
 have HWR:Hid (W.heap.size≤R):=hid (by have:=HRE.out;omega)
 clear hwn hxn hbn hxz hN2 HM HR2
 by_cases h0:ec=0
 case neg =>
  have d0:(ec != 0)=true:=by simpa using h0
  have HRF:=hid (HR3.out.set rz)
  have HG:Hid (z0s W (decX Bs) (.returned (.tuple #[.agg zr,.int .i64 ec])) (w3.setRow R zr)):=hid (by
   have hp:decX Bs=(ec,noX):=by rw [HDX.out,if_pos (by rw [HEC.out];exact h0),HEC.out]
   rw [hp]
   exact⟨rz,[],[],[],rfl,rfl,rz_m _,below_setRow HB3.out HWR.out zr,z3i _⟩)
  clear h0
  go_wp2_with (first | ((try rw [HNN.out]);(with_reducible refine z0e r HXZ.out ?_ ?_ ?_);rfl;rfl;rw [HWN.out]) | ((with_reducible refine z0e rz HR3.out ?_ ?_ ?_);rfl;rfl))
  (try simp only [Exit.inBlock,Exit.then])
  refine bodyPost_ret (v:=.tuple #[.agg zr,.int .i64 ec]) ?_ rfl HG.out
  exact z0m rfl _ _ R rz _ rfl rfl HRF.out
 have d0:(ec != 0)=false:=by simp [h0]
 have he0:z4m Bs=0:=HEC.out.trans h0
 have hx:=HX.out he0
 obtain⟨hok,hs1,hs2,hs3⟩:=readE_ok HBY.out he0
 rw [← hx] at hok hs1 hs2 hs3
 have hdx:=HDX.out
 rw [if_neg (fun h=>h he0),← hx] at hdx
 have hgd:=rec_good r L T M w3 (HWD.out.later HB3.out) HM3.out hok ⟨by have:=HM3.out.l.len;have h:L.length≤3:=hs1;omega,by have:=HM3.out.t.len;have h:T.length≤12:=hs2;omega,by have:=HM3.out.o.len;have h:M.length≤3:=hs3;omega⟩
 have HDD:=hid hdx
 clear hdx hok hs1 hs2 hs3 hx he0 HDX HX
 go_wp2_with (first | ((try rw [HNN.out]);(with_reducible refine z0e r HXZ.out ?_ ?_ ?_);rfl;rfl;rw [HWN.out]) | ((with_reducible refine z0q HX3.out ?_ ?_);rfl))
 refine hgd.mono ?_
 rintro e w4 ⟨rfl,hb4⟩
 have HB4:=hid (HB3.out.trans (hb4.mono HB3.out.size))
 have HR4:=hid (HR3.out.later hb4)
 have HX4:=hid (HX3.out.later hb4)
 have HM4:=hid (HM3.out.later hb4)
 clear hb4 hgd
 cases hg:z1f (r.x L T M)
 case false =>
  have HRF:=hid (HR4.out.set rz)
  have HG:Hid (z0s W (decX Bs) (.returned (.tuple #[.agg zr,.int .i64 8])) (w4.setRow R zr)):=hid (by
   have hp:decX Bs=(8,noX):=by rw [HDD.out,if_neg (by rw [hg];decide)]
   rw [hp]
   exact⟨rz,[],[],[],rfl,rfl,rz_m _,below_setRow HB4.out HWR.out zr,z3i _⟩)
  go_wp2_with ((with_reducible refine z0e rz HR4.out ?_ ?_ ?_);rfl;rfl)
  (try simp only [Exit.inBlock,Exit.then])
  refine bodyPost_ret (v:=.tuple #[.agg zr,.int .i64 8]) ?_ rfl HG.out
  exact z0m rfl _ _ R rz _ rfl rfl HRF.out
 have HRF:=hid (HR4.out.set r)
 have HG:Hid (z0s W (decX Bs) (.returned (.tuple #[.agg (rcs r),.int .i64 0])) (w4.setRow R (rcs r))):=hid (by
  have hp:decX Bs=(0,r.x L T M):=by rw [HDD.out,if_pos hg]
  rw [hp]
  exact⟨r,L,T,M,rfl,rfl,z6e HM4.out (S:=fun k=>k=R) ⟨rfl,rfl,rfl,by simp [World.setRow],fun k _ hn=>setRow_other _ _ _ _ hn⟩ (fun a h e=>by have:=HFR.out.1 a h;omega) (fun a h e=>by have:=HFR.out.2.1 a h;omega) (fun a h e=>by have:=HFR.out.2.2 a h;omega),below_setRow HB4.out HWR.out (rcs r),(fun a h=>by have:=HFR.out.1 a h;have:=HRE.out;omega),(fun a h=>by have:=HFR.out.2.1 a h;have:=HRE.out;omega),fun a h=>by have:=HFR.out.2.2 a h;have:=HRE.out;omega⟩)
 clear hg
 go_wp2_with (first | ((with_reducible refine z0q HX4.out ?_ ?_);rfl) | ((with_reducible refine z0e r HR4.out ?_ ?_ ?_);rfl;rfl))
 (try simp only [Exit.inBlock,Exit.then])
 refine bodyPost_ret (v:=.tuple #[.agg (rcs r),.int .i64 0]) ?_ rfl HG.out
 exact z0m rfl _ _ R r _ rfl rfl HRF.out
theorem gk1 (sg tx st:Int) (cp:Bool) (key:K) (d o:Int) (pg:Pg):z1f ⟨1,sg,tx,st,cp,key,d,o,pg⟩=((sg != 0) && z0w 4 4 pg && decide ((⟨1,sg,tx,st,cp,key,d,o,pg⟩:Rx)=⟨1,sg,0,0,false,(0,0,0),0,0,pg⟩)):=by
 rw [Bool.eq_iff_iff]
 simp [z1f,kOk,kS,kT,kB,kA,kO,kP,z7u,addB,outB,z7y]
 grind
theorem gk2 (sg tx st:Int) (cp:Bool) (key:K) (d o:Int) (pg:Pg):z1f ⟨2,sg,tx,st,cp,key,d,o,pg⟩=((sg != 0) && (tx != 0) && decide (st<5) && decide ((⟨2,sg,tx,st,cp,key,d,o,pg⟩:Rx)=⟨2,sg,tx,st,cp,(0,0,0),0,0,noP⟩)):=by
 rw [Bool.eq_iff_iff]
 simp [z1f,kOk,kS,kT,kB,kA,kO,kP,z7u,addB,outB,z7y]
 grind
theorem gk3 (sg tx st:Int) (cp:Bool) (key:K) (d o:Int) (pg:Pg) (hd:In64 d):z1f ⟨3,sg,tx,st,cp,key,d,o,pg⟩=((tx != 0) && z4p 4 4 key.1 key.2.1 key.2.2 && (d != 0) && decide (-9223372036854775807≤d) && decide ((⟨3,sg,tx,st,cp,key,d,o,pg⟩:Rx)=⟨3,0,tx,0,false,key,d,0,noP⟩)):=by
 have h1:=hd.1
 have h2:(d != -9223372036854775808)=decide (-9223372036854775807≤d):=by
  rw [Bool.eq_iff_iff];simp;omega
 rw [Bool.eq_iff_iff]
 simp [z1f,kOk,kS,kT,kB,kA,kO,kP,z7u,addB,outB,z7y,h2]
 grind
theorem gk6 (sg tx st:Int) (cp:Bool) (key:K) (d o:Int) (pg:Pg) (hd:In64 d):z1f ⟨6,sg,tx,st,cp,key,d,o,pg⟩=((tx != 0) && z4p 4 4 key.1 key.2.1 key.2.2 && (d != 0) && decide (-9223372036854775807≤d) && decide ((⟨6,sg,tx,st,cp,key,d,o,pg⟩:Rx)=⟨6,0,tx,0,false,key,d,0,noP⟩)):=by
 have h1:=hd.1
 have h2:(d != -9223372036854775808)=decide (-9223372036854775807≤d):=by
  rw [Bool.eq_iff_iff];simp;omega
 rw [Bool.eq_iff_iff]
 simp [z1f,kOk,kS,kT,kB,kA,kO,kP,z7u,addB,outB,z7y,h2]
 grind
theorem gk4 (k sg tx st:Int) (cp:Bool) (key:K) (d o:Int) (pg:Pg) (hk:k=4∨k=5∨k=7):z1f ⟨k,sg,tx,st,cp,key,d,o,pg⟩=((tx != 0) && decide ((⟨k,sg,tx,st,cp,key,d,o,pg⟩:Rx)=⟨k,0,tx,0,false,(0,0,0),0,0,noP⟩)):=by
 rw [Bool.eq_iff_iff]
 rcases hk with rfl | rfl | rfl <;> simp [z1f,kOk,kS,kT,kB,kA,kO,kP,z7u,addB,outB,z7y] <;> grind
theorem gk8 (sg tx st:Int) (cp:Bool) (key:K) (d o:Int) (pg:Pg):z1f ⟨8,sg,tx,st,cp,key,d,o,pg⟩=((sg != 0) && decide ((⟨8,sg,tx,st,cp,key,d,o,pg⟩:Rx)=⟨8,sg,0,0,false,(0,0,0),0,0,noP⟩)):=by
 rw [Bool.eq_iff_iff]
 simp [z1f,kOk,kS,kT,kB,kA,kO,kP,z7u,addB,outB,z7y]
 grind
theorem gk9 (sg tx st:Int) (cp:Bool) (key:K) (d o:Int) (pg:Pg):z1f ⟨9,sg,tx,st,cp,key,d,o,pg⟩=((sg != 0) && ((o==1) || (o==2)) && decide ((⟨9,sg,tx,st,cp,key,d,o,pg⟩:Rx)=⟨9,sg,0,0,false,(0,0,0),0,o,noP⟩)):=by
 rw [Bool.eq_iff_iff]
 simp [z1f,kOk,kS,kT,kB,kA,kO,kP,z7u,addB,outB,z7y]
 grind
theorem z8g {x:Nat} (h:x<256):le x 1=[x]:=by simp [le,Nat.mod_eq_of_lt h]
theorem sp1 {S:St} (hB:∀ y∈S.2,y<256) (h:(numR S 1).1.1=0):S.1=0∧S.2=le (numR S 1).2 1++(numR S 1).1.2:=z1j hB (n:=1) (by omega) (by omega) h
theorem sp2 {S:St} (hB:∀ y∈S.2,y<256) (h:(numR S 2).1.1=0):S.1=0∧S.2=le (numR S 2).2 2++(numR S 2).1.2:=z1j hB (n:=2) (by omega) (by omega) h
theorem sp4 {S:St} (hB:∀ y∈S.2,y<256) (h:(numR S 4).1.1=0):S.1=0∧S.2=le (numR S 4).2 4++(numR S 4).1.2:=z1j hB (n:=4) (by omega) (by omega) h
theorem sp8 {S:St} (hB:∀ y∈S.2,y<256) (h:(numR S 8).1.1=0):S.1=0∧S.2=le (numR S 8).2 8++(numR S 8).1.2:=z1j hB (n:=8) (by omega) (by omega) h
theorem bad_no {e:Int} (he:e≠0) {S:St} (h:(bad e S).1=0):False:=by
 unfold bad at h
 split at h
 · exact he h
 · rename_i hn;exact hn h
theorem spb {S:St} (hB:∀ y∈S.2,y<256) (h:(z2v S).1.1=0):S.1=0∧S.2=[bitN (z2v S).2]++(z2v S).1.2:=by
 unfold z2v at *
 by_cases h1:1<(numR S 1).2
 · rw [if_pos h1] at h
   exact (bad_no (by decide) h).elim
 · rw [if_neg h1] at h ⊢
   obtain⟨a,b⟩:=sp1 hB h
   refine⟨a,?_⟩
   rw [b]
   dsimp only
   have hv:(numR S 1).2=0∨(numR S 1).2=1:=by omega
   rcases hv with hv | hv <;> rw [hv] <;> rfl
theorem spy {S:St} (hB:∀ y∈S.2,y<256) (h:(z1d S 512).1.1=0):S.1=0∧S.2=le (z1d S 512).2.length 2++((z1d S 512).2++(z1d S 512).1.2):=by
 unfold z1d at *
 by_cases hm:(512:Int)<((numR S 2).2:Int)
 · rw [if_pos hm] at h
   have hne:¬ (bad 7 (numR S 2).1).1=0:=fun h=>bad_no (by decide) h
   unfold z1i at h
   rw [if_neg hne] at h
   exact absurd h hne
 · rw [if_neg hm] at h ⊢
   unfold z1i at h ⊢
   by_cases h0:(numR S 2).1.1=0
   · rw [if_pos h0] at h ⊢
     by_cases hl:(numR S 2).1.2.length<(numR S 2).2
     · rw [if_pos hl] at h
       have h6:(6:Int)=0:=h
       exact absurd h6 (by decide)
     · rw [if_neg hl]
       dsimp only
       obtain⟨a,b⟩:=sp2 hB h0
       refine⟨a,?_⟩
       rw [List.length_take,Nat.min_eq_left (by omega),List.take_append_drop]
       exact b
   · rw [if_neg h0] at h
     exact absurd h h0
theorem z4a {S:St} (h:endR S=0):S.1=0∧S.2=[]:=by
 unfold endR at h
 split at h
 · exact absurd h (by decide)
 · rename_i hn
   refine⟨h,?_⟩
   by_cases hl:0<S.2.length
   · exact absurd ⟨h,hl⟩ hn
   · exact List.eq_nil_of_length_eq_zero (by omega)
theorem enc_rd {k:Nat} (hk:kOk ((k:Nat):Int)=true) {S:St} (hB:∀ y∈S.2,y<256) (h:rdE (rdX ((k:Nat):Int) S)=0):S.1=0∧z0o (rdX ((k:Nat):Int) S).rx=le k 1++S.2:=by
 obtain⟨kk,hkk⟩:∃ kk:Int,((k:Nat):Int)=kk:=⟨_,rfl⟩
 have hkn:k=kk.toNat:=by omega
 rw [hkk] at hk h ⊢
 rw [hkn]
 clear hkk hkn
 have b4:=z0k hB 4
 rcases z5c hk with e | e | e | e | e | e | e | e | e <;> subst e
 · rw [show rdX 1 S=rd1 S from rfl] at h ⊢
   unfold rd1 at h ⊢
   dsimp only at h ⊢
   by_cases hb:(z1d (numR S 4).1 512).1.1=0
   · rw [if_pos hb] at h ⊢
     unfold rdE at h
     dsimp only at h
     by_cases he:(decP (z1d (numR S 4).1 512).2).1=0
     · rw [if_pos he] at h
       obtain⟨_,hn⟩:=z4a h
       obtain⟨s4,e4⟩:=spy b4 hb
       obtain⟨s0,e0⟩:=sp4 hB s4
       obtain⟨_,hby,_⟩:=enc_dec (z9t b4 512) he
       refine⟨s0,?_⟩
       rw [e0,e4,hn]
       simp [z0o,kS,kT,kB,kA,kO,kP,hby,noX]
     · rw [if_neg he] at h
       exact absurd h he
   · rw [if_neg hb] at h
     exact absurd (z4a h).1 hb
 · rw [show rdX 2 S=rd2 S from rfl] at h ⊢
   unfold rd2 at h ⊢
   dsimp only at h ⊢
   obtain⟨hz,hn⟩:=z4a h
   have b5:=z0k b4 4
   have b6:=z0k b5 1
   obtain⟨s3,e3⟩:=spb b6 hz
   obtain⟨s2,e2⟩:=sp1 b5 s3
   obtain⟨s1,e1⟩:=sp4 b4 s2
   obtain⟨s0,e0⟩:=sp4 hB s1
   refine⟨s0,?_⟩
   conv=>rhs;rw [e0,e1,e2,e3,hn]
   simp [z0o,kS,kT,kB,kA,kO,kP,noX]
 · rw [show rdX 3 S=rd3 3 S from rfl] at h ⊢
   unfold rd3 keyR at h ⊢
   dsimp only at h ⊢
   obtain⟨hz,hn⟩:=z4a h
   have b5:=z0k b4 1
   have b6:=z0k b5 1
   have b7:=z0k b6 1
   obtain⟨s4,e4⟩:=sp8 b7 hz
   obtain⟨s3,e3⟩:=sp1 b6 s4
   obtain⟨s2,e2⟩:=sp1 b5 s3
   obtain⟨s1,e1⟩:=sp1 b4 s2
   obtain⟨s0,e0⟩:=sp4 hB s1
   refine⟨s0,?_⟩
   conv=>rhs;rw [e0,e1,e2,e3,e4,hn]
   simp [z0o,kS,kT,kB,kA,kO,kP,noX,keyB,z9b (fit8 b7),z8g (z3e b4),z8g (z3e b5),z8g (z3e b6)]
 · rw [show rdX 4 S=rd4 4 S from rfl] at h ⊢
   unfold rd4 at h ⊢
   dsimp only at h ⊢
   obtain⟨hz,hn⟩:=z4a h
   obtain⟨s0,e0⟩:=sp4 hB hz
   refine⟨s0,?_⟩
   conv=>rhs;rw [e0,hn]
   simp [z0o,kS,kT,kB,kA,kO,kP,noX]
 · rw [show rdX 5 S=rd4 5 S from rfl] at h ⊢
   unfold rd4 at h ⊢
   dsimp only at h ⊢
   obtain⟨hz,hn⟩:=z4a h
   obtain⟨s0,e0⟩:=sp4 hB hz
   refine⟨s0,?_⟩
   conv=>rhs;rw [e0,hn]
   simp [z0o,kS,kT,kB,kA,kO,kP,noX]
 · rw [show rdX 6 S=rd3 6 S from rfl] at h ⊢
   unfold rd3 keyR at h ⊢
   dsimp only at h ⊢
   obtain⟨hz,hn⟩:=z4a h
   have b5:=z0k b4 1
   have b6:=z0k b5 1
   have b7:=z0k b6 1
   obtain⟨s4,e4⟩:=sp8 b7 hz
   obtain⟨s3,e3⟩:=sp1 b6 s4
   obtain⟨s2,e2⟩:=sp1 b5 s3
   obtain⟨s1,e1⟩:=sp1 b4 s2
   obtain⟨s0,e0⟩:=sp4 hB s1
   refine⟨s0,?_⟩
   conv=>rhs;rw [e0,e1,e2,e3,e4,hn]
   simp [z0o,kS,kT,kB,kA,kO,kP,noX,keyB,z9b (fit8 b7),z8g (z3e b4),z8g (z3e b5),z8g (z3e b6)]
 · rw [show rdX 7 S=rd4 7 S from rfl] at h ⊢
   unfold rd4 at h ⊢
   dsimp only at h ⊢
   obtain⟨hz,hn⟩:=z4a h
   obtain⟨s0,e0⟩:=sp4 hB hz
   refine⟨s0,?_⟩
   conv=>rhs;rw [e0,hn]
   simp [z0o,kS,kT,kB,kA,kO,kP,noX]
 · rw [show rdX 8 S=rd8 S from rfl] at h ⊢
   unfold rd8 at h ⊢
   dsimp only at h ⊢
   obtain⟨hz,hn⟩:=z4a h
   obtain⟨s0,e0⟩:=sp4 hB hz
   refine⟨s0,?_⟩
   conv=>rhs;rw [e0,hn]
   simp [z0o,kS,kT,kB,kA,kO,kP,noX]
 · rw [show rdX 9 S=rd9 S from rfl] at h ⊢
   unfold rd9 at h ⊢
   dsimp only at h ⊢
   obtain⟨hz,hn⟩:=z4a h
   obtain⟨s1,e1⟩:=sp1 b4 hz
   obtain⟨s0,e0⟩:=sp4 hB s1
   refine⟨s0,?_⟩
   conv=>rhs;rw [e0,e1,hn]
   simp [z0o,kS,kT,kB,kA,kO,kP,noX]
theorem encX_dec {Bs:List Nat} (hB:∀ y∈Bs,y<256) (h:(decX Bs).1=0):z1f (decX Bs).2=true∧z0o (decX Bs).2=Bs∧Rxok (decX Bs).2:=by
 have hB0:∀ y∈((0,Bs):St).2,y<256:=hB
 unfold decX at h ⊢
 dsimp only at h ⊢
 by_cases hk:kOk (((numR (0,Bs) 1).2:Nat):Int)=true
 · rw [if_pos hk] at h ⊢
   by_cases he:rdE (rdX (((numR (0,Bs) 1).2:Nat):Int) (numR (0,Bs) 1).1)≠0
   · rw [if_pos he] at h
     exact absurd h he
   · rw [if_neg he] at h ⊢
     cases hg:z1f (rdX (((numR (0,Bs) 1).2:Nat):Int) (numR (0,Bs) 1).1).rx with
     | false =>
      rw [hg,if_neg (by decide)] at h
      exact absurd h (by decide)
     | true =>
      rw [if_pos rfl]
      dsimp only
      have b1:=z0k hB0 1
      obtain⟨s1,e1⟩:=enc_rd hk b1 (Decidable.not_not.1 he)
      obtain⟨_,e0⟩:=sp1 hB0 s1
      exact⟨hg,by rw [e1];exact e0.symm,(z6d hk b1).1⟩
 · rw [if_neg hk] at h
   dsimp only at h
   split at h
   · rename_i h1;exact absurd h h1
   · exact absurd h (by decide)
end Go.Proofs.YtfdgnniicjdjdaaGreatDoor
namespace Go.Proofs.YtfdgnniicjdjdaaGreatDoor
open Go.Lib (hid)
set_option maxHeartbeats 16000000
set_option linter.unusedVariables false
set_option maxRecDepth 10000
def z5h:Nat→List Nat→Nat→List (Nat × Rx)→List (Nat × Rx) × Nat × Int
 | 0,_,i,out=>(out,i,0)
 | f+1,B,i,out=>if B.length≤i then (out,i,0) else if nE (B.drop i)≠0 then (out,i,nE (B.drop i)) else if (decX (nP (B.drop i))).1≠0 then (out,i,8) else
  z5h f B (i+(6+nN (B.drop i))) (out ++ [(i,(decX (nP (B.drop i))).2)])
def z4x (B:List Nat):List (Nat × Rx) × Nat × Int:=z5h B.length B 0 []
theorem scanXF_same:∀ (f g:Nat) (B:List Nat) (i:Nat) (out:List (Nat × Rx)),B.length-i≤f→B.length-i≤g→i≤B.length→z5h f B i out=z5h g B i out
 | 0,0,_,_,_,_,_,_=>rfl
 | 0,g+1,B,i,out,h,_,hi=>by
  unfold z5h
  rw [if_pos (by omega)]
 | f+1,0,B,i,out,_,h,hi=>by
  unfold z5h
  rw [if_pos (by omega)]
 | f+1,g+1,B,i,out,hf,hg,hi=>by
  unfold z5h
  by_cases h0:B.length≤i
  · rw [if_pos h0,if_pos h0]
  · rw [if_neg h0,if_neg h0]
    by_cases h1:nE (B.drop i)=0
    · have hz:=z7c h1
      rw [List.length_drop] at hz
      rw [scanXF_same f g B (i+(6+nN (B.drop i))) _ (by omega) (by omega) (by omega)]
    · rw [if_pos h1,if_pos h1]
structure Sx (B:List Nat) (out:List (Nat × Rx)) (i:Nat):Prop where
 le:i≤B.length
 eq:z5h (B.length-i) B i out=z4x B
 few:7*out.length≤i
 at_:∀ e∈out,e.1≤i
theorem Sx.start (B:List Nat):Sx B [] 0:=⟨Nat.zero_le _,rfl,Nat.zero_le _,fun e h=>by cases h⟩
theorem Sx.step {B:List Nat} {out:List (Nat × Rx)} {i:Nat} (h:Sx B out i) (he:nE (B.drop i)=0) (hd:(decX (nP (B.drop i))).1=0):Sx B (out ++ [(i,(decX (nP (B.drop i))).2)]) (i+(6+nN (B.drop i))):=by
 have hz:=z7c he
 have h2:=h.le
 rw [List.length_drop] at hz
 obtain⟨f,hf⟩:∃ f,B.length-i=f+1:=⟨B.length-i-1,by omega⟩
 have e:=h.eq
 rw [hf] at e
 unfold z5h at e
 rw [if_neg (by omega),if_neg (fun h=>h he),if_neg (fun h=>h hd)] at e
 refine⟨by omega,?_,by have:=h.few;rw [List.length_append,List.length_singleton];omega,fun x hx=>?_⟩
 · rw [← e]
   exact scanXF_same _ _ _ _ _ (by omega) (by omega) (by omega)
 · rcases List.mem_append.1 hx with hx | hx
   · have:=h.at_ x hx
     omega
   · rw [List.mem_singleton] at hx
     subst hx
     simp
theorem Sx.done {B:List Nat} {out:List (Nat × Rx)} {i:Nat} (h:Sx B out i) (hi:B.length≤i):z4x B=(out,i,0):=by
 rw [← h.eq]
 cases hf:B.length-i with
 | zero=>rfl
 | succ f=>omega
theorem Sx.wrong {B:List Nat} {out:List (Nat × Rx)} {i:Nat} (h:Sx B out i) (hi:i<B.length) (he:nE (B.drop i)≠0):z4x B=(out,i,nE (B.drop i)):=by
 rw [← h.eq]
 obtain⟨f,hf⟩:∃ f,B.length-i=f+1:=⟨B.length-i-1,by omega⟩
 rw [hf]
 unfold z5h
 rw [if_neg (by omega),if_pos he]
theorem Sx.form {B:List Nat} {out:List (Nat × Rx)} {i:Nat} (h:Sx B out i) (hi:i<B.length) (he:nE (B.drop i)=0) (hd:(decX (nP (B.drop i))).1≠0):z4x B=(out,i,8):=by
 rw [← h.eq]
 obtain⟨f,hf⟩:∃ f,B.length-i=f+1:=⟨B.length-i-1,by omega⟩
 rw [hf]
 unfold z5h
 rw [if_neg (by omega),if_neg (fun h=>h he),if_pos hd]
def frmX (X:Rx):List Nat:=frm (z0o X)
theorem frmX_len (X:Rx):(frmX X).length=6+(z0o X).length:=frm_len _
theorem bytes_good {X:Rx} (h:z1f X=true):good (z0o X)=true∧5≤(z0o X).length∧(z0o X).length≤407:=by
 have hk:=goodX_kOk h
 have hl:=bytes_len hk
 have hp:=z8j h
 have h1:X.k=1→(z2u X.pg).length≤400:=fun e=>by
  rw [e] at hp
  exact pg_few hp
 have h2:5≤(z0o X).length∧(z0o X).length≤407:=by
  rw [hl]
  unfold lenK
  by_cases e:X.k=1
  · have:=h1 e
    rw [if_pos e,if_pos e]
    omega
  · rw [if_neg e,if_neg e]
    repeat' split
    all_goals omega
 exact⟨(z7r _).2 ⟨by omega,by omega⟩,h2⟩
end Go.Proofs.YtfdgnniicjdjdaaGreatDoor
namespace Go.Proofs.YtfdgnniicjdjdaaGreatDoor
open Go.Lib (hid)
set_option maxHeartbeats 16000000
open Go.RowKit Go.ChangeShapes Go.WideShapes
set_option linter.unusedVariables false
set_option linter.unusedSimpArgs false
set_option maxRecDepth 10000
theorem Rr.chg {w w':World} {B:Nat} {p0:Option Addr} {S:St} {T:Nat→Prop} (h:Rr w B p0 S) (hc:Chg T w w') (hT:∀ k,T k→B<k):Rr w' B p0 S:=by
 obtain⟨p,n,c,h1,h2⟩:=h.box
 refine⟨⟨p,n,c,(hc.block B (z0g h1) fun ht=>absurd (hT B ht) (Nat.lt_irrefl _)).trans h1,fun h0=>?_⟩,h.apart⟩
 obtain⟨hs,hf,hm⟩:=h2 h0
 refine⟨?_,hf,hm⟩
 by_cases hne:S.2=[]
 · refine⟨hs.len,hs.cap,hs.nil,hs.lt,fun hn=>?_⟩
   have:=hs.len
   rw [hne] at this
   simp at this
   omega
 · exact hs.keep fun a ha hlt=>hc.block a.block hlt fun ht=>by
    obtain⟨a',hp,hb⟩:=hf a ha
    have h3:=h.apart h0 hne a' hp
    have h4:=hT _ ht
    omega
theorem Rr.err {w:World} {B:Nat} {p0:Option Addr} {S:St} (h:Rr w B p0 S):w.cell? ⟨B,1,none⟩=some (.int .i64 S.1):=by
 obtain⟨p,n,c,h1,_⟩:=h.box
 exact z0a h1 rfl
theorem countR_le (S:St) (most:Nat):(z6h S most).2≤most:=by
 unfold z6h
 split
 · split
   · exact Nat.zero_le _
   · rename_i h;exact Nat.le_of_not_lt h
 · exact Nat.zero_le _
theorem z8a {w:World} {B:Nat} {p0:Option Addr} {S:St} (h:Rr w B p0 S):(numR S 8).2<18446744073709551616:=by
 by_cases h0:S.1=0
 · obtain⟨p,n,c,_,hp⟩:=h.box
   exact z2x (hp h0).1.lt (n:=8) (by omega) (by omega)
 · rw [z7m h0 8 (by omega)]
   show 0<18446744073709551616
   omega
theorem z7a {w:World} {B:Nat} {p0:Option Addr} {S:St} (h:Rr w B p0 S):Calls Tryz.prog 171 #[.pointer (some ⟨B,0,none⟩)] w fun e w'=>∃ p n c L,e=.returned (.slice p n c)∧LL w' p n c L∧(∀ a,p=some a→w.heap.size≤a.block)∧n≤3∧Rr w' B p0 (z2z z1c 3 S).1∧Chg (fun k=>k=B) w w'∧((z2z z1c 3 S).1.1=0→L=(z2z z1c 3 S).2):=by
 have hn:=pgcount_any h 3 (by omega)
 rw [show (((3:Nat):Int))=3 from rfl] at hn
 have hle:=countR_le S 3
 have hco:z2z z1c 3 S=z0z z1c (z6h S 3).2 (z6h S 3).1:=rfl
 rw [hco]
 clear hco
 have hBw:B<w.heap.size:=by obtain⟨_,_,_,h1,_⟩:=h.box;exact z0g h1
 generalize z6h S 3=R at *
 obtain⟨S1,n⟩:=R
 dsimp only at hn hle ⊢
 clear h
 go_enter Tryz.func171,Tryz.ntmps171
 go_wp2_with fail
 refine hn.mono ?_
 rintro e w1 ⟨rfl,hz,hc⟩
 have HZ:=hid hz
 have HC:=hid hc
 clear hn hz hc
 go_wp2_with fail
 go_loopw [3,5] (fun v i wr=>∃ j:Nat,j≤n∧i=.int .i64 j∧Hid (Rr wr B p0 (z0z z1c j S1).1)∧Hid (wr.ownsRow w.heap.size 234 2 v j (z1e lc (z0z z1c j S1).2))∧Hid (Chg (fun k=>k=B) w wr)) (fun _ i _=>n-(Go.RowKit.intOf i).toNat)
 case atStart=>exact⟨0,Nat.zero_le _,rfl,HZ,hid (World.ownsRow_nil _ _ _ _),HC⟩
 case round =>
  obtain⟨j,hj,rfl,HZj,HOj,HCj⟩:=hrel
  have x1:=HZj.out.err
  have hml:=z2t (f:=z1c) S1 j
  by_cases hltj:j<n
  case neg =>
   obtain rfl:n=j:=by omega
   obtain⟨pv,cv,hv,hs,hp⟩:=SlG.of_own (d:=l0) q1g (by decide) HOj.out
   subst hv
   have HS:=hid hs
   have HP:=hid hp
   clear hs hp x1
   go_wp2_with fail
   go_ret
   exact⟨pv,_,cv,_,rfl,HS.out,HP.out,hle,HZj.out,HCj.out,fun _=>rfl⟩
  have hltj':(j:Int)<n:=by omega
  by_cases he:(z0z z1c j S1).1.1=0
  case neg =>
   have de:((z0z z1c j S1).1.1==0)=false:=by simpa using he
   obtain⟨kk,rfl⟩:∃ kk,n=j+kk:=⟨n-j,by omega⟩
   have hstop:=z8b (f:=z1c) (fun S h=>z9n h) S1 he kk
   obtain⟨pv,cv,hv,hs,hp⟩:=SlG.of_own (d:=l0) q1g (by decide) HOj.out
   subst hv
   have HS:=hid hs
   have HP:=hid hp
   have HST:=hid hstop
   have HE:=hid he
   clear hs hp hstop he
   go_wp2_with fail
   go_ret
   exact⟨pv,_,cv,_,rfl,HS.out,HP.out,by omega,by rw [HST.out];exact HZj.out,HCj.out,fun h0=>absurd (by rw [← HST.out];exact h0) HE.out⟩
  have de:((z0z z1c j S1).1.1==0)=true:=by simpa using he
  obtain⟨X,hX⟩:∃ n,wr.heap.size=n:=⟨_,rfl⟩
  obtain⟨w2,hw2,hx2,hb2⟩:∃ w2,(wr.alloc (.cells #[.int .u8 0,.int .i64 0] 234)).setRow X #[.int .u8 0,.int .i64 0]=w2∧w2.heap[X]?=some (.cells #[.int .u8 0,.int .i64 0] 234 (0,0))∧Below wr.heap.size wr w2:=⟨_,rfl,by rw [← hX];exact setRow_heap _ _ _ _ _ _ (z0b wr _),below_setRow ((Below.refl _ _).alloc (Nat.le_refl _) _) (by omega) _⟩
  have hx1:=z0b wr (.cells #[.int .u8 0,.int .i64 0] 234)
  rw [hX] at hx1
  have HX1:=hid hx1
  have HX2:=hid hx2
  have HW2:=hid hw2
  have HXE:=hid hX
  have HBX:Hid (B<X):=hid (by have:=HCj.out.size;omega)
  have HNX:Hid (w.heap.size≤X):=hid (by have:=HCj.out.size;omega)
  have HZ2:=hid (HZj.out.later hb2)
  have HO2:=hid (z4l (z3g HOj.out) (Chg.of_below (S:=fun _=>False) hb2) fun _ _ h=>h)
  have HOL:=hid HOj.out
  have HC2:=hid (HCj.out.trans (Chg.of_below (S:=fun k=>k=B) hb2) fun _ _ h=>h)
  have hn0:=z0n HZ2.out 1 (by omega)
  have z4e:z0z z1c (j+1) S1=((z1c (z0z z1c j S1).1).1,(z0z z1c j S1).2 ++ [(z1c (z0z z1c j S1).1).2]):=rfl
  have HST:=hid z4e
  have HE:=hid he
  have hr0:=z1p HZ2.out
  clear hx1 hx2 hw2 hX hb2 z4e he
  generalize z0z z1c j S1=Mj at *
  obtain⟨Sj,Lj⟩:=Mj
  obtain⟨R0,hR0⟩:∃ R,numR Sj 1=R:=⟨_,rfl⟩
  dsimp only at hn0 HST hml HZj HOj hr0 de x1
  rw [hR0] at hn0 hr0
  have HR0:=hid hR0
  have hx0:IntKind.u8.wrap ((R0.2:Nat):Int)=(R0.2:Nat):=by simp [IntKind.wrap,IntKind.bits,IntKind.signed];omega
  clear hR0
  go_wp2_with ((try rw [HXE.out]);(with_reducible refine wpList_store_ln (B:=X) (x0:=0) (q:=0) HX1.out ?_ ?_ ?_);rfl;rfl;rw [HW2.out])
  refine hn0.mono ?_
  rintro e w3 ⟨rfl,hz,hc⟩
  have HZ3:=hid hz
  have hx3:=(hc.block X (z0g HX2.out) (by have:=HBX.out;omega)).trans HX2.out
  have HX3:=hid hx3
  have HO3:=hid (z4l HO2.out hc fun b hb hk=>by have:=(HOL.out.lt b hb).1;omega)
  have HC3:=hid (HC2.out.trans hc fun _ _ h=>h)
  have HXL:Hid (∀ b,u3.ownBlock=some b→w.heap.size≤b∧b<X):=hid fun b hb=>by have h1:=HOL.out.lt b hb;have:=HXE.out;omega
  clear hz hc hn0 hx3
  have c0:=z0a (j:=0) HX3.out rfl
  have f0:=z0t 0 HX3.out
  go_upto_region 8 with (fail)
  have hx4:(w3.setCell ⟨X,0,none⟩ (.int .u8 ((R0.2:Nat):Int))).heap[X]?=some (.cells #[.int .u8 ((R0.2:Nat):Int),.int .i64 0] 234 (0,0)):=z0u 0 _ HX3.out
  have hs4:Chg (fun k=>k=X) w3 (w3.setCell ⟨X,0,none⟩ (.int .u8 ((R0.2:Nat):Int))):=(Chg.refl _ _).setCell ⟨X,0,none⟩ _ fun _=>rfl
  have HX4:=hid hx4
  have HZ4:=hid (HZ3.out.chg hs4 fun k hk=>by have:=HBX.out;omega)
  have HO4:=hid (z4l HO3.out hs4 fun b hb hk=>by have:=(HXL.out b hb).2;omega)
  have HC4:=hid (HC3.out.trans hs4 fun k hk1 hk2=>by have:=HNX.out;omega)
  clear hx4 hs4 c0 f0 HX3 HO3 HC3 HZ3
  generalize w3.setCell ⟨X,0,none⟩ (.int .u8 ((R0.2:Nat):Int))=w4 at *
  have hn1:=z5m HZ4.out
  have hr1:=z8a HZ4.out
  obtain⟨R1,hR1⟩:∃ R,numR R0.1 8=R:=⟨_,rfl⟩
  rw [hR1] at hn1 hr1
  rw [z5v _ hr1] at hn1
  have HR1:=hid hR1
  clear hR1 hr1
  go_wp2_with fail
  refine hn1.mono ?_
  rintro e w5 ⟨rfl,hz,hc⟩
  have HZ5:=hid hz
  have HX5:=hid ((hc.block X (z0g HX4.out) (by have:=HBX.out;omega)).trans HX4.out)
  have HO5:=hid (z4l HO4.out hc fun b hb hk=>by have:=(HXL.out b hb).1;omega)
  have HC5:=hid (HC4.out.trans hc fun _ _ h=>h)
  clear hz hc hn1 HX4 HO4 HC4 HZ4
  have c0:=z0a (j:=1) HX5.out rfl
  have f0:=z0t 1 HX5.out
  go_upto_region 9 with (fail)
  have hx6:(w5.setCell ⟨X,1,none⟩ (.int .i64 (sgn R1.2))).heap[X]?=some (.cells #[.int .u8 ((R0.2:Nat):Int),.int .i64 (sgn R1.2)] 234 (0,0)):=z0u 1 _ HX5.out
  have hs6:Chg (fun k=>k=X) w5 (w5.setCell ⟨X,1,none⟩ (.int .i64 (sgn R1.2))):=(Chg.refl _ _).setCell ⟨X,1,none⟩ _ fun _=>rfl
  have HX6:=hid hx6
  have HZ6:=hid (HZ5.out.chg hs6 fun k hk=>by have:=HBX.out;omega)
  have HO6:=hid (z4l HO5.out hs6 fun b hb hk=>by have:=(HXL.out b hb).2;omega)
  have HC6:=hid (HC5.out.trans hs6 fun k hk1 hk2=>by have:=HNX.out;omega)
  clear hx6 hs6 c0 f0 HX5 HO5 HC5 HZ5
  generalize w5.setCell ⟨X,1,none⟩ (.int .i64 (sgn R1.2))=w6 at *
  have c0:=z0a (j:=0) HX6.out rfl
  have c1:=z0a (j:=1) HX6.out rfl
  obtain⟨x,hx⟩:∃ x:Ln,(((R0.2:Nat):Int),sgn R1.2)=x:=⟨_,rfl⟩
  have HLR:Hid (z1c Sj=(R1.1,x)):=hid (by unfold z1c;rw [HR0.out,HR1.out,hx])
  have e0:((R0.2:Nat):Int)=x.1:=by rw [← hx]
  have e1:sgn R1.2=x.2:=by rw [← hx]
  rw [e0] at c0
  rw [e1] at c1
  clear hx e0 e1
  have hba:Below w6.heap.size w6 (w6.alloc (.cells #[.int .u8 x.1,.int .i64 x.2] 234)):=(Below.refl _ _).alloc (Nat.le_refl _) _
  have HZ7:=hid (HZ6.out.later hba)
  have HO7:=hid (HO6.out.alloc (.cells #[.int .u8 x.1,.int .i64 x.2] 234))
  have HC7:=hid (HC6.out.trans (Chg.of_below (S:=fun k=>k=B) hba) fun _ _ h=>h)
  clear hba
  go_wp2_with (at_builtin;refine z1v (k:=2) (by decide) Tryz.underlying46 info_ln rfl (by omega) rfl _ _ rfl u3 j (z1e lc Lj) rfl HO7.out (some ⟨w6.heap.size,0,none⟩) 1 1 (z1e lc [x]) rfl rfl (fun h=>by cases h) (z4d w6 x) (z2m z8o _) (by omega) ?_;intro p8 c8 w8 g1 g2 g3)
  have hbase:∀ b,(Value.slice p8 (j+1) c8).ownBlock=some b→w.heap.size≤b:=fun b hb=>by
   rcases g3 b hb with hk | hk
   · exact (HXL.out b hk).1
   · have:=HC7.out.size;omega
  rw [← z1q] at g1
  have HO8:=hid (z9k g1 hbase)
  have HZ8:=hid (HZ7.out.chg g2 fun b hb=>by have:=(HXL.out b hb).1;omega)
  have HC8:=hid (HC7.out.trans g2 fun b hb1 hb2=>by have:=(HXL.out b hb2).1;omega)
  clear g1 g2 g3 hbase c0 c1
  go_roundw
  case rel=>exact⟨j+1,by omega,by go_num,hid (by rw [HST.out,HLR.out];exact HZ8.out),hid (by rw [HST.out,HLR.out];exact HO8.out),HC8⟩
  case measure=>simp [Go.RowKit.intOf];omega
theorem q0j {Bs:List Nat} {R0 R1 R2:St × Nat} {R3:St × List Ln} {S1 S4:St} {nc:Nat} {R5:St × List Ln} {R6 R7 R8 R9:St × Nat} (h0:numR ((0,Bs):St) 1=R0) (h1:numR R0.1 4=R1) (h2:numR R1.1 1=R2) (h3:z2z z1c 3 R2.1=R3) (hc:z6h R3.1 12=(S1,nc)) (h4:(z0z tkR nc S1).1=S4) (h5:z2z z1c 3 S4=R5) (h6:numR R5.1 1=R6) (h7:numR R6.1 1=R7) (h8:numR R7.1 1=R8) (h9:numR R8.1 8=R9) :
 refR Bs=(R9.1,⟨(R0.2:Nat),(R1.2:Nat),(R2.2:Nat),R3.2,(z0z tkR nc S1).2,R5.2,(R6.2:Nat),(R7.2:Nat),(R8.2:Nat),sgn R9.2⟩):=by
 have ht:z2z tkR 12 R3.1=z0z tkR nc S1:=by
  have hc':cntR R3.1 12=(S1,nc):=hc
  unfold z2z
  rw [hc']
 unfold refR
 dsimp only
 rw [h0,h1,h2,h3,ht,h4,h5,h6,h7,h8,h9]
theorem zero_back {R2:St × Nat} {R3:St × List Ln} {S1 S4:St} {nc:Nat} {R5:St × List Ln} {R6 R7 R8 R9:St × Nat} (hc:z6h R3.1 12=(S1,nc)) (h4:(z0z tkR nc S1).1=S4) (h5:z2z z1c 3 S4=R5) (h6:numR R5.1 1=R6) (h7:numR R6.1 1=R7) (h8:numR R7.1 1=R8) (h9:numR R8.1 8=R9) (hz:R9.1.1=0) :
 R3.1.1=0∧S4.1=0∧R5.1.1=0:=by
 have nb:∀ {S:St} {size:Int} {Q:St × Nat},numR S size=Q→1≤size∧size≤8→Q.1.1=0→S.1=0:=by
  intro S size Q h hs hq
  by_cases h0:S.1=0
  · exact h0
  · rw [z1n h0 hs] at h
    subst h
    exact absurd hq h0
 have z8:=nb h9 (by omega) hz
 have z7:=nb h8 (by omega) z8
 have z6:=nb h7 (by omega) z7
 have z5:=nb h6 (by omega) z6
 have z4:S4.1=0:=by
  by_cases h0:S4.1=0
  · exact h0
  · rw [z4r h0] at h5
    subst h5
    exact absurd z5 h0
 refine⟨?_,z4,z5⟩
 by_cases h0:R3.1.1=0
 · exact h0
 · have ht:z2z tkR 12 R3.1=z0z tkR nc S1:=by
    have hc':cntR R3.1 12=(S1,nc):=hc
    unfold z2z
    rw [hc']
   rw [z4r h0] at ht
   rw [← ht] at h4
   subst h4
   exact absurd z4 h0
theorem dec_ok {Bs:List Nat} (hB:∀ y∈Bs,y<256):Pgok (decR Bs).pg:=by
 unfold decR
 dsimp only
 have c0:By ((0,Bs):St):=hB
 have c1:=z0k c0 1
 have c2:=z0k c1 4
 have c3:=z0k c2 1
 have c4:=z6r (f:=z1c) (fun S h=>z3h h) 3 c3
 have c5:=z6r (f:=tkR) (fun S h=>z9y h) 12 c4
 have c6:=z6r (f:=z1c) (fun S h=>z3h h) 3 c5
 have c7:=z0k c6 1
 have c8:=z0k c7 1
 have c9:=z0k c8 1
 have o4:=z3r (f:=z1c) (Q:=Lnok) (fun S h=>z3h h) (fun S h=>z6s h) 3 c3
 have o5:=z3r (f:=tkR) (Q:=Tkok) (fun S h=>z9y h) (fun S h=>q2l h) 12 c4
 have o6:=z3r (f:=z1c) (Q:=Lnok) (fun S h=>z3h h) (fun S h=>z6s h) 3 c5
 have f1:=fit1 c0
 have f2:=fit4 c1
 have f3:=fit1 c2
 have f7:=fit1 c6
 have f8:=fit1 c7
 have f9:=fit1 c8
 have f10:=fit8 c9
 refine⟨⟨?_,?_⟩,⟨?_,?_⟩,⟨?_,?_⟩,o4,o5,o6,⟨?_,?_⟩,⟨?_,?_⟩,⟨?_,?_⟩,z9g f10⟩
 all_goals (dsimp only;omega)
theorem ref_ok {Bs:List Nat} (hB:∀ y∈Bs,y<256) (hz:(refR Bs).1.1=0):Pgok (refR Bs).2:=by
 rcases ref_dec Bs with ⟨_,h2⟩ | ⟨_,h2⟩
 · rw [h2];exact dec_ok hB
 · rw [hz] at h2;exact absurd h2 (by decide)
theorem z4i {w:World} {B:Nat} {p0:Option Addr} {S:St} (h:Rr w B p0 S):(numR S 4).2<4294967296:=by
 by_cases h0:S.1=0
 · obtain⟨p,n,c,_,hp⟩:=h.box
   exact z2x (hp h0).1.lt (n:=4) (by omega) (by omega)
 · rw [z7m h0 4 (by omega)]
   show 0<4294967296
   omega
structure Dq (W w:World) (R:Nat) (p0:Option Addr) (S:St) (C:Array Value):Prop where
 z:Rr w (R+1) p0 S
 y:w.heap[R+2]?=some (.cells C 49 (0,0))
 r:w.heap[R]?=some (.cells zc 49 (0,0))
 below:Below W.heap.size W w
 base:W.heap.size≤R
theorem Dq.low {W w w':World} {R:Nat} {p0:Option Addr} {S S':St} {C:Array Value} (h:Dq W w R p0 S C) (hz:Rr w' (R+1) p0 S') (hc:Chg (fun k=>k=R+1) w w'):Dq W w' R p0 S' C:=by
 have hb:=h.base
 exact⟨hz,(hc.block (R+2) (z0g h.y) (by omega)).trans h.y,(hc.block R (z0g h.r) (by omega)).trans h.r,Chg.below h.below h.below.size hc fun k hk=>by omega,h.base⟩
theorem Dq.put {W w:World} {R:Nat} {p0:Option Addr} {S:St} {C:Array Value} (h:Dq W w R p0 S C) (j:Nat) (v:Value):Dq W (w.setCell ⟨R+2,j,none⟩ v) R p0 S (C.setIfInBounds j v):=by
 have hb:=h.base
 have hc:Chg (fun k=>k=R+2) w (w.setCell ⟨R+2,j,none⟩ v):=(Chg.refl _ _).setCell ⟨R+2,j,none⟩ _ fun _=>rfl
 exact⟨h.z.chg hc fun k hk=>by omega,z0u j v h.y,(hc.block R (z0g h.r) (by omega)).trans h.r,Chg.below h.below h.below.size hc fun k hk=>by omega,h.base⟩
theorem Dq.keep {W w w':World} {R:Nat} {p0:Option Addr} {S:St} {C:Array Value} (h:Dq W w R p0 S C) (hb:Below w.heap.size w w'):Dq W w' R p0 S C :=
 ⟨h.z.later hb,z0c h.y hb,z0c h.r hb,h.below.trans (hb.mono h.below.size),h.base⟩
theorem Dq.cy {W w:World} {R:Nat} {p0:Option Addr} {S:St} {C:Array Value} (h:Dq W w R p0 S C) {j:Nat} {v:Value} (hj:C[j]?=some v):w.cell? ⟨R+2,j,none⟩=some v∧w.frozen? ⟨R+2,j,none⟩=false:=⟨z0a h.y hj,z0t j h.y⟩
theorem z8p {α:Type} {enc:α→List Value} {k:Nat} {d:α} {w w':World} {R:Nat} {p:Option Addr} {n c:Nat} {L:List α} (hf:Far (R+2) p) (hl:SlG enc k d w p n c L) (hc:Chg (fun k=>k=R+1) w w'):SlG enc k d w' p n c L :=
 hl.turn hc.size fun _ a ha hlt=>hc.block a.block hlt (by have:=hf a ha;omega)
theorem rdec_start (p:Option Addr) (n c:Nat) (Bs:List Nat) (W:World) (hS:Sl W p n c Bs) (hc:c≤maxLen):∃ R w,R=W.heap.size∧((W.alloc (.cells zc 49)).alloc (.cells #[.slice p n c,.int .i64 0] 162)).alloc (.cells zc 49)=w∧Dq W w R p (0,Bs) zc:=by
 refine⟨_,_,rfl,rfl,?_⟩
 have b1:Below W.heap.size W (W.alloc (.cells zc 49)):=(Below.refl _ _).alloc (Nat.le_refl _) _
 have b2:Below W.heap.size W ((W.alloc (.cells zc 49)).alloc (.cells #[.slice p n c,.int .i64 0] 162)):=b1.alloc (by simp) _
 have b3:Below W.heap.size W (((W.alloc (.cells zc 49)).alloc (.cells #[.slice p n c,.int .i64 0] 162)).alloc (.cells zc 49)):=b2.alloc (by simp;omega) _
 have k1:=z0b W (.cells zc 49)
 have k2:=z0b (W.alloc (.cells zc 49)) (.cells #[.slice p n c,.int .i64 0] 162)
 have k3:=z0b ((W.alloc (.cells zc 49)).alloc (.cells #[.slice p n c,.int .i64 0] 162)) (.cells zc 49)
 simp only [World.size_alloc] at k2 k3
 refine⟨⟨⟨p,n,c,(Below.heap_alloc _ _ _ (by simp)).trans k2,fun _=>⟨hS.later b3,From.refl _,hc⟩⟩,fun _ hne a ha=>?_⟩,k3,(Below.heap_alloc _ _ _ (by simp;omega)).trans ((Below.heap_alloc _ _ _ (by simp)).trans k1),b3,Nat.le_refl _⟩
 have hl:=hS.len
 have h0:0<n:=by
  rcases Nat.eq_zero_or_pos n with h | h
  · exact absurd (List.eq_nil_of_length_eq_zero (by rw [h] at hl;exact hl)) hne
  · exact h
 obtain⟨b,off,hp,hlt,_⟩:=hS.blk h0
 rw [hp] at ha
 cases ha
 show b<W.heap.size+1
 omega
theorem Dq.row {W w:World} {R:Nat} {p0:Option Addr} {S:St} {C:Array Value} (h:Dq W w R p0 S C) (C':Array Value):Dq W (w.setRow (R+2) C') R p0 S C':=by
 have hb:=h.base
 have hc:Chg (fun k=>k=R+2) w (w.setRow (R+2) C'):=⟨rfl,rfl,rfl,by simp [World.setRow],fun k _ hn=>setRow_other _ _ _ _ hn⟩
 exact⟨h.z.chg hc fun k hk=>by omega,setRow_heap _ _ _ _ _ _ h.y,(hc.block R (z0g h.r) (by omega)).trans h.r,Chg.below h.below h.below.size hc fun k hk=>by omega,h.base⟩
theorem rdec_start2 (p:Option Addr) (n c:Nat) (Bs:List Nat) (W:World) (hS:Sl W p n c Bs) (hc:c≤maxLen):∃ R w00 w0,W.heap.size=R∧(W.alloc (.cells zc 49)).alloc (.cells #[.slice p n c,.int .i64 0] 162)=w00∧w00.heap.size=R+2∧(w00.alloc (.cells zc 49)).heap[R+2]?=some (.cells zc 49 (0,0))∧(w00.alloc (.cells zc 49)).setRow (R+2) zc=w0∧Dq W w0 R p (0,Bs) zc:=by
 obtain⟨R,w,hR,hw,hD⟩:=rdec_start p n c Bs W hS hc
 subst hw hR
 exact⟨_,_,_,rfl,rfl,by simp,hD.y,rfl,hD.row zc⟩
structure Tq (W y w:World) (R X:Nat) (p0:Option Addr) (S:St) (C Cx:Array Value) (v:Value) (j:Nat) (Lj:List Tk):Prop where
 d:Dq W w R p0 S C
 x:w.heap[X]?=some (.cells Cx 204 (0,0))
 o:w.ownsRow 0 204 4 v j (z1e tkc Lj)
 c:Chg (fun k=>k=R+1∨k=R+2) y w
 xr:y.heap.size≤X∧R+3≤y.heap.size
 xo:∀ b,v.ownBlock=some b→R+3≤b∧b<X
theorem Tq.low {W y w w':World} {R X:Nat} {p0:Option Addr} {S S':St} {C Cx:Array Value} {v:Value} {j:Nat} {Lj:List Tk} (h:Tq W y w R X p0 S C Cx v j Lj) (hz:Rr w' (R+1) p0 S') (hc:Chg (fun k=>k=R+1) w w'):Tq W y w' R X p0 S' C Cx v j Lj:=by
 have hx:=h.xr
 exact⟨h.d.low hz hc,(hc.block X (z0g h.x) (by omega)).trans h.x,z4l h.o hc fun b hb hk=>by have:=h.xo b hb;omega,h.c.trans hc fun k _ hk=>.inl hk,h.xr,h.xo⟩
theorem Tq.put {W y w:World} {R X:Nat} {p0:Option Addr} {S:St} {C Cx:Array Value} {v:Value} {j:Nat} {Lj:List Tk} (h:Tq W y w R X p0 S C Cx v j Lj) (i:Nat) (u:Value):Tq W y (w.setCell ⟨X,i,none⟩ u) R X p0 S C (Cx.setIfInBounds i u) v j Lj:=by
 have hx:=h.xr
 have hb:=h.d.base
 have hc:Chg (fun k=>k=X) w (w.setCell ⟨X,i,none⟩ u):=(Chg.refl _ _).setCell ⟨X,i,none⟩ _ fun _=>rfl
 refine⟨⟨h.d.z.chg hc fun k hk=>by omega,(hc.block (R+2) (z0g h.d.y) (by omega)).trans h.d.y,(hc.block R (z0g h.d.r) (by omega)).trans h.d.r,Chg.below h.d.below h.d.below.size hc fun k hk=>by omega,h.d.base⟩,z0u i u h.x,z4l h.o hc fun b hb hk=>by have:=h.xo b hb;omega,h.c.trans hc fun k hk1 hk2=>by omega,h.xr,h.xo⟩
theorem Tq.cx {W y w:World} {R X:Nat} {p0:Option Addr} {S:St} {C Cx:Array Value} {v:Value} {j:Nat} {Lj:List Tk} (h:Tq W y w R X p0 S C Cx v j Lj) {i:Nat} {u:Value} (hj:Cx[i]?=some u):w.cell? ⟨X,i,none⟩=some u∧w.frozen? ⟨X,i,none⟩=false:=⟨z0a h.x hj,z0t i h.x⟩
theorem Dq.far {W w w':World} {R:Nat} {p0:Option Addr} {S:St} {C:Array Value} {T:Nat→Prop} (h:Dq W w R p0 S C) (hc:Chg T w w') (hT:∀ k,T k→R+3≤k):Dq W w' R p0 S C:=by
 have hb:=h.base
 exact⟨h.z.chg hc fun k hk=>by have:=hT k hk;omega,(hc.block (R+2) (z0g h.y) fun hk=>by have:=hT _ hk;omega).trans h.y,(hc.block R (z0g h.r) fun hk=>by have:=hT _ hk;omega).trans h.r,Chg.below h.below h.below.size hc fun k hk=>by have:=hT k hk;omega,h.base⟩
theorem z8l {w w':World} {R:Nat} {lp:Option Addr} {ln lcp:Nat} {L:List Ln} {tp:Option Addr} {tn tcp:Nat} {T:List Tk} {wp:Option Addr} {wn wcp:Nat} {M:List Ln} (h:PgM w lp ln lcp L tp tn tcp T wp wn wcp M) (f:Far (R+2) lp∧Far (R+2) tp∧Far (R+2) wp) (hc:Chg (fun k=>k=R+1) w w'):PgM w' lp ln lcp L tp tn tcp T wp wn wcp M:=⟨z8p f.1 h.l hc,z8p f.2.1 h.t hc,z8p f.2.2 h.o hc⟩
theorem z6u {w:World} {R:Nat} {lp:Option Addr} {ln lcp:Nat} {L:List Ln} {tp:Option Addr} {tn tcp:Nat} {T:List Tk} {wp:Option Addr} {wn wcp:Nat} {M:List Ln} (h:PgM w lp ln lcp L tp tn tcp T wp wn wcp M) (f:Far (R+2) lp∧Far (R+2) tp∧Far (R+2) wp) (j:Nat) (v:Value):PgM (w.setCell ⟨R+2,j,none⟩ v) lp ln lcp L tp tn tcp T wp wn wcp M:=⟨z2d f.1 h.l j v,z2d f.2.1 h.t j v,z2d f.2.2 h.o j v⟩
theorem rdecode2 (p:Option Addr) (n c:Nat) (Bs:List Nat) (W:World) (hw:Words W) (hS:Sl W p n c Bs) (hcm:c≤maxLen) :
 Calls Tryz.prog 144 #[.slice p n c] W (z3x W (z3w Bs)):=by
 obtain⟨R,w00,w0,hR,hw00,hs00,hx00,hw0,hD⟩:=rdec_start2 p n c Bs W hS hcm
 have HW00:=hid hw00
 have HS00:=hid hs00
 have HX00:=hid hx00
 have HW0:=hid hw0
 have HD0:=hid hD
 have HRE:=hid hR
 have HBY:Hid (∀ y∈Bs,y<256):=hid hS.lt
 have HWD:=hid hw
 clear hw00 hs00 hx00 hw0 hD hR hw hS hcm
 go_enter Tryz.func144,Tryz.ntmps144
 go_upto_region 2 with (fail)
 rw [HW00.out,HRE.out]
 obtain⟨R0,hR0⟩:∃ R,numR ((0,Bs):St) 1=R:=⟨_,rfl⟩
 have hn:=z0n HD0.out.z 1 (by omega)
 have hf:=z1p HD0.out.z
 rw [hR0] at hn hf
 have hx0:IntKind.u8.wrap ((R0.2:Nat):Int)=(R0.2:Nat):=by simp [IntKind.wrap,IntKind.bits,IntKind.signed];omega
 have HFT0:=hid hf
 have HR0:=hid hR0
 clear hf hR0
 go_wp2_with ((try rw [HS00.out]);(with_reducible refine z0y 0 0 0 none 0 0 none 0 0 none 0 0 0 0 0 0 HX00.out ?_ ?_ ?_);rfl;rfl;rw [HW0.out])
 refine hn.mono ?_
 rintro e y0 ⟨rfl,hz,hc⟩
 have HDb:=hid (HD0.out.low hz hc)
 clear hz hc hn
 obtain⟨cy,cf⟩:=HDb.out.cy (j:=0) rfl
 go_upto_region 4 with (fail)
 clear cy cf
 have hd:=HDb.out.put 0 (.int .u8 ((R0.2:Nat):Int))
 simp only [sIB,sCZ,sCS] at hd
 generalize y0.setCell ⟨R+2,0,none⟩ (.int .u8 ((R0.2:Nat):Int))=z0 at *
 have HD1:=hid hd
 clear hd HDb HD0
 obtain⟨R1,hR1⟩:∃ R,numR R0.1 4=R:=⟨_,rfl⟩
 have hn:=z0n HD1.out.z 4 (by omega)
 have hf:=z4i HD1.out.z
 rw [hR1] at hn hf
 have hx1:IntKind.u32.wrap ((R1.2:Nat):Int)=(R1.2:Nat):=by simp [IntKind.wrap,IntKind.bits,IntKind.signed];omega
 have HFT1:=hid hf
 have HR1:=hid hR1
 clear hf hR1
 go_wp2_with fail
 refine hn.mono ?_
 rintro e y1 ⟨rfl,hz,hc⟩
 have HDb:=hid (HD1.out.low hz hc)
 clear hz hc hn
 obtain⟨cy,cf⟩:=HDb.out.cy (j:=1) rfl
 go_upto_region 5 with (fail)
 clear cy cf
 have hd:=HDb.out.put 1 (.int .u32 ((R1.2:Nat):Int))
 simp only [sIB,sCZ,sCS] at hd
 generalize y1.setCell ⟨R+2,1,none⟩ (.int .u32 ((R1.2:Nat):Int))=z1 at *
 have HD2:=hid hd
 clear hd HDb HD1
 obtain⟨R2,hR2⟩:∃ R,numR R1.1 1=R:=⟨_,rfl⟩
 have hn:=z0n HD2.out.z 1 (by omega)
 have hf:=z1p HD2.out.z
 rw [hR2] at hn hf
 have hx2:IntKind.u8.wrap ((R2.2:Nat):Int)=(R2.2:Nat):=by simp [IntKind.wrap,IntKind.bits,IntKind.signed];omega
 have HFT2:=hid hf
 have HR2:=hid hR2
 clear hf hR2
 go_wp2_with fail
 refine hn.mono ?_
 rintro e y2 ⟨rfl,hz,hc⟩
 have HDb:=hid (HD2.out.low hz hc)
 clear hz hc hn
 obtain⟨cy,cf⟩:=HDb.out.cy (j:=2) rfl
 go_upto_region 6 with (fail)
 clear cy cf
 have hd:=HDb.out.put 2 (.int .u8 ((R2.2:Nat):Int))
 simp only [sIB,sCZ,sCS] at hd
 generalize y2.setCell ⟨R+2,2,none⟩ (.int .u8 ((R2.2:Nat):Int))=z2 at *
 have HD3:=hid hd
 clear hd HDb HD2
 have hn:=z7a HD3.out.z
 obtain⟨R3,hR3⟩:∃ R,z2z z1c 3 R2.1=R:=⟨_,rfl⟩
 rw [hR3] at hn
 have HR3:=hid hR3
 have HY3:=hid (z0g HD3.out.y)
 clear hR3
 go_wp2_with fail
 refine hn.mono ?_
 rintro e y3 ⟨pl,nl,cl,Ll,rfl,hl,hfar,hnl,hz,hc,heq⟩
 have HFl:Hid (Far (R+2) pl):=hid fun a ha=>by have:=hfar a ha;have:=HY3.out;omega
 have HDb:=hid (HD3.out.low hz hc)
 have HNl:=hid hnl
 have HEl:=hid heq
 have HLlb:=hid hl
 clear hz hc hn hfar hnl heq hl HY3
 obtain⟨cy,cf⟩:=HDb.out.cy (j:=3) rfl
 go_upto_region 7 with (fail)
 clear cy cf
 have hd:=HDb.out.put 3 (.slice pl nl cl)
 simp only [sIB,sCZ,sCS] at hd
 have HLlc:=hid (z2d HFl.out HLlb.out 3 (.slice pl nl cl))
 generalize y3.setCell ⟨R+2,3,none⟩ (.slice pl nl cl)=z3 at *
 have HD4:=hid hd
 have HLl:=HLlc
 clear hd HDb HD3 HLlb HLlc
 have hn:=pgcount_any HD4.out.z 12 (by omega)
 rw [show (((12:Nat):Int))=12 from rfl] at hn
 have hle:=countR_le R3.1 12
 obtain⟨Rc,hRc⟩:∃ R,z6h R3.1 12=R:=⟨_,rfl⟩
 rw [hRc] at hn hle
 have HRc:=hid hRc
 clear hRc
 go_wp2_with fail
 refine hn.mono ?_
 rintro e y4 ⟨rfl,hz,hc⟩
 have HD5:=hid (HD4.out.low hz hc)
 have HLl5:=hid (z8p HFl.out HLl.out hc)
 clear hz hc hn HD4 HLl
 go_wp2_with fail
 obtain⟨S1,nc⟩:=Rc
 dsimp only at HD5 hle ⊢
 have HYS:Hid (R+3≤y4.heap.size):=hid (by have:=z0g HD5.out.y;omega)
 go_loopw [7] (fun i wr=>∃ (j:Nat) (v:Value),j≤nc∧i=.int .i64 j∧Hid (Dq W wr R p (z0z tkR j S1).1 #[.int .u8 ((R0.2:Nat):Int),.int .u32 ((R1.2:Nat):Int),.int .u8 ((R2.2:Nat):Int),.slice pl nl cl,v,.slice none 0 0,.int .u8 0,.int .u8 0,.int .u8 0,.int .i64 0])∧Hid (wr.ownsRow 0 204 4 v j (z1e tkc (z0z tkR j S1).2))∧Hid (Chg (fun k=>k=R+1∨k=R+2) y4 wr)∧Hid (∀ b,v.ownBlock=some b→y4.heap.size≤b)) (fun i _=>nc-(Go.RowKit.intOf i).toNat)
 case atStart=>exact⟨0,.slice none 0 0,Nat.zero_le _,rfl,HD5,hid (World.ownsRow_nil _ _ _ _),hid (Chg.refl _ _),hid fun b hb=>by simp [Value.ownBlock] at hb⟩
 case round =>
  obtain⟨j,v,hj,rfl,HDj,HOj,HCj,HBj⟩:=hrel
  have x1:=HDj.out.z.err
  by_cases hgo:j<nc∧(z0z tkR j S1).1.1=0
  case neg =>
   have hfin:(z0z tkR nc S1).1=(z0z tkR j S1).1∧((z0z tkR j S1).1.1=0→z0z tkR nc S1=z0z tkR j S1):=by
    by_cases hlt:j<nc
    · have he:(z0z tkR j S1).1.1≠0:=fun h=>hgo ⟨hlt,h⟩
      obtain⟨kk,rfl⟩:∃ kk,nc=j+kk:=⟨nc-j,by omega⟩
      exact⟨z8b (f:=tkR) (fun S h=>tkR_bad h) S1 he kk,fun h=>absurd h he⟩
    · obtain rfl:nc=j:=by omega
      exact⟨rfl,fun _=>rfl⟩
   by_cases hlt:j<nc
   · have hlt':(j:Int)<nc:=by omega
     have de:((z0z tkR j S1).1.1==0)=false:=by
      have he:(z0z tkR j S1).1.1≠0:=fun h=>hgo ⟨hlt,h⟩
      simpa using he
     obtain⟨pt,ct,hv,htl,htp⟩:=SlG.of_own (d:=tk0) q1l (by decide) HOj.out
     subst hv
     have HTl:=hid htl
     have HFt:Hid (Far (R+2) pt):=hid fun a ha=>by have:=HBj.out a.block (by rw [ha];rfl);have:=HYS.out;omega
     have HLl6:=hid (HLl5.out.turn HCj.out.size fun _ a ha hlt=>HCj.out.block a.block hlt (by have:=HFl.out a ha;omega))
     have hmlt:=z2t (f:=tkR) S1 j
     have HML:=hid hmlt
     have HFN:=hid hfin
     clear htl htp hmlt hfin HLl5 HOj HCj HBj
     generalize z0z tkR j S1=Mj at *
     obtain⟨S4,Lt⟩:=Mj
     dsimp only at HDj HTl HML HFN x1
     have HD6:=hid HDj.out
     clear HDj
     have hn:=z7a HD6.out.z
     obtain⟨R5,hR5⟩:∃ R,z2z z1c 3 S4=R:=⟨_,rfl⟩
     rw [hR5] at hn
     have HR5:=hid hR5
     have HY6:=hid (z0g HD6.out.y)
     clear hR5
     go_wp2_with fail
     refine hn.mono ?_
     rintro e y5 ⟨po,no,co,Lo,rfl,hl,hfar,hno,hz,hc,heq⟩
     have HFF:Hid (Far (R+2) pl∧Far (R+2) pt∧Far (R+2) po):=hid ⟨HFl.out,HFt.out,fun a ha=>by have:=hfar a ha;have:=HY6.out;omega⟩
     have HPb:=hid (PgM.mk (z8p HFl.out HLl6.out hc) (z8p HFt.out HTl.out hc) hl)
     have HDb:=hid (HD6.out.low hz hc)
     have HNo:=hid hno
     have HEo:=hid heq
     clear hz hc hn hfar hno heq hl HY6 x1
     obtain⟨cy,cf⟩:=HDb.out.cy (j:=5) rfl
     go_upto_region 18 with (fail)
     clear cy cf
     have hd:=HDb.out.put 5 (.slice po no co)
     simp only [sIB,sCZ,sCS] at hd
     have HP6:=hid (z6u HPb.out HFF.out 5 (.slice po no co))
     generalize y5.setCell ⟨R+2,5,none⟩ (.slice po no co)=z5 at *
     clear HD6
     have HD6:=hid hd
     clear hd HDb HPb HLl6 HTl
     obtain⟨R6,hR6⟩:∃ R,numR R5.1 1=R:=⟨_,rfl⟩
     have hn:=z0n HD6.out.z 1 (by omega)
     have hf:=z1p HD6.out.z
     rw [hR6] at hn hf
     have hx6:IntKind.u8.wrap ((R6.2:Nat):Int)=(R6.2:Nat):=by simp [IntKind.wrap,IntKind.bits,IntKind.signed];omega
     have HFT6:=hid hf
     have HR6:=hid hR6
     clear hf hR6
     go_wp2_with fail
     refine hn.mono ?_
     rintro e y6 ⟨rfl,hz,hc⟩
     have HDb:=hid (HD6.out.low hz hc)
     have HPb:=hid (z8l HP6.out HFF.out hc)
     clear hz hc hn
     obtain⟨cy,cf⟩:=HDb.out.cy (j:=6) rfl
     go_upto_region 19 with (fail)
     clear cy cf
     have hd:=HDb.out.put 6 (.int .u8 ((R6.2:Nat):Int))
     simp only [sIB,sCZ,sCS] at hd
     have HP7:=hid (z6u HPb.out HFF.out 6 (.int .u8 ((R6.2:Nat):Int)))
     generalize y6.setCell ⟨R+2,6,none⟩ (.int .u8 ((R6.2:Nat):Int))=z6 at *
     have HD7:=hid hd
     clear hd HDb HD6 HPb HP6
     obtain⟨R7,hR7⟩:∃ R,numR R6.1 1=R:=⟨_,rfl⟩
     have hn:=z0n HD7.out.z 1 (by omega)
     have hf:=z1p HD7.out.z
     rw [hR7] at hn hf
     have hx7:IntKind.u8.wrap ((R7.2:Nat):Int)=(R7.2:Nat):=by simp [IntKind.wrap,IntKind.bits,IntKind.signed];omega
     have HFT7:=hid hf
     have HR7:=hid hR7
     clear hf hR7
     go_wp2_with fail
     refine hn.mono ?_
     rintro e y7 ⟨rfl,hz,hc⟩
     have HDb:=hid (HD7.out.low hz hc)
     have HPb:=hid (z8l HP7.out HFF.out hc)
     clear hz hc hn
     obtain⟨cy,cf⟩:=HDb.out.cy (j:=7) rfl
     go_upto_region 20 with (fail)
     clear cy cf
     have hd:=HDb.out.put 7 (.int .u8 ((R7.2:Nat):Int))
     simp only [sIB,sCZ,sCS] at hd
     have HP8:=hid (z6u HPb.out HFF.out 7 (.int .u8 ((R7.2:Nat):Int)))
     generalize y7.setCell ⟨R+2,7,none⟩ (.int .u8 ((R7.2:Nat):Int))=z7 at *
     have HD8:=hid hd
     clear hd HDb HD7 HPb HP7
     obtain⟨R8,hR8⟩:∃ R,numR R7.1 1=R:=⟨_,rfl⟩
     have hn:=z0n HD8.out.z 1 (by omega)
     have hf:=z1p HD8.out.z
     rw [hR8] at hn hf
     have hx8:IntKind.u8.wrap ((R8.2:Nat):Int)=(R8.2:Nat):=by simp [IntKind.wrap,IntKind.bits,IntKind.signed];omega
     have HFT8:=hid hf
     have HR8:=hid hR8
     clear hf hR8
     go_wp2_with fail
     refine hn.mono ?_
     rintro e y8 ⟨rfl,hz,hc⟩
     have HDb:=hid (HD8.out.low hz hc)
     have HPb:=hid (z8l HP8.out HFF.out hc)
     clear hz hc hn
     obtain⟨cy,cf⟩:=HDb.out.cy (j:=8) rfl
     go_upto_region 21 with (fail)
     clear cy cf
     have hd:=HDb.out.put 8 (.int .u8 ((R8.2:Nat):Int))
     simp only [sIB,sCZ,sCS] at hd
     have HP9:=hid (z6u HPb.out HFF.out 8 (.int .u8 ((R8.2:Nat):Int)))
     generalize y8.setCell ⟨R+2,8,none⟩ (.int .u8 ((R8.2:Nat):Int))=z8 at *
     have HD9:=hid hd
     clear hd HDb HD8 HPb HP8
     obtain⟨R9,hR9⟩:∃ Q,numR R8.1 8=Q:=⟨_,rfl⟩
     have hn:=z5m HD9.out.z
     have hf:=z8a HD9.out.z
     rw [hR9] at hn hf
     rw [z5v _ hf] at hn
     have HR9:=hid hR9
     have HFT9:=hid hf
     clear hf hR9
     go_wp2_with fail
     refine hn.mono ?_
     rintro e y9 ⟨rfl,hz,hc⟩
     have HDb:=hid (HD9.out.low hz hc)
     have HPb:=hid (z8l HP9.out HFF.out hc)
     clear hz hc hn
     obtain⟨cy,cf⟩:=HDb.out.cy (j:=9) rfl
     go_upto_region 22 with (fail)
     clear cy cf
     have hd:=HDb.out.put 9 (.int .i64 (sgn R9.2))
     simp only [sIB,sCZ,sCS] at hd
     have HPf:=hid (z6u HPb.out HFF.out 9 (.int .i64 (sgn R9.2)))
     generalize y9.setCell ⟨R+2,9,none⟩ (.int .i64 (sgn R9.2))=z9 at *
     have HDf:=hid hd
     clear hd HDb HD9 HPb HP9
     have x1:=HDf.out.z.err
     by_cases he9:R9.1.1=0
     case neg =>
      have d9:(R9.1.1 != 0)=true:=by simpa using he9
      have hq9:Hid (R9.1.1≠0):=hid he9
      obtain⟨pr,nr,cr,hbx,hpr⟩:=HDf.out.z.box
      have HDd:=hid (HDf.out.keep (show Below z9.heap.size z9 z9.drew from (Below.refl _ _).drew))
      have HBX:Hid (z9.drew.heap[R+1]?=some (.cells #[.slice pr nr cr,.int .i64 R9.1.1] 162 (0,0))):=hid hbx
      clear he9 hbx hpr
      have HRF:=hid (setRow_heap z9.drew R _ zc _ _ HDd.out.r)
      have HG:Hid (z3x W (z3w Bs) (.returned (.tuple #[.agg zc,.int .i64 R9.1.1])) (z9.drew.setRow R zc)):=hid (by
       have hp:z3w Bs=(R9.1.1,noP):=by
        unfold z3w
        rw [q0j HR0.out HR1.out HR2.out HR3.out HRc.out HFN.out.1 HR5.out HR6.out HR7.out HR8.out HR9.out]
        dsimp only
        rw [if_pos hq9.out]
       rw [hp]
       exact⟨none,0,none,0,none,0,rfl,⟨SlG.empty _,SlG.empty _,SlG.empty _⟩,below_setRow HDd.out.below HDd.out.base zc,(fun a h=>by cases h),(fun a h=>by cases h),(fun a h=>by cases h)⟩)
      go_wp2_with fail
      refine wp_region_held_drew (S:=fun w'=>Hid (w'.heap[R+1]?=some (.cells #[.slice pr nr cr,.int .i64 R9.1.1] 162 (0,0)))) (by kernel_rfl) HBX (fun hHeld=>?_)
      refine wpAnyH_take (i:=0) (oi:=⟨some 87,_,_,_,_,_⟩) (v:=.agg zc) rfl (by kernel_rfl) (by kernel_rfl) (by kernel_rfl) (fun _ _ _ h=>h) (Or.inl ⟨by rfl,fun w' hw'=>?_⟩) (by assumption) ?_
      · clear hHeld
        go_simp
      simp only [Act.put,sIB,sCZ,sCS]
      refine wpAnyH_take (i:=1) (oi:=⟨some 88,_,_,_,_,_⟩) (v:=.pointer (some ⟨R+1,0,none⟩)) rfl (by kernel_rfl) (by kernel_rfl) (by kernel_rfl) (fun _ _ _ h=>h) (Or.inl ⟨by rfl,fun w' hw'=>?_⟩) (by assumption) ?_
      · clear hHeld
        go_simp
      simp only [Act.put,sIB,sCZ,sCS]
      refine wpAnyH_take (i:=2) (oi:=⟨some 89,_,_,_,_,_⟩) (v:=.pointer (some ⟨R+1,0,none⟩)) rfl (by kernel_rfl) (by kernel_rfl) (by kernel_rfl) (fun _ _ _ h=>h) (Or.inl ⟨by rfl,fun w' hw'=>?_⟩) (by assumption) ?_
      · clear hHeld
        go_simp
      simp only [Act.put,sIB,sCZ,sCS]
      refine wpAnyH_take (i:=3) (oi:=⟨some 90,_,_,_,_,_⟩) (v:=.pointer (some ⟨R+1,1,none⟩)) rfl (by kernel_rfl) (by kernel_rfl) (by kernel_rfl) (fun _ _ _ h=>h) (Or.inl ⟨by rfl,fun w' hw'=>?_⟩) (by assumption) ?_
      · clear hHeld
        go_simp
      simp only [Act.put,sIB,sCZ,sCS]
      refine wpAnyH_take (i:=4) (oi:=⟨some 91,_,_,_,_,_⟩) (v:=.int .i64 R9.1.1) rfl (by kernel_rfl) (by kernel_rfl) (by kernel_rfl) (fun _ _ _ h=>h) (Or.inl ⟨by rfl,fun w' hw'=>?_⟩) (by assumption) ?_
      · have g1:=z0a (j:=1) (v:=.int .i64 R9.1.1) hw'.out rfl
        clear hHeld
        go_simp
      simp only [Act.put,sIB,sCZ,sCS]
      generalize z9.drew=Wd at *
      refine wpAnyH_ready (rs:=[5]) (by kernel_rfl) (by simp) (AllReadyH.cons rfl (fun K hK=>?_) AllReadyH.nil)
      rw [if_pos (by rfl)]
      refine wp_store_row 49 _ _ rfl R zc rfl rfl 49 _ HDd.out.r (by kernel_rfl) rfl (by kernel_rfl) ?_
      have HB2:Hid ((Wd.setRow R zc).heap[R+1]?=some (.cells #[.slice pr nr cr,.int .i64 R9.1.1] 162 (0,0))):=hid ((setRow_other _ _ _ _ (by omega)).trans HBX.out)
      refine hK.out _ _ HB2 (fun hHeld2=>?_)
      clear hK K hHeld
      have hHeld:=hHeld2
      clear hHeld2
      (try simp only [Act.put,sIB,sCZ,sCS])
      refine wpAnyH_take (i:=6) (oi:=⟨some 3,_,_,_,_,_⟩) (v:=.int .i64 R9.1.1) rfl (by kernel_rfl) (by kernel_rfl) (by kernel_rfl) (fun _ _ _ h=>h) (Or.inl ⟨by rfl,fun w' hw'=>?_⟩) (by assumption) ?_
      · clear hHeld
        go_simp
      simp only [Act.put,sIB,sCZ,sCS]
      refine wpAnyH_done (by kernel_rfl) ?_ _
      clear hHeld
      (try simp only [Exit.inBlock,Exit.then])
      go_wp2_with fail
      refine bodyPost_ret (v:=.tuple #[.agg zc,.int .i64 R9.1.1]) ?_ rfl HG.out
      exact z2l rfl _ _ R zc _ rfl rfl HRF.out rfl
     have d9:(R9.1.1 != 0)=false:=by simp [he9]
     obtain⟨y3,y4',y5'⟩:=zero_back (R2:=R2) HRc.out HFN.out.1 HR5.out HR6.out HR7.out HR8.out HR9.out he9
     have hrefa:=q0j HR0.out HR1.out HR2.out HR3.out HRc.out HFN.out.1 HR5.out HR6.out HR7.out HR8.out HR9.out
     rw [HFN.out.2 y4',← HEl.out y3,← HEo.out y5'] at hrefa
     have hpok:=ref_ok HBY.out (by rw [hrefa];exact he9)
     rw [hrefa] at hpok
     have HREF:=hid hrefa
     have HPOK:=hid hpok
     have HZ9:=hid he9
     clear hrefa hpok y3 y4' y5'
     obtain⟨pr,nr,cr,hbx,hpr⟩:=HDf.out.z.box
     have hln:=(hpr he9).1.len
     have HLN:=hid hln
     rw [he9] at hbx
     have b0:z9.cell? ⟨R+1,0,none⟩=some (.slice pr nr cr):=z0a hbx rfl
     clear hbx hpr hln he9
     by_cases hnr:0<nr
     case pos =>
      have hd:(0:Int)<nr:=by omega
      have HNR:=hid hnr
      clear hnr
      have HRF:=hid (setRow_heap z9 R _ zc _ _ HDf.out.r)
      have HG:Hid (z3x W (z3w Bs) (.returned (.tuple #[.agg zc,.int .i64 8])) (z9.setRow R zc)):=hid (by
       have hp:z3w Bs=(8,noP):=by
        unfold z3w
        rw [HREF.out]
        dsimp only
        rw [if_neg (fun h=>h HZ9.out),if_pos (Or.inl (by rw [HLN.out];exact HNR.out))]
       rw [hp]
       exact⟨none,0,none,0,none,0,rfl,⟨SlG.empty _,SlG.empty _,SlG.empty _⟩,below_setRow HDf.out.below HDf.out.base zc,(fun a h=>by cases h),(fun a h=>by cases h),(fun a h=>by cases h)⟩)
      go_wp2_with ((with_reducible refine z0y 0 0 0 none 0 0 none 0 0 none 0 0 0 0 0 0 HDf.out.r ?_ ?_ ?_);rfl;rfl)
      (try simp only [Exit.inBlock,Exit.then])
      refine bodyPost_ret (v:=.tuple #[.agg zc,.int .i64 8]) ?_ rfl HG.out
      exact z2l rfl _ _ R zc _ rfl rfl HRF.out rfl
     have hd:¬ (0:Int)<nr:=by omega
     have HNR:=hid hnr
     clear hnr
     have hgd:=q1o 4 4 ((R0.2:Nat):Int) ((R1.2:Nat):Int) ((R2.2:Nat):Int) pl nl cl pt j ct po no co ((R6.2:Nat):Int) ((R7.2:Nat):Int) ((R8.2:Nat):Int) (sgn R9.2) Ll Lt Lo z9 HPf.out HPOK.out ⟨by have:=HNl.out;omega,by have:=hle;omega,by have:=HNo.out;omega⟩
     obtain⟨a0,a1,a2,a3,a4,a5,a6,a7,a8,a9⟩:=z0j _ _ _ _ _ _ _ _ _ _ _ _ _ _ _ _ HDf.out.y
     go_wp2_with fail
     refine hgd.mono ?_
     rintro e x8 ⟨rfl,hb8⟩
     have HD8:=hid (HDf.out.keep hb8)
     have HP8:=hid (HPf.out.later hb8)
     clear hb8 hgd a0 a1 a2 a3 a4 a5 a6 a7 a8 a9
     cases hg:z0w 4 4 (⟨((R0.2:Nat):Int),((R1.2:Nat):Int),((R2.2:Nat):Int),Ll,Lt,Lo,((R6.2:Nat):Int),((R7.2:Nat):Int),((R8.2:Nat):Int),sgn R9.2⟩:Pg)
     case false =>
      have HRF:=hid (setRow_heap x8 R _ zc _ _ HD8.out.r)
      have HG:Hid (z3x W (z3w Bs) (.returned (.tuple #[.agg zc,.int .i64 8])) (x8.setRow R zc)):=hid (by
       have hp:z3w Bs=(8,noP):=by
        unfold z3w
        rw [HREF.out]
        dsimp only
        rw [if_neg (fun h=>h HZ9.out),if_pos (Or.inr hg)]
       rw [hp]
       exact⟨none,0,none,0,none,0,rfl,⟨SlG.empty _,SlG.empty _,SlG.empty _⟩,below_setRow HD8.out.below HD8.out.base zc,(fun a h=>by cases h),(fun a h=>by cases h),(fun a h=>by cases h)⟩)
      go_wp2_with ((with_reducible refine z0y 0 0 0 none 0 0 none 0 0 none 0 0 0 0 0 0 HD8.out.r ?_ ?_ ?_);rfl;rfl)
      (try simp only [Exit.inBlock,Exit.then])
      refine bodyPost_ret (v:=.tuple #[.agg zc,.int .i64 8]) ?_ rfl HG.out
      exact z2l rfl _ _ R zc _ rfl rfl HRF.out rfl
     obtain⟨a0,a1,a2,a3,a4,a5,a6,a7,a8,a9⟩:=z0j _ _ _ _ _ _ _ _ _ _ _ _ _ _ _ _ HD8.out.y
     have HLLn:Hid (Ll.length=nl∧Lt.length=j∧Lo.length=no):=hid ⟨HP8.out.l.len,HP8.out.t.len,HP8.out.o.len⟩
     obtain⟨C,hC⟩:∃ C:Array Value,#[.int .u8 ((R0.2:Nat):Int),.int .u32 ((R1.2:Nat):Int),.int .u8 ((R2.2:Nat):Int),.slice pl nl cl,.slice pt j ct,.slice po no co,.int .u8 ((R6.2:Nat):Int),.int .u8 ((R7.2:Nat):Int),.int .u8 ((R8.2:Nat):Int),.int .i64 (sgn R9.2)]=C:=⟨_,rfl⟩
     have HRF:=hid (setRow_heap x8 R _ C _ _ HD8.out.r)
     have HG:Hid (z3x W (z3w Bs) (.returned (.tuple #[.agg C,.int .i64 0])) (x8.setRow R C)):=hid (by
      have hp:z3w Bs=(0,(⟨((R0.2:Nat):Int),((R1.2:Nat):Int),((R2.2:Nat):Int),Ll,Lt,Lo,((R6.2:Nat):Int),((R7.2:Nat):Int),((R8.2:Nat):Int),sgn R9.2⟩:Pg)):=by
       unfold z3w
       rw [HREF.out]
       dsimp only
       rw [if_neg (fun h=>h HZ9.out),if_neg (fun h=>h.elim (fun h=>by rw [HLN.out] at h;exact HNR.out h) (fun h=>by rw [hg] at h;exact absurd h (by decide)))]
      rw [hp]
      obtain⟨q1,q2,q3⟩:=HLLn.out
      have hfar:∀ q:Option Addr,Far (R+2) q→∀ a,q=some a→a.block≠R:=fun q h a ha=>by have:=h a ha;omega
      refine⟨pl,cl,pt,ct,po,co,by rw [← hC,q1,q2,q3],?_,below_setRow HD8.out.below HD8.out.base C,(fun a h=>by have:=HFF.out.1 a h;have:=HD8.out.base;omega),(fun a h=>by have:=HFF.out.2.1 a h;have:=HD8.out.base;omega),(fun a h=>by have:=HFF.out.2.2 a h;have:=HD8.out.base;omega)⟩
      rw [q1,q2,q3]
      exact⟨HP8.out.l.turn (by simp [World.setRow]) fun _ a ha _=>setRow_other _ _ _ _ (hfar _ HFF.out.1 a ha),HP8.out.t.turn (by simp [World.setRow]) fun _ a ha _=>setRow_other _ _ _ _ (hfar _ HFF.out.2.1 a ha),HP8.out.o.turn (by simp [World.setRow]) fun _ a ha _=>setRow_other _ _ _ _ (hfar _ HFF.out.2.2 a ha)⟩)
     subst hC
     clear hg
     go_wp2_with ((with_reducible refine z0y ((R0.2:Nat):Int) ((R1.2:Nat):Int) ((R2.2:Nat):Int) pl nl cl pt j ct po no co ((R6.2:Nat):Int) ((R7.2:Nat):Int) ((R8.2:Nat):Int) (sgn R9.2) HD8.out.r ?_ ?_ ?_);rfl;rfl)
     (try simp only [Exit.inBlock,Exit.then])
     refine bodyPost_ret (v:=.tuple #[.agg #[.int .u8 ((R0.2:Nat):Int),.int .u32 ((R1.2:Nat):Int),.int .u8 ((R2.2:Nat):Int),.slice pl nl cl,.slice pt j ct,.slice po no co,.int .u8 ((R6.2:Nat):Int),.int .u8 ((R7.2:Nat):Int),.int .u8 ((R8.2:Nat):Int),.int .i64 (sgn R9.2)],.int .i64 0]) ?_ rfl HG.out
     exact z2l rfl _ _ R _ _ rfl rfl HRF.out rfl
   · have hlt':¬ (j:Int)<nc:=by omega
     obtain⟨pt,ct,hv,htl,htp⟩:=SlG.of_own (d:=tk0) q1l (by decide) HOj.out
     subst hv
     have HTl:=hid htl
     have HFt:Hid (Far (R+2) pt):=hid fun a ha=>by have:=HBj.out a.block (by rw [ha];rfl);have:=HYS.out;omega
     have HLl6:=hid (HLl5.out.turn HCj.out.size fun _ a ha hlt=>HCj.out.block a.block hlt (by have:=HFl.out a ha;omega))
     have hmlt:=z2t (f:=tkR) S1 j
     have HML:=hid hmlt
     have HFN:=hid hfin
     clear htl htp hmlt hfin HLl5 HOj HCj HBj
     generalize z0z tkR j S1=Mj at *
     obtain⟨S4,Lt⟩:=Mj
     dsimp only at HDj HTl HML HFN x1
     have HD6:=hid HDj.out
     clear HDj
     have hn:=z7a HD6.out.z
     obtain⟨R5,hR5⟩:∃ R,z2z z1c 3 S4=R:=⟨_,rfl⟩
     rw [hR5] at hn
     have HR5:=hid hR5
     have HY6:=hid (z0g HD6.out.y)
     clear hR5
     go_wp2_with fail
     refine hn.mono ?_
     rintro e y5 ⟨po,no,co,Lo,rfl,hl,hfar,hno,hz,hc,heq⟩
     have HFF:Hid (Far (R+2) pl∧Far (R+2) pt∧Far (R+2) po):=hid ⟨HFl.out,HFt.out,fun a ha=>by have:=hfar a ha;have:=HY6.out;omega⟩
     have HPb:=hid (PgM.mk (z8p HFl.out HLl6.out hc) (z8p HFt.out HTl.out hc) hl)
     have HDb:=hid (HD6.out.low hz hc)
     have HNo:=hid hno
     have HEo:=hid heq
     clear hz hc hn hfar hno heq hl HY6 x1
     obtain⟨cy,cf⟩:=HDb.out.cy (j:=5) rfl
     go_upto_region 18 with (fail)
     clear cy cf
     have hd:=HDb.out.put 5 (.slice po no co)
     simp only [sIB,sCZ,sCS] at hd
     have HP6:=hid (z6u HPb.out HFF.out 5 (.slice po no co))
     generalize y5.setCell ⟨R+2,5,none⟩ (.slice po no co)=z5 at *
     clear HD6
     have HD6:=hid hd
     clear hd HDb HPb HLl6 HTl
     obtain⟨R6,hR6⟩:∃ R,numR R5.1 1=R:=⟨_,rfl⟩
     have hn:=z0n HD6.out.z 1 (by omega)
     have hf:=z1p HD6.out.z
     rw [hR6] at hn hf
     have hx6:IntKind.u8.wrap ((R6.2:Nat):Int)=(R6.2:Nat):=by simp [IntKind.wrap,IntKind.bits,IntKind.signed];omega
     have HFT6:=hid hf
     have HR6:=hid hR6
     clear hf hR6
     go_wp2_with fail
     refine hn.mono ?_
     rintro e y6 ⟨rfl,hz,hc⟩
     have HDb:=hid (HD6.out.low hz hc)
     have HPb:=hid (z8l HP6.out HFF.out hc)
     clear hz hc hn
     obtain⟨cy,cf⟩:=HDb.out.cy (j:=6) rfl
     go_upto_region 19 with (fail)
     clear cy cf
     have hd:=HDb.out.put 6 (.int .u8 ((R6.2:Nat):Int))
     simp only [sIB,sCZ,sCS] at hd
     have HP7:=hid (z6u HPb.out HFF.out 6 (.int .u8 ((R6.2:Nat):Int)))
     generalize y6.setCell ⟨R+2,6,none⟩ (.int .u8 ((R6.2:Nat):Int))=z6 at *
     have HD7:=hid hd
     clear hd HDb HD6 HPb HP6
     obtain⟨R7,hR7⟩:∃ R,numR R6.1 1=R:=⟨_,rfl⟩
     have hn:=z0n HD7.out.z 1 (by omega)
     have hf:=z1p HD7.out.z
     rw [hR7] at hn hf
     have hx7:IntKind.u8.wrap ((R7.2:Nat):Int)=(R7.2:Nat):=by simp [IntKind.wrap,IntKind.bits,IntKind.signed];omega
     have HFT7:=hid hf
     have HR7:=hid hR7
     clear hf hR7
     go_wp2_with fail
     refine hn.mono ?_
     rintro e y7 ⟨rfl,hz,hc⟩
     have HDb:=hid (HD7.out.low hz hc)
     have HPb:=hid (z8l HP7.out HFF.out hc)
     clear hz hc hn
     obtain⟨cy,cf⟩:=HDb.out.cy (j:=7) rfl
     go_upto_region 20 with (fail)
     clear cy cf
     have hd:=HDb.out.put 7 (.int .u8 ((R7.2:Nat):Int))
     simp only [sIB,sCZ,sCS] at hd
     have HP8:=hid (z6u HPb.out HFF.out 7 (.int .u8 ((R7.2:Nat):Int)))
     generalize y7.setCell ⟨R+2,7,none⟩ (.int .u8 ((R7.2:Nat):Int))=z7 at *
     have HD8:=hid hd
     clear hd HDb HD7 HPb HP7
     obtain⟨R8,hR8⟩:∃ R,numR R7.1 1=R:=⟨_,rfl⟩
     have hn:=z0n HD8.out.z 1 (by omega)
     have hf:=z1p HD8.out.z
     rw [hR8] at hn hf
     have hx8:IntKind.u8.wrap ((R8.2:Nat):Int)=(R8.2:Nat):=by simp [IntKind.wrap,IntKind.bits,IntKind.signed];omega
     have HFT8:=hid hf
     have HR8:=hid hR8
     clear hf hR8
     go_wp2_with fail
     refine hn.mono ?_
     rintro e y8 ⟨rfl,hz,hc⟩
     have HDb:=hid (HD8.out.low hz hc)
     have HPb:=hid (z8l HP8.out HFF.out hc)
     clear hz hc hn
     obtain⟨cy,cf⟩:=HDb.out.cy (j:=8) rfl
     go_upto_region 21 with (fail)
     clear cy cf
     have hd:=HDb.out.put 8 (.int .u8 ((R8.2:Nat):Int))
     simp only [sIB,sCZ,sCS] at hd
     have HP9:=hid (z6u HPb.out HFF.out 8 (.int .u8 ((R8.2:Nat):Int)))
     generalize y8.setCell ⟨R+2,8,none⟩ (.int .u8 ((R8.2:Nat):Int))=z8 at *
     have HD9:=hid hd
     clear hd HDb HD8 HPb HP8
     obtain⟨R9,hR9⟩:∃ Q,numR R8.1 8=Q:=⟨_,rfl⟩
     have hn:=z5m HD9.out.z
     have hf:=z8a HD9.out.z
     rw [hR9] at hn hf
     rw [z5v _ hf] at hn
     have HR9:=hid hR9
     have HFT9:=hid hf
     clear hf hR9
     go_wp2_with fail
     refine hn.mono ?_
     rintro e y9 ⟨rfl,hz,hc⟩
     have HDb:=hid (HD9.out.low hz hc)
     have HPb:=hid (z8l HP9.out HFF.out hc)
     clear hz hc hn
     obtain⟨cy,cf⟩:=HDb.out.cy (j:=9) rfl
     go_upto_region 22 with (fail)
     clear cy cf
     have hd:=HDb.out.put 9 (.int .i64 (sgn R9.2))
     simp only [sIB,sCZ,sCS] at hd
     have HPf:=hid (z6u HPb.out HFF.out 9 (.int .i64 (sgn R9.2)))
     generalize y9.setCell ⟨R+2,9,none⟩ (.int .i64 (sgn R9.2))=z9 at *
     have HDf:=hid hd
     clear hd HDb HD9 HPb HP9
     have x1:=HDf.out.z.err
     by_cases he9:R9.1.1=0
     case neg =>
      have d9:(R9.1.1 != 0)=true:=by simpa using he9
      have hq9:Hid (R9.1.1≠0):=hid he9
      obtain⟨pr,nr,cr,hbx,hpr⟩:=HDf.out.z.box
      have HDd:=hid (HDf.out.keep (show Below z9.heap.size z9 z9.drew from (Below.refl _ _).drew))
      have HBX:Hid (z9.drew.heap[R+1]?=some (.cells #[.slice pr nr cr,.int .i64 R9.1.1] 162 (0,0))):=hid hbx
      clear he9 hbx hpr
      have HRF:=hid (setRow_heap z9.drew R _ zc _ _ HDd.out.r)
      have HG:Hid (z3x W (z3w Bs) (.returned (.tuple #[.agg zc,.int .i64 R9.1.1])) (z9.drew.setRow R zc)):=hid (by
       have hp:z3w Bs=(R9.1.1,noP):=by
        unfold z3w
        rw [q0j HR0.out HR1.out HR2.out HR3.out HRc.out HFN.out.1 HR5.out HR6.out HR7.out HR8.out HR9.out]
        dsimp only
        rw [if_pos hq9.out]
       rw [hp]
       exact⟨none,0,none,0,none,0,rfl,⟨SlG.empty _,SlG.empty _,SlG.empty _⟩,below_setRow HDd.out.below HDd.out.base zc,(fun a h=>by cases h),(fun a h=>by cases h),(fun a h=>by cases h)⟩)
      go_wp2_with fail
      refine wp_region_held_drew (S:=fun w'=>Hid (w'.heap[R+1]?=some (.cells #[.slice pr nr cr,.int .i64 R9.1.1] 162 (0,0)))) (by kernel_rfl) HBX (fun hHeld=>?_)
      refine wpAnyH_take (i:=0) (oi:=⟨some 87,_,_,_,_,_⟩) (v:=.agg zc) rfl (by kernel_rfl) (by kernel_rfl) (by kernel_rfl) (fun _ _ _ h=>h) (Or.inl ⟨by rfl,fun w' hw'=>?_⟩) (by assumption) ?_
      · clear hHeld
        go_simp
      simp only [Act.put,sIB,sCZ,sCS]
      refine wpAnyH_take (i:=1) (oi:=⟨some 88,_,_,_,_,_⟩) (v:=.pointer (some ⟨R+1,0,none⟩)) rfl (by kernel_rfl) (by kernel_rfl) (by kernel_rfl) (fun _ _ _ h=>h) (Or.inl ⟨by rfl,fun w' hw'=>?_⟩) (by assumption) ?_
      · clear hHeld
        go_simp
      simp only [Act.put,sIB,sCZ,sCS]
      refine wpAnyH_take (i:=2) (oi:=⟨some 89,_,_,_,_,_⟩) (v:=.pointer (some ⟨R+1,0,none⟩)) rfl (by kernel_rfl) (by kernel_rfl) (by kernel_rfl) (fun _ _ _ h=>h) (Or.inl ⟨by rfl,fun w' hw'=>?_⟩) (by assumption) ?_
      · clear hHeld
        go_simp
      simp only [Act.put,sIB,sCZ,sCS]
      refine wpAnyH_take (i:=3) (oi:=⟨some 90,_,_,_,_,_⟩) (v:=.pointer (some ⟨R+1,1,none⟩)) rfl (by kernel_rfl) (by kernel_rfl) (by kernel_rfl) (fun _ _ _ h=>h) (Or.inl ⟨by rfl,fun w' hw'=>?_⟩) (by assumption) ?_
      · clear hHeld
        go_simp
      simp only [Act.put,sIB,sCZ,sCS]
      refine wpAnyH_take (i:=4) (oi:=⟨some 91,_,_,_,_,_⟩) (v:=.int .i64 R9.1.1) rfl (by kernel_rfl) (by kernel_rfl) (by kernel_rfl) (fun _ _ _ h=>h) (Or.inl ⟨by rfl,fun w' hw'=>?_⟩) (by assumption) ?_
      · have g1:=z0a (j:=1) (v:=.int .i64 R9.1.1) hw'.out rfl
        clear hHeld
        go_simp
      simp only [Act.put,sIB,sCZ,sCS]
      generalize z9.drew=Wd at *
      refine wpAnyH_ready (rs:=[5]) (by kernel_rfl) (by simp) (AllReadyH.cons rfl (fun K hK=>?_) AllReadyH.nil)
      rw [if_pos (by rfl)]
      refine wp_store_row 49 _ _ rfl R zc rfl rfl 49 _ HDd.out.r (by kernel_rfl) rfl (by kernel_rfl) ?_
      have HB2:Hid ((Wd.setRow R zc).heap[R+1]?=some (.cells #[.slice pr nr cr,.int .i64 R9.1.1] 162 (0,0))):=hid ((setRow_other _ _ _ _ (by omega)).trans HBX.out)
      refine hK.out _ _ HB2 (fun hHeld2=>?_)
      clear hK K hHeld
      have hHeld:=hHeld2
      clear hHeld2
      (try simp only [Act.put,sIB,sCZ,sCS])
      refine wpAnyH_take (i:=6) (oi:=⟨some 3,_,_,_,_,_⟩) (v:=.int .i64 R9.1.1) rfl (by kernel_rfl) (by kernel_rfl) (by kernel_rfl) (fun _ _ _ h=>h) (Or.inl ⟨by rfl,fun w' hw'=>?_⟩) (by assumption) ?_
      · clear hHeld
        go_simp
      simp only [Act.put,sIB,sCZ,sCS]
      refine wpAnyH_done (by kernel_rfl) ?_ _
      clear hHeld
      (try simp only [Exit.inBlock,Exit.then])
      go_wp2_with fail
      refine bodyPost_ret (v:=.tuple #[.agg zc,.int .i64 R9.1.1]) ?_ rfl HG.out
      exact z2l rfl _ _ R zc _ rfl rfl HRF.out rfl
     have d9:(R9.1.1 != 0)=false:=by simp [he9]
     obtain⟨y3,y4',y5'⟩:=zero_back (R2:=R2) HRc.out HFN.out.1 HR5.out HR6.out HR7.out HR8.out HR9.out he9
     have hrefa:=q0j HR0.out HR1.out HR2.out HR3.out HRc.out HFN.out.1 HR5.out HR6.out HR7.out HR8.out HR9.out
     rw [HFN.out.2 y4',← HEl.out y3,← HEo.out y5'] at hrefa
     have hpok:=ref_ok HBY.out (by rw [hrefa];exact he9)
     rw [hrefa] at hpok
     have HREF:=hid hrefa
     have HPOK:=hid hpok
     have HZ9:=hid he9
     clear hrefa hpok y3 y4' y5'
     obtain⟨pr,nr,cr,hbx,hpr⟩:=HDf.out.z.box
     have hln:=(hpr he9).1.len
     have HLN:=hid hln
     rw [he9] at hbx
     have b0:z9.cell? ⟨R+1,0,none⟩=some (.slice pr nr cr):=z0a hbx rfl
     clear hbx hpr hln he9
     by_cases hnr:0<nr
     case pos =>
      have hd:(0:Int)<nr:=by omega
      have HNR:=hid hnr
      clear hnr
      have HRF:=hid (setRow_heap z9 R _ zc _ _ HDf.out.r)
      have HG:Hid (z3x W (z3w Bs) (.returned (.tuple #[.agg zc,.int .i64 8])) (z9.setRow R zc)):=hid (by
       have hp:z3w Bs=(8,noP):=by
        unfold z3w
        rw [HREF.out]
        dsimp only
        rw [if_neg (fun h=>h HZ9.out),if_pos (Or.inl (by rw [HLN.out];exact HNR.out))]
       rw [hp]
       exact⟨none,0,none,0,none,0,rfl,⟨SlG.empty _,SlG.empty _,SlG.empty _⟩,below_setRow HDf.out.below HDf.out.base zc,(fun a h=>by cases h),(fun a h=>by cases h),(fun a h=>by cases h)⟩)
      go_wp2_with ((with_reducible refine z0y 0 0 0 none 0 0 none 0 0 none 0 0 0 0 0 0 HDf.out.r ?_ ?_ ?_);rfl;rfl)
      (try simp only [Exit.inBlock,Exit.then])
      refine bodyPost_ret (v:=.tuple #[.agg zc,.int .i64 8]) ?_ rfl HG.out
      exact z2l rfl _ _ R zc _ rfl rfl HRF.out rfl
     have hd:¬ (0:Int)<nr:=by omega
     have HNR:=hid hnr
     clear hnr
     have hgd:=q1o 4 4 ((R0.2:Nat):Int) ((R1.2:Nat):Int) ((R2.2:Nat):Int) pl nl cl pt j ct po no co ((R6.2:Nat):Int) ((R7.2:Nat):Int) ((R8.2:Nat):Int) (sgn R9.2) Ll Lt Lo z9 HPf.out HPOK.out ⟨by have:=HNl.out;omega,by have:=hle;omega,by have:=HNo.out;omega⟩
     obtain⟨a0,a1,a2,a3,a4,a5,a6,a7,a8,a9⟩:=z0j _ _ _ _ _ _ _ _ _ _ _ _ _ _ _ _ HDf.out.y
     go_wp2_with fail
     refine hgd.mono ?_
     rintro e x8 ⟨rfl,hb8⟩
     have HD8:=hid (HDf.out.keep hb8)
     have HP8:=hid (HPf.out.later hb8)
     clear hb8 hgd a0 a1 a2 a3 a4 a5 a6 a7 a8 a9
     cases hg:z0w 4 4 (⟨((R0.2:Nat):Int),((R1.2:Nat):Int),((R2.2:Nat):Int),Ll,Lt,Lo,((R6.2:Nat):Int),((R7.2:Nat):Int),((R8.2:Nat):Int),sgn R9.2⟩:Pg)
     case false =>
      have HRF:=hid (setRow_heap x8 R _ zc _ _ HD8.out.r)
      have HG:Hid (z3x W (z3w Bs) (.returned (.tuple #[.agg zc,.int .i64 8])) (x8.setRow R zc)):=hid (by
       have hp:z3w Bs=(8,noP):=by
        unfold z3w
        rw [HREF.out]
        dsimp only
        rw [if_neg (fun h=>h HZ9.out),if_pos (Or.inr hg)]
       rw [hp]
       exact⟨none,0,none,0,none,0,rfl,⟨SlG.empty _,SlG.empty _,SlG.empty _⟩,below_setRow HD8.out.below HD8.out.base zc,(fun a h=>by cases h),(fun a h=>by cases h),(fun a h=>by cases h)⟩)
      go_wp2_with ((with_reducible refine z0y 0 0 0 none 0 0 none 0 0 none 0 0 0 0 0 0 HD8.out.r ?_ ?_ ?_);rfl;rfl)
      (try simp only [Exit.inBlock,Exit.then])
      refine bodyPost_ret (v:=.tuple #[.agg zc,.int .i64 8]) ?_ rfl HG.out
      exact z2l rfl _ _ R zc _ rfl rfl HRF.out rfl
     obtain⟨a0,a1,a2,a3,a4,a5,a6,a7,a8,a9⟩:=z0j _ _ _ _ _ _ _ _ _ _ _ _ _ _ _ _ HD8.out.y
     have HLLn:Hid (Ll.length=nl∧Lt.length=j∧Lo.length=no):=hid ⟨HP8.out.l.len,HP8.out.t.len,HP8.out.o.len⟩
     obtain⟨C,hC⟩:∃ C:Array Value,#[.int .u8 ((R0.2:Nat):Int),.int .u32 ((R1.2:Nat):Int),.int .u8 ((R2.2:Nat):Int),.slice pl nl cl,.slice pt j ct,.slice po no co,.int .u8 ((R6.2:Nat):Int),.int .u8 ((R7.2:Nat):Int),.int .u8 ((R8.2:Nat):Int),.int .i64 (sgn R9.2)]=C:=⟨_,rfl⟩
     have HRF:=hid (setRow_heap x8 R _ C _ _ HD8.out.r)
     have HG:Hid (z3x W (z3w Bs) (.returned (.tuple #[.agg C,.int .i64 0])) (x8.setRow R C)):=hid (by
      have hp:z3w Bs=(0,(⟨((R0.2:Nat):Int),((R1.2:Nat):Int),((R2.2:Nat):Int),Ll,Lt,Lo,((R6.2:Nat):Int),((R7.2:Nat):Int),((R8.2:Nat):Int),sgn R9.2⟩:Pg)):=by
       unfold z3w
       rw [HREF.out]
       dsimp only
       rw [if_neg (fun h=>h HZ9.out),if_neg (fun h=>h.elim (fun h=>by rw [HLN.out] at h;exact HNR.out h) (fun h=>by rw [hg] at h;exact absurd h (by decide)))]
      rw [hp]
      obtain⟨q1,q2,q3⟩:=HLLn.out
      have hfar:∀ q:Option Addr,Far (R+2) q→∀ a,q=some a→a.block≠R:=fun q h a ha=>by have:=h a ha;omega
      refine⟨pl,cl,pt,ct,po,co,by rw [← hC,q1,q2,q3],?_,below_setRow HD8.out.below HD8.out.base C,(fun a h=>by have:=HFF.out.1 a h;have:=HD8.out.base;omega),(fun a h=>by have:=HFF.out.2.1 a h;have:=HD8.out.base;omega),(fun a h=>by have:=HFF.out.2.2 a h;have:=HD8.out.base;omega)⟩
      rw [q1,q2,q3]
      exact⟨HP8.out.l.turn (by simp [World.setRow]) fun _ a ha _=>setRow_other _ _ _ _ (hfar _ HFF.out.1 a ha),HP8.out.t.turn (by simp [World.setRow]) fun _ a ha _=>setRow_other _ _ _ _ (hfar _ HFF.out.2.1 a ha),HP8.out.o.turn (by simp [World.setRow]) fun _ a ha _=>setRow_other _ _ _ _ (hfar _ HFF.out.2.2 a ha)⟩)
     subst hC
     clear hg
     go_wp2_with ((with_reducible refine z0y ((R0.2:Nat):Int) ((R1.2:Nat):Int) ((R2.2:Nat):Int) pl nl cl pt j ct po no co ((R6.2:Nat):Int) ((R7.2:Nat):Int) ((R8.2:Nat):Int) (sgn R9.2) HD8.out.r ?_ ?_ ?_);rfl;rfl)
     (try simp only [Exit.inBlock,Exit.then])
     refine bodyPost_ret (v:=.tuple #[.agg #[.int .u8 ((R0.2:Nat):Int),.int .u32 ((R1.2:Nat):Int),.int .u8 ((R2.2:Nat):Int),.slice pl nl cl,.slice pt j ct,.slice po no co,.int .u8 ((R6.2:Nat):Int),.int .u8 ((R7.2:Nat):Int),.int .u8 ((R8.2:Nat):Int),.int .i64 (sgn R9.2)],.int .i64 0]) ?_ rfl HG.out
     exact z2l rfl _ _ R _ _ rfl rfl HRF.out rfl
  obtain⟨hltj,he⟩:=hgo
  have hltj':(j:Int)<nc:=by omega
  have de:((z0z tkR j S1).1.1==0)=true:=by simpa using he
  obtain⟨X,hX⟩:∃ n,wr.heap.size=n:=⟨_,rfl⟩
  obtain⟨w2,hw2,hx2,hb2⟩:∃ w2,(wr.alloc (.cells #[.int .u32 0,.int .u8 0,.int .u8 0,.int .i64 0] 204)).setRow X #[.int .u32 0,.int .u8 0,.int .u8 0,.int .i64 0]=w2∧w2.heap[X]?=some (.cells #[.int .u32 0,.int .u8 0,.int .u8 0,.int .i64 0] 204 (0,0))∧Below wr.heap.size wr w2:=⟨_,rfl,by rw [← hX];exact setRow_heap _ _ _ _ _ _ (z0b wr _),below_setRow ((Below.refl _ _).alloc (Nat.le_refl _) _) (by omega) _⟩
  have hx1:=z0b wr (.cells #[.int .u32 0,.int .u8 0,.int .u8 0,.int .i64 0] 204)
  rw [hX] at hx1
  have HX1:=hid hx1
  have HW2:=hid hw2
  have HXE:=hid hX
  have z4e:z0z tkR (j+1) S1=((tkR (z0z tkR j S1).1).1,(z0z tkR j S1).2 ++ [(tkR (z0z tkR j S1).1).2]):=rfl
  have HST:=hid z4e
  have hml:=z2t (f:=tkR) S1 j
  have hsb:=HCj.out.size
  have hys:=HYS.out
  have HT0:Hid (Tq W y4 w2 R X p (z0z tkR j S1).1 #[.int .u8 ((R0.2:Nat):Int),.int .u32 ((R1.2:Nat):Int),.int .u8 ((R2.2:Nat):Int),.slice pl nl cl,v,.slice none 0 0,.int .u8 0,.int .u8 0,.int .u8 0,.int .i64 0] #[.int .u32 0,.int .u8 0,.int .u8 0,.int .i64 0] v j (z0z tkR j S1).2):=hid ⟨HDj.out.keep hb2,hx2,z4l HOj.out (Chg.of_below (S:=fun _=>False) hb2) fun _ _ h=>h,HCj.out.trans (Chg.of_below (S:=fun k=>k=R+1∨k=R+2) hb2) fun _ _ h=>h,⟨by omega,by omega⟩,fun b hb=>⟨by have:=HBj.out b hb;omega,by have:=(HOj.out.lt b hb).2;omega⟩⟩
  have HNC:Hid (nc≤12):=hid hle
  clear hx1 hx2 hw2 hX hb2 z4e he hsb hys HDj HOj HCj
  generalize z0z tkR j S1=Mj at *
  obtain⟨Sj,Lj⟩:=Mj
  dsimp only at HT0 HST hml de x1
  obtain⟨Q0,hQ0⟩:∃ Q,numR Sj 4=Q:=⟨_,rfl⟩
  have hn:=z0n HT0.out.d.z 4 (by omega)
  have hf:=z4i HT0.out.d.z
  rw [hQ0] at hn hf
  have hx0:IntKind.u32.wrap ((Q0.2:Nat):Int)=(Q0.2:Nat):=by simp [IntKind.wrap,IntKind.bits,IntKind.signed];omega
  have HQ0:=hid hQ0
  clear hf hQ0
  go_wp2_with ((try rw [HXE.out]);(with_reducible refine wpList_store_tk (B:=X) (x0:=0) (x1:=0) (x2:=0) (q:=0) HX1.out ?_ ?_ ?_);rfl;rfl;rw [HW2.out])
  refine hn.mono ?_
  rintro e v0 ⟨rfl,hz,hc⟩
  have HTb:=hid (HT0.out.low hz hc)
  clear hz hc hn
  obtain⟨cy,cf⟩:=HTb.out.cx (i:=0) rfl
  go_upto_region 13 with (fail)
  clear cy cf
  have hd:=HTb.out.put 0 (.int .u32 ((Q0.2:Nat):Int))
  simp only [sIB,sCZ,sCS] at hd
  generalize v0.setCell ⟨X,0,none⟩ (.int .u32 ((Q0.2:Nat):Int))=u0x at *
  have HT1:=hid hd
  clear hd HTb HT0
  obtain⟨Q1,hQ1⟩:∃ Q,numR Q0.1 1=Q:=⟨_,rfl⟩
  have hn:=z0n HT1.out.d.z 1 (by omega)
  have hf:=z1p HT1.out.d.z
  rw [hQ1] at hn hf
  have hx1:IntKind.u8.wrap ((Q1.2:Nat):Int)=(Q1.2:Nat):=by simp [IntKind.wrap,IntKind.bits,IntKind.signed];omega
  have HQ1:=hid hQ1
  clear hf hQ1
  go_wp2_with fail
  refine hn.mono ?_
  rintro e v1 ⟨rfl,hz,hc⟩
  have HTb:=hid (HT1.out.low hz hc)
  clear hz hc hn
  obtain⟨cy,cf⟩:=HTb.out.cx (i:=1) rfl
  go_upto_region 14 with (fail)
  clear cy cf
  have hd:=HTb.out.put 1 (.int .u8 ((Q1.2:Nat):Int))
  simp only [sIB,sCZ,sCS] at hd
  generalize v1.setCell ⟨X,1,none⟩ (.int .u8 ((Q1.2:Nat):Int))=u1x at *
  have HT2:=hid hd
  clear hd HTb HT1
  obtain⟨Q2,hQ2⟩:∃ Q,numR Q1.1 1=Q:=⟨_,rfl⟩
  have hn:=z0n HT2.out.d.z 1 (by omega)
  have hf:=z1p HT2.out.d.z
  rw [hQ2] at hn hf
  have hx2:IntKind.u8.wrap ((Q2.2:Nat):Int)=(Q2.2:Nat):=by simp [IntKind.wrap,IntKind.bits,IntKind.signed];omega
  have HQ2:=hid hQ2
  clear hf hQ2
  go_wp2_with fail
  refine hn.mono ?_
  rintro e v2 ⟨rfl,hz,hc⟩
  have HTb:=hid (HT2.out.low hz hc)
  clear hz hc hn
  obtain⟨cy,cf⟩:=HTb.out.cx (i:=2) rfl
  go_upto_region 15 with (fail)
  clear cy cf
  have hd:=HTb.out.put 2 (.int .u8 ((Q2.2:Nat):Int))
  simp only [sIB,sCZ,sCS] at hd
  generalize v2.setCell ⟨X,2,none⟩ (.int .u8 ((Q2.2:Nat):Int))=u2x at *
  have HT3:=hid hd
  clear hd HTb HT2
  obtain⟨Q3,hQ3⟩:∃ Q,numR Q2.1 8=Q:=⟨_,rfl⟩
  have hn:=z5m HT3.out.d.z
  have hf:=z8a HT3.out.d.z
  rw [hQ3] at hn hf
  rw [z5v _ hf] at hn
  have HQ3:=hid hQ3
  clear hf hQ3
  go_wp2_with fail
  refine hn.mono ?_
  rintro e v3 ⟨rfl,hz,hc⟩
  have HTb:=hid (HT3.out.low hz hc)
  clear hz hc hn
  obtain⟨cy,cf⟩:=HTb.out.cx (i:=3) rfl
  go_upto_region 16 with (fail)
  clear cy cf
  have hd:=HTb.out.put 3 (.int .i64 (sgn Q3.2))
  simp only [sIB,sCZ,sCS] at hd
  generalize v3.setCell ⟨X,3,none⟩ (.int .i64 (sgn Q3.2))=w6 at *
  obtain⟨x,hx⟩:∃ x:Tk,(((Q0.2:Nat):Int),((Q1.2:Nat):Int),((Q2.2:Nat):Int),sgn Q3.2)=x:=⟨_,rfl⟩
  have HTR:Hid (tkR Sj=(Q3.1,x)):=hid (by unfold tkR;rw [HQ0.out,HQ1.out,HQ2.out,HQ3.out,hx])
  have e0:((Q0.2:Nat):Int)=x.1:=by rw [← hx]
  have e1:((Q1.2:Nat):Int)=x.2.1:=by rw [← hx]
  have e2:((Q2.2:Nat):Int)=x.2.2.1:=by rw [← hx]
  have e3:sgn Q3.2=x.2.2.2:=by rw [← hx]
  rw [e0,e1,e2,e3] at hd
  have HT6:=hid hd
  clear hx e0 e1 e2 e3 hd HTb HT3
  obtain⟨c0,_⟩:=HT6.out.cx (i:=0) rfl
  obtain⟨c1,_⟩:=HT6.out.cx (i:=1) rfl
  obtain⟨c2,_⟩:=HT6.out.cx (i:=2) rfl
  obtain⟨c3,_⟩:=HT6.out.cx (i:=3) rfl
  obtain⟨c4,_⟩:=HT6.out.d.cy (j:=4) rfl
  have hba:Below w6.heap.size w6 (w6.alloc (.cells #[.int .u32 x.1,.int .u8 x.2.1,.int .u8 x.2.2.1,.int .i64 x.2.2.2] 204)):=(Below.refl _ _).alloc (Nat.le_refl _) _
  have HD7:=hid (HT6.out.d.keep hba)
  have HO7:=hid (HT6.out.o.alloc (.cells #[.int .u32 x.1,.int .u8 x.2.1,.int .u8 x.2.2.1,.int .i64 x.2.2.2] 204))
  have HC7:=hid (HT6.out.c.trans (Chg.of_below (S:=fun k=>k=R+1∨k=R+2) hba) fun _ _ h=>h)
  have HXO:=hid HT6.out.xo
  have HXR:=hid HT6.out.xr
  have HFAR:Hid (∀ w8,Chg (fun b=>v.ownBlock=some b) (w6.alloc (.cells #[.int .u32 x.1,.int .u8 x.2.1,.int .u8 x.2.2.1,.int .i64 x.2.2.2] 204)) w8→w8.cell? ⟨R+2,4,none⟩=some v∧w8.frozen? ⟨R+2,4,none⟩=false):=hid fun w8 g=>(HD7.out.far g fun k hk=>(HXO.out k hk).1).cy rfl
  have hj12:j≤12:=by have:=HNC.out;omega
  clear hba HT6
  go_wp2_with (at_builtin;refine z1v (k:=4) (by decide) Tryz.underlying47 info_tk rfl (by omega) rfl _ _ rfl v j (z1e tkc Lj) rfl HO7.out (some ⟨w6.heap.size,0,none⟩) 1 1 (z1e tkc [x]) rfl rfl (fun h=>by cases h) (tk_news w6 x) (z2m tkc_one _) (by omega) ?_;intro p8 c8 w8 g1 g2 g3;obtain⟨cy8,cf8⟩:=HFAR.out w8 g2)
  have hbase:∀ b,(Value.slice p8 (j+1) c8).ownBlock=some b→y4.heap.size≤b:=fun b hb=>by
   rcases g3 b hb with hk | hk
   · exact HBj.out b hk
   · have:=HC7.out.size;have:=HXR.out;omega
  rw [← z1q] at g1
  have hd8:=(HD7.out.far g2 fun k hk=>(HXO.out k hk).1).put 4 (.slice p8 (j+1) c8)
  simp only [sIB,sCZ,sCS] at hd8
  have hs8:Chg (fun k=>k=R+2) w8 (w8.setCell ⟨R+2,4,none⟩ (.slice p8 (j+1) c8)):=(Chg.refl _ _).setCell ⟨R+2,4,none⟩ _ fun _=>rfl
  have HD8:=hid hd8
  have HO8:=hid (z4l g1 hs8 fun b hb hk=>by have:=hbase b hb;have:=HYS.out;omega)
  have HC8:=hid ((HC7.out.trans g2 fun b hb1 hb2=>by have:=HBj.out b hb2;omega).trans hs8 fun k _ hk=>.inr hk)
  have HBS:=hid hbase
  clear g1 g2 g3 hbase c0 c1 c2 c3 c4 cy8 cf8 hd8 hs8
  go_roundw
  case rel=>exact⟨j+1,.slice p8 (j+1) c8,by omega,by go_num,hid (by rw [HST.out,HTR.out];exact HD8.out),hid (by rw [HST.out,HTR.out];exact HO8.out),HC8,HBS⟩
  case measure=>simp [Go.RowKit.intOf];omega
theorem boolR_bad {S:St} (h:S.1≠0):z2v S=(S,false):=by
 unfold z2v
 rw [z1n h (by omega),if_neg (by omega)]
 rfl
theorem bytesR_bad {S:St} (h:S.1≠0):z1d S 512=(S,[]):=by
 unfold z1d
 rw [z1n h (by omega),if_neg (by omega)]
 unfold z1i
 rw [if_neg h]
theorem bad_nn {e:Int} (he:e≠0) {S:St} (h:(bad e S).1=0):False:=by
 unfold bad at h
 split at h
 · exact he h
 · rename_i hn;exact hn h
theorem short_zero {size:Int} (hs:1≤size∧size≤8):(numR (0,[]) size).1.1=6:=by
 unfold numR z1i
 rw [if_pos hs,if_pos rfl,if_pos (by simp;omega)]
theorem rtruth_any {w:World} {B:Nat} {p0:Option Addr} {S:St} (h:Rr w B p0 S) :
 Calls Tryz.prog 95 #[.pointer (some ⟨B,0,none⟩)] w fun e w'=>e=.returned (.bool (z2v S).2)∧Rr w' B p0 (z2v S).1∧Chg (fun k=>k=B) w w':=by
 obtain⟨p,n,c,hb,hp⟩:=h.box
 have e0:w.cell? ⟨B,0,none⟩=some (.slice p n c):=z0a hb rfl
 have e1:w.cell? ⟨B,1,none⟩=some (.int .i64 S.1):=z0a hb rfl
 by_cases h0:S.1=0
 case neg =>
  have hd:(S.1 != 0)=true:=by simpa using h0
  have hn:=boolR_bad h0
  have HR:=hid h
  rw [hn]
  clear hn h0 hp hb h
  generalize S.1=s1 at *
  go_enter Tryz.func95,Tryz.ntmps95
  go_wp2_with fail
  go_ret
  exact⟨rfl,HR.out,Chg.refl _ _⟩
 obtain⟨s,L⟩:=S
 obtain rfl:s=0:=h0
 have hpt:=hp rfl
 have hgn:=getbool_any p n c L w hpt.1 hpt.2.2
 have HP:=hid hpt
 have HA:=hid (h.apart rfl)
 have hap:(z2v (0,L)).1.1=0→L≠[]:=by
  rintro hz rfl
  have h6:=short_zero (size:=1) (by omega)
  unfold z2v at hz
  split at hz
  · exact bad_nn (by decide) hz
  · rw [h6] at hz;exact absurd hz (by decide)
 have HAP:=hid hap
 clear hap
 have HBX:=hid hb
 dsimp only at e1
 clear hp hpt h hb
 go_enter Tryz.func95,Tryz.ntmps95
 go_wp2_with fail
 refine hgn.mono ?_
 rintro e w2 ⟨q,m,d,kk,rfl,hq,rfl⟩
 have HQ:=hid (show Part (w.drewN kk) p0 q m d (z5l (z2v (0,L)).1) from ⟨hq.1.later (z0f (Below.refl _ _) kk),hq.2.1.trans HP.out.2.1,hq.2.2⟩)
 have hb2:=z0c HBX.out (z0f (Below.refl w.heap.size w) kk)
 have e0':(w.drewN kk).cell? ⟨B,0,none⟩=some (.slice p n c):=z0a hb2 rfl
 have e1':(w.drewN kk).cell? ⟨B,1,none⟩=some (.int .i64 0):=z0a hb2 rfl
 have f0:=z2a hb2 0
 have f1:=z2a hb2 1
 have hb3:=z0u 0 (.slice q m d) hb2
 have f3:=z2a hb3 1
 have e3:((w.drewN kk).setCell ⟨B,0,none⟩ (.slice q m d)).cell? ⟨B,1,none⟩=some (.int .i64 0):=z0a hb3 (by simp)
 have hb4:=z0u 1 (.int .i64 (z2v (0,L)).1.1) hb3
 have hc4:Chg (fun k=>k=B) w (((w.drewN kk).setCell ⟨B,0,none⟩ (.slice q m d)).setCell ⟨B,1,none⟩ (.int .i64 (z2v (0,L)).1.1)) :=
  (((Chg.refl (fun k=>k=B) w).drewN kk).setCell ⟨B,0,none⟩ _ fun _=>rfl).setCell ⟨B,1,none⟩ _ fun _=>rfl
 have HBOX:Hid ((((w.drewN kk).setCell ⟨B,0,none⟩ (.slice q m d)).setCell ⟨B,1,none⟩ (.int .i64 (z2v (0,L)).1.1)).heap[B]?=some (.cells #[.slice q m d,.int .i64 (z2v (0,L)).1.1] 162 (0,0))):=hid (by simpa using hb4)
 have HC4:=hid hc4
 have HQ4:Hid ((z2v (0,L)).1.1=0→Part (((w.drewN kk).setCell ⟨B,0,none⟩ (.slice q m d)).setCell ⟨B,1,none⟩ (.int .i64 (z2v (0,L)).1.1)) p0 q m d (z5l (z2v (0,L)).1)):=hid fun hz=>(HQ.out.keep (fun a ha=>Nat.ne_of_lt (HA.out (HAP.out hz) a ha)) (((Chg.refl (fun k=>k=B) (w.drewN kk)).setCell ⟨B,0,none⟩ _ fun _=>rfl).setCell ⟨B,1,none⟩ _ fun _=>rfl))
 clear hgn hq hb2 hb3 hb4 hc4 HQ
 have hrest:∀ S:St,S.1=0→z5l S=S.2:=fun S h=>if_pos h
 generalize hRR:z2v (0,L)=R at *
 obtain⟨⟨s2,L2⟩,x⟩:=R
 have HRR:=hid hRR
 dsimp only at e1' HBOX HC4 HQ4
 have HREST:=hid hrest
 clear hrest hRR
 go_wp2_with fail
 go_ret
 rw [HRR.out]
 refine⟨rfl,⟨⟨q,m,d,HBOX.out,fun hz=>?_⟩,fun hz _=>HA.out (HAP.out hz)⟩,HC4.out⟩
 have:=HQ4.out hz
 rw [HREST.out (s2,L2) hz] at this
 exact this
end Go.Proofs.YtfdgnniicjdjdaaGreatDoor
