import Derived.Test.YtfdgnniicjdjdaaGreatDoorPB99
import Derived.Test.YtfdgnniicjdjdaaGreatDoorPB36
namespace Go.Proofs.YtfdgnniicjdjdaaGreatDoor
open Go.Lib (hid)
set_option maxHeartbeats 16000000
open Go.RowKit Go.ChangeShapes Go.WideShapes
set_option linter.unusedVariables false
set_option linter.unusedSimpArgs false
set_option maxRecDepth 10000
def rm (k sg tx st:Int) (cp:Bool) (ka kb kc d o:Int):Rv:=⟨k,sg,tx,st,cp,ka,kb,kc,d,o,0,0,0,none,0,0,none,0,0,none,0,0,0,0,0,0⟩
theorem z2e (k sg tx st:Int) (cp:Bool) (ka kb kc d o:Int) (w:World):RvM w (rm k sg tx st cp ka kb kc d o) [] [] []:=no_lists ⟨rfl,rfl,rfl,rfl,rfl,rfl,rfl,rfl,rfl⟩ w
theorem z2q {x:Nat} (h:x<256):IntKind.u8.wrap ((x:Nat):Int)=(x:Int):=by simp [IntKind.wrap,IntKind.bits,IntKind.signed];omega
theorem z3y {x:Nat} (h:x<4294967296):IntKind.u32.wrap ((x:Nat):Int)=(x:Int):=by simp [IntKind.wrap,IntKind.bits,IntKind.signed];omega
theorem z4c {S:St} (h:∀ y∈S.2,y<256):(numR S 1).2<256:=z3l h (n:=1) (by omega) (by omega)
theorem z8u {S:St} (h:∀ y∈S.2,y<256):(numR S 4).2<4294967296:=z3l h (n:=4) (by omega) (by omega)
theorem put_ky (r:Rv) (a b c:Int):z9z (rcs r) 5 [.int .u8 a,.int .u8 b,.int .u8 c]=rcs { r with ka:=a,kb:=b,kc:=c }:=by simp [z9z,rcs]
theorem q0p {S:Nat→Prop} {w w':World} {lp:Option Addr} {ln lcp:Nat} {L:List Ln} {tp:Option Addr} {tn tcp:Nat} {T:List Tk} {wp:Option Addr} {wn wcp:Nat} {M:List Ln} (h:PgM w lp ln lcp L tp tn tcp T wp wn wcp M) (hc:Chg S w w') (h1:∀ a,lp=some a→¬ S a.block) (h2:∀ a,tp=some a→¬ S a.block) (h3:∀ a,wp=some a→¬ S a.block):PgM w' lp ln lcp L tp tn tcp T wp wn wcp M :=
 ⟨h.l.turn hc.size fun _ a ha hlt=>hc.block a.block hlt (h1 a ha),h.t.turn hc.size fun _ a ha hlt=>hc.block a.block hlt (h2 a ha),h.o.turn hc.size fun _ a ha hlt=>hc.block a.block hlt (h3 a ha)⟩
theorem z3h (a b c:Int) {ops:Array Oper} {rest:List Oper} {ac:Act} {w:World} {Q:Exit→Act→World→Prop} {dst:Option Tmp} {x y:Operand} {ty:TypeId} {pos:String} {after:Array Edge} {B:Nat} {r:Rv} (hB:RB w B r)
 (hx:ac.eval x=.pointer (some ⟨B,5,none⟩)) (hy:ac.eval y=.agg #[.int .u8 a,.int .u8 b,.int .u8 c])
 (h:wpList Tryz.prog ops Q rest (ac.put dst undef) (w.setRow B (rcs { r with ka:=a,kb:=b,kc:=c }))):wpList Tryz.prog ops Q (Oper.mk dst (.store 45 x y) ty pos after none::rest) ac w :=
 wpList_store_part rfl 45 x y rfl B 5 #[.int .u8 a,.int .u8 b,.int .u8 c] hx hy 51 (rcs r) hB (by kernel_rfl) (by show 5+3≤20;omega) (by simp [Value.oneCell']) (by rw [show (#[.int .u8 a,.int .u8 b,.int .u8 c]:Array Value).toList=[.int .u8 a,.int .u8 b,.int .u8 c] from rfl,put_ky];exact h)
theorem rec_read1 (W:World) (N B:Nat) (Bs:List Nat) (hz:Zw W N B (0,Bs)) (hw:∀ w,Chg (fun k=>k=B) W w→Words w) (hk:(((numR ((0,Bs):St) 1).2:Nat):Int)=1):Calls Tryz.prog 92 #[.pointer (some ⟨B,0,none⟩)] W (z2b W B Bs):=by
 have HWD:=hid hw
 clear hw
 obtain⟨R,hR⟩:∃ R,W.heap.size=R:=⟨_,rfl⟩
 obtain⟨W0,hW0,hr0,hb0⟩:∃ W0,W.alloc (.cells zr 51)=W0∧RB W0 R rz∧Below W.heap.size W W0:=⟨_,rfl,by rw [← hR];exact z0b W _,(Below.refl _ _).alloc (Nat.le_refl _) _⟩
 have HZ0:=hid (hz.below hb0)
 have HRE:=hid hR
 have HW0:=hid hW0
 have HR0b:=hid hr0
 have HB0:=hid hb0
 have HNR:Hid (N≤R):=hid (by have:=hz.size;omega)
 obtain⟨R0,hR0⟩:∃ Q,numR ((0,Bs):St) 1=Q:=⟨_,rfl⟩
 have hn:=z2k HZ0.out 1
 have hf:=z4c (S:=(0,Bs)) HZ0.out.bytes
 rw [hR0] at hn hf hk
 have HR0:=hid hR0
 have hx0:IntKind.u8.wrap ((R0.2:Nat):Int)=(R0.2:Nat):=z2q hf
 rw [hk] at hn hx0
 have HKK:=hid hk
 clear hR hW0 hr0 hb0 hR0 hf hz hk
 go_enter Tryz.func92,Tryz.ntmps92
 go_upto_region 1 with (fail)
 rw [HW0.out,HRE.out]
 go_wp2_with fail
 refine hn.mono ?_
 rintro e w1 ⟨rfl,hz1,hc1⟩
 obtain⟨X,hX⟩:∃ X,w1.heap.size=X:=⟨_,rfl⟩
 have hRX:R<X:=by have:=z0j HR0b.out;have:=hc1.size;omega
 have hlow:=HZ0.out.low
 have hNR:=HNR.out
 have hres:=HR0b.out.chg hc1 (by omega)
 have hch0:Chg (fun k=>k=B) W w1:=(Chg.of_below (S:=fun k=>k=B) HB0.out).trans hc1 fun _ _ e=>e
 obtain⟨w1a,hw1a,hxa,hba⟩:∃ w1a,w1.alloc (.cells zr 51)=w1a∧RB w1a X rz∧Below w1.heap.size w1 w1a:=⟨_,rfl,by rw [← hX];exact z0b w1 _,(Below.refl _ _).alloc (Nat.le_refl _) _⟩
 have hQa:Qz W w1a N B R X R0.1 rz:=⟨hz1.below hba,hxa,hres.later hba,hch0.trans (Chg.of_below (S:=fun k=>k=B) hba) fun _ _ e=>e,by omega,hRX,by have:=HRE.out;omega⟩
 obtain⟨w2,hw2,hQ2⟩:∃ w2,w1a.setRow X (rcs (rk 1))=w2∧Qz W w2 N B R X R0.1 (rk 1):=⟨_,rfl,hQa.set _⟩
 have HXa:=hid hxa
 have HW1a:=hid hw1a
 have HW2:=hid hw2
 have HQ2:=hid hQ2
 have HXE:=hid hX
 clear hz1 hc1 hX hRX hlow hNR hres hch0 hw1a hxa hba hQa hw2 hQ2 hn
 have c0:w2.cell? ⟨X,0,none⟩=some (.int .u8 1):=z0a HQ2.out.x rfl
 go_wp2_with ((try rw [HXE.out]);(try rw [HW1a.out]);(with_reducible refine z0n (rk 1) HXa.out ?_ ?_ ?_);rfl;rfl;rw [HW2.out])
 have hpa:=z1e 1 w2
 unfold z1d at hpa
 rw [show ptc 1=#[.bool true,.bool false,.bool false,.bool false,.bool false,.bool true] from rfl,show kOk 1=true from rfl] at hpa
 refine hpa.mono ?_
 rintro e w3 ⟨rfl,h3⟩
 have HQ3:=hid (HQ2.out.later h3)
 clear h3 hpa c0 HQ2 hx0
 obtain⟨Pb,hPb⟩:∃ n,w3.heap.size=n:=⟨_,rfl⟩
 obtain⟨w4,hwn,hxn,hbn⟩:∃ w4,(w3.alloc (.cells pz 194)).setRow Pb #[.bool true,.bool false,.bool false,.bool false,.bool false,.bool true]=w4∧w4.heap[Pb]?=some (.cells #[.bool true,.bool false,.bool false,.bool false,.bool false,.bool true] 194 (0,0))∧Below w3.heap.size w3 w4:=⟨_,rfl,by rw [← hPb];exact setRow_heap _ _ _ _ _ _ (z0b w3 _),below_setRow ((Below.refl _ _).alloc (Nat.le_refl _) _) (by omega) _⟩
 have hxz:=z0b w3 (.cells pz 194)
 rw [hPb] at hxz
 have HQ4:Hid (Qp W w4 N B R X Pb #[.bool true,.bool false,.bool false,.bool false,.bool false,.bool true] R0.1 (rk 1)):=hid ⟨HQ3.out.later hbn,hxn,by have:=z0j HQ3.out.x;omega⟩
 have HPZ:=hid hxz
 have HWN:=hid hwn
 have HNN:=hid hPb
 have HS6:Hid ((#[.bool true,.bool false,.bool false,.bool false,.bool false,.bool true]:Array Value).size=6):=hid rfl
 have HA6:Hid ((#[.bool true,.bool false,.bool false,.bool false,.bool false,.bool true]:Array Value).all (·.oneCell')=true):=hid (by simp [Value.oneCell'])
 clear hxz hxn hbn hwn hPb HQ3
 have p0:=HQ4.out.c (j:=0) (v:=.bool true) rfl
 have p1:=HQ4.out.c (j:=1) (v:=.bool false) rfl
 have p2:=HQ4.out.c (j:=2) (v:=.bool false) rfl
 have p3:=HQ4.out.c (j:=3) (v:=.bool false) rfl
 have p4:=HQ4.out.c (j:=4) (v:=.bool false) rfl
 have p5:=HQ4.out.c (j:=5) (v:=.bool true) rfl
 go_wp2_with ((try rw [HNN.out]);(with_reducible refine z0l #[.bool true,.bool false,.bool false,.bool false,.bool false,.bool true] HS6.out HA6.out HPZ.out ?_ ?_ ?_);rfl;rfl;rw [HWN.out])
 have hn:=z2k HQ4.out.q.z 4
 obtain⟨Qsg,hQsg⟩:∃ Q,numR R0.1 4=Q:=⟨_,rfl⟩
 have hf:=z8u HQ4.out.q.z.bytes
 rw [hQsg] at hn hf
 have hxsg:IntKind.u32.wrap ((Qsg.2:Nat):Int)=(Qsg.2:Nat):=z3y hf
 clear hf
 have HQsg:=hid hQsg
 clear hQsg
 refine hn.mono ?_
 rintro e y5 ⟨rfl,hz,hc⟩
 have HQb:=hid (HQ4.out.low hz hc)
 clear hz hc hn HQ4
 clear p0 p1 p2 p3 p4 p5
 obtain⟨cy,cf⟩:=HQb.out.q.cx (j:=1) (v:=.int .u32 0) rfl
 go_upto_region 7 with (fail)
 clear cy cf hxsg
 have hq:=HQb.out.put 1 (.int .u32 ((Qsg.2:Nat):Int)) (rm 1 ((Qsg.2:Nat):Int) 0 0 false 0 0 0 0 0) rfl
 generalize y5.setCell ⟨X,1,none⟩ (.int .u32 ((Qsg.2:Nat):Int))=w5 at *
 have HQ5:=hid hq
 clear hq HQb
 have p0:=HQ5.out.c (j:=0) (v:=.bool true) rfl
 have p1:=HQ5.out.c (j:=1) (v:=.bool false) rfl
 have p2:=HQ5.out.c (j:=2) (v:=.bool false) rfl
 have p3:=HQ5.out.c (j:=3) (v:=.bool false) rfl
 have p4:=HQ5.out.c (j:=4) (v:=.bool false) rfl
 have p5:=HQ5.out.c (j:=5) (v:=.bool true) rfl
 have hn:=zw_bytes HQ5.out.q.z 512
 have hmost:=bytesR_most Qsg.1
 have hblt:=bytesR_lt HQ5.out.q.z.bytes 512
 obtain⟨Qb,hQb⟩:∃ Q,z3u Qsg.1 512=Q:=⟨_,rfl⟩
 rw [hQb] at hn hmost hblt
 have HQb:=hid hQb
 have HMO:=hid hmost
 have HBL:=hid hblt
 clear hQb hmost hblt
 go_wp2_with fail
 refine hn.mono ?_
 rintro e w6 ⟨pq,cq,rfl,hsq,hz,hc⟩
 have HQ6:=hid (HQ5.out.low hz hc)
 have HSQ:=hid hsq
 clear hn hz hc hsq HQ5
 clear p0 p1 p2 p3 p4 p5
 obtain⟨S2,Y⟩:=Qb
 dsimp only at HQ6 HSQ HMO HBL
 generalize hny:Y.length=ny at *
 have HNY:=hid hny
 clear hny
 go_wp2_with fail
 refine (zw_err HQ6.out.q.z).mono ?_
 rintro e wz ⟨rfl,rfl⟩
 by_cases he:S2.1=0
 case neg =>
  have de:(S2.1 != 0)=true:=by simpa using he
  have HNE:Hid (S2.1≠0):=hid he
  have HRD:=hid (z9y (D:=⟨S2,{ noX with k:=1,sg:=((Qsg.2:Nat):Int) },0⟩) HR0.out HKK.out rfl (by
   rw [show rdX 1 R0.1=rd1 R0.1 from rfl]
   unfold rd1
   rw [HQsg.out]
   dsimp only
   rw [HQb.out,if_neg he]))
  clear he
  have HRF:Hid (RB (w6.setRow R (rcs (rm 1 ((Qsg.2:Nat):Int) 0 0 false 0 0 0 0 0))) R (rm 1 ((Qsg.2:Nat):Int) 0 0 false 0 0 0 0 0)):=hid (HQ6.out.q.res.set _)
  have HG:Hid (z2b W B Bs (.returned (.tuple #[.agg (rcs (rm 1 ((Qsg.2:Nat):Int) 0 0 false 0 0 0 0 0)),.int .i64 S2.1])) (w6.setRow R (rcs (rm 1 ((Qsg.2:Nat):Int) 0 0 false 0 0 0 0 0)))):=hid (by
   have ho:=HQ6.out.q.ord
   have hcc:Chg (fun k=>k=B) W (w6.setRow R (rcs (rm 1 ((Qsg.2:Nat):Int) 0 0 false 0 0 0 0 0))):=HQ6.out.q.chg.trans (T:=fun k=>k=R) ⟨rfl,rfl,rfl,by simp [World.setRow],fun k _ hn=>setRow_other _ _ _ _ hn⟩ fun k hk e=>by omega
   have hE:z4h Bs=S2.1:=HRD.out.1.trans (by unfold rdE endR;rw [if_pos rfl,if_neg (fun h=>HNE.out h.1)])
   exact⟨(rm 1 ((Qsg.2:Nat):Int) 0 0 false 0 0 0 0 0),[],[],[],by rw [hE],z2e _ _ _ _ _ _ _ _ _ _ _,fun h=>absurd (hE.symm.trans h) HNE.out,hcc,(fun a h=>by have h':(none:Option Addr)=some a:=h;cases h'),(fun a h=>by have h':(none:Option Addr)=some a:=h;cases h'),(fun a h=>by have h':(none:Option Addr)=some a:=h;cases h')⟩)
  go_wp2_with (first | ((with_reducible refine z0z HQ6.out.q.x ?_ ?_);rfl) | ((with_reducible refine z0n (rm 1 ((Qsg.2:Nat):Int) 0 0 false 0 0 0 0 0) HQ6.out.q.res ?_ ?_ ?_);rfl;rfl))
  (try simp only [Exit.inBlock,Exit.then])
  refine bodyPost_ret (v:=.tuple #[.agg (rcs (rm 1 ((Qsg.2:Nat):Int) 0 0 false 0 0 0 0 0)),.int .i64 S2.1]) ?_ rfl HG.out
  exact z1l rfl _ _ R (rm 1 ((Qsg.2:Nat):Int) 0 0 false 0 0 0 0 0) _ rfl rfl HRF.out
 have de:(S2.1 != 0)=false:=by simp [he]
 have HZE:=hid he
 clear he
 go_wp2_with fail
 have hdc:=zdecode2 pq ny cq Y w6 (HWD.out w6 HQ6.out.q.chg) HSQ.out (by have:=HMO.out;omega)
 refine hdc.mono ?_
 rintro e w7 ⟨lp5,lc5,tp5,tc5,wp5,wc5,rfl,hP5,hb5,hf1,hf2,hf3⟩
 have hxl:=z0j HQ6.out.q.x
 have HFR:Hid ((∀ a,lp5=some a→X<a.block)∧(∀ a,tp5=some a→X<a.block)∧(∀ a,wp5=some a→X<a.block)):=hid ⟨fun a h=>by have:=hf1 a h;omega,fun a h=>by have:=hf2 a h;omega,fun a h=>by have:=hf3 a h;omega⟩
 clear hf1 hf2 hf3 hxl
 have HQ7:=hid (HQ6.out.later hb5)
 clear hb5 hdc HQ6 HSQ
 generalize hdp:decP Y=dp at *
 have HDP:=hid hdp
 clear hdp
 obtain⟨er,k2,od2,po2,L2,T2,M2,sk2,fr2,to2,q2⟩:=dp
 dsimp only at hP5 ⊢
 generalize hl5:L2.length=ln5 at *
 generalize ht5:T2.length=tn5 at *
 generalize hw5:M2.length=wn5 at *
 clear hl5 ht5 hw5
 have HP5:=hid hP5
 clear hP5
 obtain⟨pv,hpv⟩:∃ pv:Rv,pv=⟨0,0,0,0,false,0,0,0,0,0,k2,od2,po2,lp5,ln5,lc5,tp5,tn5,tc5,wp5,wn5,wc5,sk2,fr2,to2,q2⟩:=⟨_,rfl⟩
 have HPV:=hid hpv
 obtain⟨rr,hrr⟩:∃ rr:Rv,Rv.withP (rm 1 ((Qsg.2:Nat):Int) 0 0 false 0 0 0 0 0) pv=rr:=⟨_,rfl⟩
 have HRR:=hid hrr
 obtain⟨w8,hwn,hQn⟩:∃ w8,w7.setRow X (rcs rr)=w8∧Qp W w8 N B R X Pb #[.bool true,.bool false,.bool false,.bool false,.bool false,.bool true] S2 rr:=⟨_,rfl,HQ7.out.set _⟩
 have HWx:=hid hwn
 have HQ8:=hid hQn
 have hcn:Chg (fun k=>k=X) w7 w8:=by rw [← hwn];exact⟨rfl,rfl,rfl,by simp [World.setRow],fun k _ hn=>setRow_other _ _ _ _ hn⟩
 have HCN:=hid hcn
 clear hpv hrr hwn hQn hcn
 have hm8:RvM w8 rr L2 T2 M2:=by
  have hp8:=q0p HP5.out HCN.out (fun a h e=>by have:=HFR.out.1 a h;omega) (fun a h e=>by have:=HFR.out.2.1 a h;omega) (fun a h e=>by have:=HFR.out.2.2 a h;omega)
  rw [← HRR.out,HPV.out]
  exact hp8
 have HM8:=hid hm8
 have hfr:(∀ a,rr.lp=some a→X<a.block)∧(∀ a,rr.tp=some a→X<a.block)∧(∀ a,rr.wp=some a→X<a.block):=by
  rw [← HRR.out,HPV.out]
  exact HFR.out
 have HFX:=hid hfr
 have HRD:=hid (z9y (D:=⟨S2,{ noX with k:=1,sg:=((Qsg.2:Nat):Int),pg:=⟨k2,od2,po2,L2,T2,M2,sk2,fr2,to2,q2⟩ },er⟩) HR0.out HKK.out rfl (by
  rw [show rdX 1 R0.1=rd1 R0.1 from rfl]
  unfold rd1
  rw [HQsg.out]
  dsimp only
  rw [HQb.out,if_pos HZE.out]
  dsimp only
  rw [HDP.out]))
 have HXX:Hid (rr.x L2 T2 M2={ noX with k:=1,sg:=((Qsg.2:Nat):Int),pg:=⟨k2,od2,po2,L2,T2,M2,sk2,fr2,to2,q2⟩ }):=hid (by rw [← HRR.out,HPV.out];rfl)
 clear hm8 hfr
 go_upto_region 24 with ((with_reducible refine wpList_store_pr pv HQ7.out.q.x ?_ ?_ ?_);rfl;(rw [HPV.out];rfl);rw [HRR.out,HWx.out])
 clear HPV HRR HWx HCN HP5 HQ7 HFR de
 by_cases he:er=0
 case neg =>
  have de:(er != 0)=true:=by simpa using he
  have HNE:Hid (er≠0):=hid he
  clear he
  have HRF:Hid (RB (w8.setRow R (rcs rr)) R rr):=hid (HQ8.out.q.res.set _)
  have HG:Hid (z2b W B Bs (.returned (.tuple #[.agg (rcs rr),.int .i64 er])) (w8.setRow R (rcs rr))):=hid (by
   have ho:=HQ8.out.q.ord
   have hcc:Chg (fun k=>k=B) W (w8.setRow R (rcs rr)):=HQ8.out.q.chg.trans (T:=fun k=>k=R) ⟨rfl,rfl,rfl,by simp [World.setRow],fun k _ hn=>setRow_other _ _ _ _ hn⟩ fun k hk e=>by omega
   have hE:z4h Bs=er:=HRD.out.1.trans (by unfold rdE;rw [if_neg HNE.out])
   exact⟨rr,L2,T2,M2,by rw [hE],q0p HM8.out (S:=fun k=>k=R) ⟨rfl,rfl,rfl,by simp [World.setRow],fun k _ hn=>setRow_other _ _ _ _ hn⟩ (fun a h e=>by have:=HFX.out.1 a h;omega) (fun a h e=>by have:=HFX.out.2.1 a h;omega) (fun a h e=>by have:=HFX.out.2.2 a h;omega),fun h=>absurd (hE.symm.trans h) HNE.out,hcc,fun a h=>by have:=HFX.out.1 a h;omega,fun a h=>by have:=HFX.out.2.1 a h;omega,fun a h=>by have:=HFX.out.2.2 a h;omega⟩)
  go_wp2_with (first | ((with_reducible refine z0z HQ8.out.q.x ?_ ?_);rfl) | ((with_reducible refine z0n rr HQ8.out.q.res ?_ ?_ ?_);rfl;rfl))
  (try simp only [Exit.inBlock,Exit.then])
  refine bodyPost_ret (v:=.tuple #[.agg (rcs rr),.int .i64 er]) ?_ rfl HG.out
  exact z1l rfl _ _ R rr _ rfl rfl HRF.out
 subst he
 go_wp2_with fail
 have HXn:=hid HQ8.out.q.x
 have hd:=HQ8.out.later (show Below w8.heap.size w8 w8.drew from (Below.refl _ _).drew)
 have HQd:=hid hd
 have HBX:Hid (RB w8.drew X rr):=hid hd.q.x
 clear hd
 have HM9:Hid (RvM w8.drew rr L2 T2 M2):=hid (PgM.later HM8.out (show Below w8.heap.size w8 w8.drew from (Below.refl _ _).drew))
 refine wp_region_held_drew (S:=fun w'=>Hid (RB w' X rr)) (by kernel_rfl) HBX (fun hHeld=>?_)
 refine wpAnyH_take (i:=0) (oi:=⟨some 90,_,_,_,_,_⟩) (v:=.agg (rcs rr)) rfl (by kernel_rfl) (by kernel_rfl) (by kernel_rfl) (fun _ _ _ h=>h) (Or.inl ⟨by rfl,fun w' hw'=>z1w rfl (Hid.out hw')⟩) (by assumption) ?_
 simp only [Act.put,sIB,sCZ,sCS]
 refine wpAnyH_take (i:=1) (oi:=⟨some 91,_,_,_,_,_⟩) (v:=.pointer (some ⟨B,0,none⟩)) rfl (by kernel_rfl) (by kernel_rfl) (by kernel_rfl) (fun _ _ _ h=>h) (Or.inl ⟨by rfl,fun w' hw'=>?_⟩) (by assumption) ?_
 · clear hHeld
   go_simp
 simp only [Act.put,sIB,sCZ,sCS]
 generalize w8.drew=Wd at *
 refine wpAnyH_ready (rs:=[2]) (by kernel_rfl) (by simp) (AllReadyH.cons rfl (fun K hK=>?_) AllReadyH.nil)
 go_simp
 go_wp2_with fail
 refine (z7c HQd.out.q.z).mono ?_
 rintro e wz ⟨rfl,rfl⟩
 go_wp2_with fail
 refine hK.out _ _ HBX (fun hHeld2=>?_)
 clear hK K hHeld
 have hHeld:=hHeld2
 clear hHeld2
 (try simp only [Act.put,sIB,sCZ,sCS])
 refine wpAnyH_ready (rs:=[3]) (by kernel_rfl) (by simp) (AllReadyH.cons rfl (fun K hK=>?_) AllReadyH.nil)
 rw [if_pos (by rfl)]
 refine wp_store_row 51 _ _ rfl R (rcs rr) rfl rfl 51 _ HQd.out.q.res (by kernel_rfl) rfl (z4e _) ?_
 have HB2:Hid (RB (Wd.setRow R (rcs rr)) X rr):=hid ((setRow_other _ _ _ _ (by have:=HQd.out.q.ord;omega)).trans HBX.out)
 refine hK.out _ _ HB2 (fun hHeld2=>?_)
 clear hK K hHeld
 have hHeld:=hHeld2
 clear hHeld2
 (try simp only [Act.put,sIB,sCZ,sCS])
 refine wpAnyH_take (i:=4) (oi:=⟨some 3,_,_,_,_,_⟩) (v:=.int .i64 (endR S2)) rfl (by kernel_rfl) (by kernel_rfl) (by kernel_rfl) (fun _ _ _ h=>h) (Or.inl ⟨by rfl,fun w' hw'=>?_⟩) (by assumption) ?_
 · clear hHeld
   go_simp
 simp only [Act.put,sIB,sCZ,sCS]
 refine wpAnyH_done (by kernel_rfl) ?_ _
 clear hHeld
 have HRF:Hid (RB (Wd.setRow R (rcs rr)) R rr):=hid (HQd.out.q.res.set _)
 have HG:Hid (z2b W B Bs (.returned (.tuple #[.agg (rcs rr),.int .i64 (endR S2)])) (Wd.setRow R (rcs rr))):=hid (by
  have ho:=HQd.out.q.ord
  have hcc:Chg (fun k=>k=B) W (Wd.setRow R (rcs rr)):=HQd.out.q.chg.trans (T:=fun k=>k=R) ⟨rfl,rfl,rfl,by simp [World.setRow],fun k _ hn=>setRow_other _ _ _ _ hn⟩ fun k hk e=>by omega
  have hE:z4h Bs=endR S2:=HRD.out.1
  refine⟨rr,L2,T2,M2,by rw [hE],q0p HM9.out (S:=fun k=>k=R) ⟨rfl,rfl,rfl,by simp [World.setRow],fun k _ hn=>setRow_other _ _ _ _ hn⟩ (fun a h e=>by have:=HFX.out.1 a h;omega) (fun a h e=>by have:=HFX.out.2.1 a h;omega) (fun a h e=>by have:=HFX.out.2.2 a h;omega),fun _=>?_,hcc,fun a h=>by have:=HFX.out.1 a h;have:=HQd.out.q.ord;omega,fun a h=>by have:=HFX.out.2.1 a h;have:=HQd.out.q.ord;omega,fun a h=>by have:=HFX.out.2.2 a h;have:=HQd.out.q.ord;omega⟩
  rw [HRD.out.2]
  exact HXX.out)
 go_wp2_with fail
 refine bodyPost_ret (v:=.tuple #[.agg (rcs rr),.int .i64 (endR S2)]) ?_ rfl HG.out
 exact z1l rfl _ _ R rr _ rfl rfl HRF.out
theorem rec_read2 (W:World) (N B:Nat) (Bs:List Nat) (hz:Zw W N B (0,Bs)) (hk:(((numR ((0,Bs):St) 1).2:Nat):Int)=2):Calls Tryz.prog 92 #[.pointer (some ⟨B,0,none⟩)] W (z2b W B Bs):=by
 obtain⟨R,hR⟩:∃ R,W.heap.size=R:=⟨_,rfl⟩
 obtain⟨W0,hW0,hr0,hb0⟩:∃ W0,W.alloc (.cells zr 51)=W0∧RB W0 R rz∧Below W.heap.size W W0:=⟨_,rfl,by rw [← hR];exact z0b W _,(Below.refl _ _).alloc (Nat.le_refl _) _⟩
 have HZ0:=hid (hz.below hb0)
 have HRE:=hid hR
 have HW0:=hid hW0
 have HR0b:=hid hr0
 have HB0:=hid hb0
 have HNR:Hid (N≤R):=hid (by have:=hz.size;omega)
 obtain⟨R0,hR0⟩:∃ Q,numR ((0,Bs):St) 1=Q:=⟨_,rfl⟩
 have hn:=z2k HZ0.out 1
 have hf:=z4c (S:=(0,Bs)) HZ0.out.bytes
 rw [hR0] at hn hf hk
 have HR0:=hid hR0
 have hx0:IntKind.u8.wrap ((R0.2:Nat):Int)=(R0.2:Nat):=z2q hf
 rw [hk] at hn hx0
 have HKK:=hid hk
 clear hR hW0 hr0 hb0 hR0 hf hz hk
 go_enter Tryz.func92,Tryz.ntmps92
 go_upto_region 1 with (fail)
 rw [HW0.out,HRE.out]
 go_wp2_with fail
 refine hn.mono ?_
 rintro e w1 ⟨rfl,hz1,hc1⟩
 obtain⟨X,hX⟩:∃ X,w1.heap.size=X:=⟨_,rfl⟩
 have hRX:R<X:=by have:=z0j HR0b.out;have:=hc1.size;omega
 have hlow:=HZ0.out.low
 have hNR:=HNR.out
 have hres:=HR0b.out.chg hc1 (by omega)
 have hch0:Chg (fun k=>k=B) W w1:=(Chg.of_below (S:=fun k=>k=B) HB0.out).trans hc1 fun _ _ e=>e
 obtain⟨w1a,hw1a,hxa,hba⟩:∃ w1a,w1.alloc (.cells zr 51)=w1a∧RB w1a X rz∧Below w1.heap.size w1 w1a:=⟨_,rfl,by rw [← hX];exact z0b w1 _,(Below.refl _ _).alloc (Nat.le_refl _) _⟩
 have hQa:Qz W w1a N B R X R0.1 rz:=⟨hz1.below hba,hxa,hres.later hba,hch0.trans (Chg.of_below (S:=fun k=>k=B) hba) fun _ _ e=>e,by omega,hRX,by have:=HRE.out;omega⟩
 obtain⟨w2,hw2,hQ2⟩:∃ w2,w1a.setRow X (rcs (rk 2))=w2∧Qz W w2 N B R X R0.1 (rk 2):=⟨_,rfl,hQa.set _⟩
 have HXa:=hid hxa
 have HW1a:=hid hw1a
 have HW2:=hid hw2
 have HQ2:=hid hQ2
 have HXE:=hid hX
 clear hz1 hc1 hX hRX hlow hNR hres hch0 hw1a hxa hba hQa hw2 hQ2 hn
 have c0:w2.cell? ⟨X,0,none⟩=some (.int .u8 2):=z0a HQ2.out.x rfl
 go_wp2_with ((try rw [HXE.out]);(try rw [HW1a.out]);(with_reducible refine z0n (rk 2) HXa.out ?_ ?_ ?_);rfl;rfl;rw [HW2.out])
 have hpa:=z1e 2 w2
 unfold z1d at hpa
 rw [show ptc 2=#[.bool true,.bool true,.bool true,.bool false,.bool false,.bool false] from rfl,show kOk 2=true from rfl] at hpa
 refine hpa.mono ?_
 rintro e w3 ⟨rfl,h3⟩
 have HQ3:=hid (HQ2.out.later h3)
 clear h3 hpa c0 HQ2 hx0
 obtain⟨Pb,hPb⟩:∃ n,w3.heap.size=n:=⟨_,rfl⟩
 obtain⟨w4,hwn,hxn,hbn⟩:∃ w4,(w3.alloc (.cells pz 194)).setRow Pb #[.bool true,.bool true,.bool true,.bool false,.bool false,.bool false]=w4∧w4.heap[Pb]?=some (.cells #[.bool true,.bool true,.bool true,.bool false,.bool false,.bool false] 194 (0,0))∧Below w3.heap.size w3 w4:=⟨_,rfl,by rw [← hPb];exact setRow_heap _ _ _ _ _ _ (z0b w3 _),below_setRow ((Below.refl _ _).alloc (Nat.le_refl _) _) (by omega) _⟩
 have hxz:=z0b w3 (.cells pz 194)
 rw [hPb] at hxz
 have HQ4:Hid (Qp W w4 N B R X Pb #[.bool true,.bool true,.bool true,.bool false,.bool false,.bool false] R0.1 (rk 2)):=hid ⟨HQ3.out.later hbn,hxn,by have:=z0j HQ3.out.x;omega⟩
 have HPZ:=hid hxz
 have HWN:=hid hwn
 have HNN:=hid hPb
 have HS6:Hid ((#[.bool true,.bool true,.bool true,.bool false,.bool false,.bool false]:Array Value).size=6):=hid rfl
 have HA6:Hid ((#[.bool true,.bool true,.bool true,.bool false,.bool false,.bool false]:Array Value).all (·.oneCell')=true):=hid (by simp [Value.oneCell'])
 clear hxz hxn hbn hwn hPb HQ3
 have p0:=HQ4.out.c (j:=0) (v:=.bool true) rfl
 have p1:=HQ4.out.c (j:=1) (v:=.bool true) rfl
 have p2:=HQ4.out.c (j:=2) (v:=.bool true) rfl
 have p3:=HQ4.out.c (j:=3) (v:=.bool false) rfl
 have p4:=HQ4.out.c (j:=4) (v:=.bool false) rfl
 have p5:=HQ4.out.c (j:=5) (v:=.bool false) rfl
 go_wp2_with ((try rw [HNN.out]);(with_reducible refine z0l #[.bool true,.bool true,.bool true,.bool false,.bool false,.bool false] HS6.out HA6.out HPZ.out ?_ ?_ ?_);rfl;rfl;rw [HWN.out])
 have hn:=z2k HQ4.out.q.z 4
 obtain⟨Qsg,hQsg⟩:∃ Q,numR R0.1 4=Q:=⟨_,rfl⟩
 have hf:=z8u HQ4.out.q.z.bytes
 rw [hQsg] at hn hf
 have hxsg:IntKind.u32.wrap ((Qsg.2:Nat):Int)=(Qsg.2:Nat):=z3y hf
 clear hf
 have HQsg:=hid hQsg
 clear hQsg
 refine hn.mono ?_
 rintro e y5 ⟨rfl,hz,hc⟩
 have HQb:=hid (HQ4.out.low hz hc)
 clear hz hc hn HQ4
 clear p0 p1 p2 p3 p4 p5
 obtain⟨cy,cf⟩:=HQb.out.q.cx (j:=1) (v:=.int .u32 0) rfl
 go_upto_region 7 with (fail)
 clear cy cf hxsg
 have hq:=HQb.out.put 1 (.int .u32 ((Qsg.2:Nat):Int)) (rm 2 ((Qsg.2:Nat):Int) 0 0 false 0 0 0 0 0) rfl
 generalize y5.setCell ⟨X,1,none⟩ (.int .u32 ((Qsg.2:Nat):Int))=w5 at *
 have HQ5:=hid hq
 clear hq HQb
 have p0:=HQ5.out.c (j:=0) (v:=.bool true) rfl
 have p1:=HQ5.out.c (j:=1) (v:=.bool true) rfl
 have p2:=HQ5.out.c (j:=2) (v:=.bool true) rfl
 have p3:=HQ5.out.c (j:=3) (v:=.bool false) rfl
 have p4:=HQ5.out.c (j:=4) (v:=.bool false) rfl
 have p5:=HQ5.out.c (j:=5) (v:=.bool false) rfl
 go_wp2_with fail
 have hn:=z2k HQ5.out.q.z 4
 obtain⟨Qtx,hQtx⟩:∃ Q,numR Qsg.1 4=Q:=⟨_,rfl⟩
 have hf:=z8u HQ5.out.q.z.bytes
 rw [hQtx] at hn hf
 have hxtx:IntKind.u32.wrap ((Qtx.2:Nat):Int)=(Qtx.2:Nat):=z3y hf
 clear hf
 have HQtx:=hid hQtx
 clear hQtx
 refine hn.mono ?_
 rintro e y6 ⟨rfl,hz,hc⟩
 have HQb:=hid (HQ5.out.low hz hc)
 clear hz hc hn HQ5
 clear p0 p1 p2 p3 p4 p5
 obtain⟨cy,cf⟩:=HQb.out.q.cx (j:=2) (v:=.int .u32 0) rfl
 go_upto_region 9 with (fail)
 clear cy cf hxtx
 have hq:=HQb.out.put 2 (.int .u32 ((Qtx.2:Nat):Int)) (rm 2 ((Qsg.2:Nat):Int) ((Qtx.2:Nat):Int) 0 false 0 0 0 0 0) rfl
 generalize y6.setCell ⟨X,2,none⟩ (.int .u32 ((Qtx.2:Nat):Int))=w6 at *
 have HQ6:=hid hq
 clear hq HQb
 have p0:=HQ6.out.c (j:=0) (v:=.bool true) rfl
 have p1:=HQ6.out.c (j:=1) (v:=.bool true) rfl
 have p2:=HQ6.out.c (j:=2) (v:=.bool true) rfl
 have p3:=HQ6.out.c (j:=3) (v:=.bool false) rfl
 have p4:=HQ6.out.c (j:=4) (v:=.bool false) rfl
 have p5:=HQ6.out.c (j:=5) (v:=.bool false) rfl
 go_wp2_with fail
 have hn:=z2k HQ6.out.q.z 1
 obtain⟨Qst,hQst⟩:∃ Q,numR Qtx.1 1=Q:=⟨_,rfl⟩
 have hf:=z4c HQ6.out.q.z.bytes
 rw [hQst] at hn hf
 have hxst:IntKind.u8.wrap ((Qst.2:Nat):Int)=(Qst.2:Nat):=z2q hf
 clear hf
 have HQst:=hid hQst
 clear hQst
 refine hn.mono ?_
 rintro e y7 ⟨rfl,hz,hc⟩
 have HQb:=hid (HQ6.out.low hz hc)
 clear hz hc hn HQ6
 clear p0 p1 p2 p3 p4 p5
 obtain⟨cy,cf⟩:=HQb.out.q.cx (j:=3) (v:=.int .u8 0) rfl
 go_upto_region 11 with (fail)
 clear cy cf hxst
 have hq:=HQb.out.put 3 (.int .u8 ((Qst.2:Nat):Int)) (rm 2 ((Qsg.2:Nat):Int) ((Qtx.2:Nat):Int) ((Qst.2:Nat):Int) false 0 0 0 0 0) rfl
 generalize y7.setCell ⟨X,3,none⟩ (.int .u8 ((Qst.2:Nat):Int))=w7 at *
 have HQ7:=hid hq
 clear hq HQb
 have p0:=HQ7.out.c (j:=0) (v:=.bool true) rfl
 have p1:=HQ7.out.c (j:=1) (v:=.bool true) rfl
 have p2:=HQ7.out.c (j:=2) (v:=.bool true) rfl
 have p3:=HQ7.out.c (j:=3) (v:=.bool false) rfl
 have p4:=HQ7.out.c (j:=4) (v:=.bool false) rfl
 have p5:=HQ7.out.c (j:=5) (v:=.bool false) rfl
 go_wp2_with fail
 have hn:=zw_bool HQ7.out.q.z
 obtain⟨Qcp,hQcp⟩:∃ Q,z9w Qst.1=Q:=⟨_,rfl⟩
 rw [hQcp] at hn
 have HQcp:=hid hQcp
 clear hQcp
 refine hn.mono ?_
 rintro e y8 ⟨rfl,hz,hc⟩
 have HQb:=hid (HQ7.out.low hz hc)
 clear hz hc hn HQ7
 clear p0 p1 p2 p3 p4 p5
 obtain⟨cy,cf⟩:=HQb.out.q.cx (j:=4) (v:=.bool false) rfl
 go_upto_region 12 with (fail)
 clear cy cf
 have hq:=HQb.out.put 4 (.bool Qcp.2) (rm 2 ((Qsg.2:Nat):Int) ((Qtx.2:Nat):Int) ((Qst.2:Nat):Int) Qcp.2 0 0 0 0 0) rfl
 generalize y8.setCell ⟨X,4,none⟩ (.bool Qcp.2)=w8 at *
 have HQ8:=hid hq
 clear hq HQb
 have p0:=HQ8.out.c (j:=0) (v:=.bool true) rfl
 have p1:=HQ8.out.c (j:=1) (v:=.bool true) rfl
 have p2:=HQ8.out.c (j:=2) (v:=.bool true) rfl
 have p3:=HQ8.out.c (j:=3) (v:=.bool false) rfl
 have p4:=HQ8.out.c (j:=4) (v:=.bool false) rfl
 have p5:=HQ8.out.c (j:=5) (v:=.bool false) rfl
 have HRD:=hid (z9y (D:=⟨Qcp.1,{ noX with k:=2,sg:=((Qsg.2:Nat):Int),tx:=((Qtx.2:Nat):Int),st:=((Qst.2:Nat):Int),cp:=Qcp.2,key:=(0,0,0),d:=0,o:=0 },0⟩) HR0.out HKK.out rfl (by
  simp [rdX,rd2,keyR,HQsg.out,HQtx.out,HQst.out,HQcp.out,noX]))
 go_wp2_with fail
 clear p0 p1 p2 p3 p4 p5
 have HXn:=hid HQ8.out.q.x
 have hd:=HQ8.out.later (show Below w8.heap.size w8 w8.drew from (Below.refl _ _).drew)
 have HQd:=hid hd
 have HBX:Hid (RB w8.drew X (rm 2 ((Qsg.2:Nat):Int) ((Qtx.2:Nat):Int) ((Qst.2:Nat):Int) Qcp.2 0 0 0 0 0)):=hid hd.q.x
 clear hd
 refine wp_region_held_drew (S:=fun w'=>Hid (RB w' X (rm 2 ((Qsg.2:Nat):Int) ((Qtx.2:Nat):Int) ((Qst.2:Nat):Int) Qcp.2 0 0 0 0 0))) (by kernel_rfl) HBX (fun hHeld=>?_)
 refine wpAnyH_take (i:=0) (oi:=⟨some 90,_,_,_,_,_⟩) (v:=.agg (rcs (rm 2 ((Qsg.2:Nat):Int) ((Qtx.2:Nat):Int) ((Qst.2:Nat):Int) Qcp.2 0 0 0 0 0))) rfl (by kernel_rfl) (by kernel_rfl) (by kernel_rfl) (fun _ _ _ h=>h) (Or.inl ⟨by rfl,fun w' hw'=>z1w rfl (Hid.out hw')⟩) (by assumption) ?_
 simp only [Act.put,sIB,sCZ,sCS]
 refine wpAnyH_take (i:=1) (oi:=⟨some 91,_,_,_,_,_⟩) (v:=.pointer (some ⟨B,0,none⟩)) rfl (by kernel_rfl) (by kernel_rfl) (by kernel_rfl) (fun _ _ _ h=>h) (Or.inl ⟨by rfl,fun w' hw'=>?_⟩) (by assumption) ?_
 · clear hHeld
   go_simp
 simp only [Act.put,sIB,sCZ,sCS]
 generalize w8.drew=Wd at *
 refine wpAnyH_ready (rs:=[2]) (by kernel_rfl) (by simp) (AllReadyH.cons rfl (fun K hK=>?_) AllReadyH.nil)
 go_simp
 go_wp2_with fail
 refine (z7c HQd.out.q.z).mono ?_
 rintro e wz ⟨rfl,rfl⟩
 go_wp2_with fail
 refine hK.out _ _ HBX (fun hHeld2=>?_)
 clear hK K hHeld
 have hHeld:=hHeld2
 clear hHeld2
 (try simp only [Act.put,sIB,sCZ,sCS])
 refine wpAnyH_ready (rs:=[3]) (by kernel_rfl) (by simp) (AllReadyH.cons rfl (fun K hK=>?_) AllReadyH.nil)
 rw [if_pos (by rfl)]
 refine wp_store_row 51 _ _ rfl R (rcs (rm 2 ((Qsg.2:Nat):Int) ((Qtx.2:Nat):Int) ((Qst.2:Nat):Int) Qcp.2 0 0 0 0 0)) rfl rfl 51 _ HQd.out.q.res (by kernel_rfl) rfl (z4e _) ?_
 have HB2:Hid (RB (Wd.setRow R (rcs (rm 2 ((Qsg.2:Nat):Int) ((Qtx.2:Nat):Int) ((Qst.2:Nat):Int) Qcp.2 0 0 0 0 0))) X (rm 2 ((Qsg.2:Nat):Int) ((Qtx.2:Nat):Int) ((Qst.2:Nat):Int) Qcp.2 0 0 0 0 0)):=hid ((setRow_other _ _ _ _ (by have:=HQd.out.q.ord;omega)).trans HBX.out)
 refine hK.out _ _ HB2 (fun hHeld2=>?_)
 clear hK K hHeld
 have hHeld:=hHeld2
 clear hHeld2
 (try simp only [Act.put,sIB,sCZ,sCS])
 refine wpAnyH_take (i:=4) (oi:=⟨some 3,_,_,_,_,_⟩) (v:=.int .i64 (endR Qcp.1)) rfl (by kernel_rfl) (by kernel_rfl) (by kernel_rfl) (fun _ _ _ h=>h) (Or.inl ⟨by rfl,fun w' hw'=>?_⟩) (by assumption) ?_
 · clear hHeld
   go_simp
 simp only [Act.put,sIB,sCZ,sCS]
 refine wpAnyH_done (by kernel_rfl) ?_ _
 clear hHeld
 have HRF:Hid (RB (Wd.setRow R (rcs (rm 2 ((Qsg.2:Nat):Int) ((Qtx.2:Nat):Int) ((Qst.2:Nat):Int) Qcp.2 0 0 0 0 0))) R (rm 2 ((Qsg.2:Nat):Int) ((Qtx.2:Nat):Int) ((Qst.2:Nat):Int) Qcp.2 0 0 0 0 0)):=hid (HQd.out.q.res.set _)
 have HG:Hid (z2b W B Bs (.returned (.tuple #[.agg (rcs (rm 2 ((Qsg.2:Nat):Int) ((Qtx.2:Nat):Int) ((Qst.2:Nat):Int) Qcp.2 0 0 0 0 0)),.int .i64 (endR Qcp.1)])) (Wd.setRow R (rcs (rm 2 ((Qsg.2:Nat):Int) ((Qtx.2:Nat):Int) ((Qst.2:Nat):Int) Qcp.2 0 0 0 0 0)))):=hid (by
  have ho:=HQd.out.q.ord
  have hcc:Chg (fun k=>k=B) W (Wd.setRow R (rcs (rm 2 ((Qsg.2:Nat):Int) ((Qtx.2:Nat):Int) ((Qst.2:Nat):Int) Qcp.2 0 0 0 0 0))):=HQd.out.q.chg.trans (T:=fun k=>k=R) ⟨rfl,rfl,rfl,by simp [World.setRow],fun k _ hn=>setRow_other _ _ _ _ hn⟩ fun k hk e=>by omega
  have hE:z4h Bs=endR Qcp.1:=HRD.out.1
  refine⟨(rm 2 ((Qsg.2:Nat):Int) ((Qtx.2:Nat):Int) ((Qst.2:Nat):Int) Qcp.2 0 0 0 0 0),[],[],[],by rw [hE],z2e _ _ _ _ _ _ _ _ _ _ _,fun _=>?_,hcc,(fun a h=>by have h':(none:Option Addr)=some a:=h;cases h'),(fun a h=>by have h':(none:Option Addr)=some a:=h;cases h'),(fun a h=>by have h':(none:Option Addr)=some a:=h;cases h')⟩
  rw [HRD.out.2]
  rfl)
 go_wp2_with fail
 refine bodyPost_ret (v:=.tuple #[.agg (rcs (rm 2 ((Qsg.2:Nat):Int) ((Qtx.2:Nat):Int) ((Qst.2:Nat):Int) Qcp.2 0 0 0 0 0)),.int .i64 (endR Qcp.1)]) ?_ rfl HG.out
 exact z1l rfl _ _ R (rm 2 ((Qsg.2:Nat):Int) ((Qtx.2:Nat):Int) ((Qst.2:Nat):Int) Qcp.2 0 0 0 0 0) _ rfl rfl HRF.out
theorem rec_read3 (W:World) (N B:Nat) (Bs:List Nat) (hz:Zw W N B (0,Bs)) (hk:(((numR ((0,Bs):St) 1).2:Nat):Int)=3):Calls Tryz.prog 92 #[.pointer (some ⟨B,0,none⟩)] W (z2b W B Bs):=by
 obtain⟨R,hR⟩:∃ R,W.heap.size=R:=⟨_,rfl⟩
 obtain⟨W0,hW0,hr0,hb0⟩:∃ W0,W.alloc (.cells zr 51)=W0∧RB W0 R rz∧Below W.heap.size W W0:=⟨_,rfl,by rw [← hR];exact z0b W _,(Below.refl _ _).alloc (Nat.le_refl _) _⟩
 have HZ0:=hid (hz.below hb0)
 have HRE:=hid hR
 have HW0:=hid hW0
 have HR0b:=hid hr0
 have HB0:=hid hb0
 have HNR:Hid (N≤R):=hid (by have:=hz.size;omega)
 obtain⟨R0,hR0⟩:∃ Q,numR ((0,Bs):St) 1=Q:=⟨_,rfl⟩
 have hn:=z2k HZ0.out 1
 have hf:=z4c (S:=(0,Bs)) HZ0.out.bytes
 rw [hR0] at hn hf hk
 have HR0:=hid hR0
 have hx0:IntKind.u8.wrap ((R0.2:Nat):Int)=(R0.2:Nat):=z2q hf
 rw [hk] at hn hx0
 have HKK:=hid hk
 clear hR hW0 hr0 hb0 hR0 hf hz hk
 go_enter Tryz.func92,Tryz.ntmps92
 go_upto_region 1 with (fail)
 rw [HW0.out,HRE.out]
 go_wp2_with fail
 refine hn.mono ?_
 rintro e w1 ⟨rfl,hz1,hc1⟩
 obtain⟨X,hX⟩:∃ X,w1.heap.size=X:=⟨_,rfl⟩
 have hRX:R<X:=by have:=z0j HR0b.out;have:=hc1.size;omega
 have hlow:=HZ0.out.low
 have hNR:=HNR.out
 have hres:=HR0b.out.chg hc1 (by omega)
 have hch0:Chg (fun k=>k=B) W w1:=(Chg.of_below (S:=fun k=>k=B) HB0.out).trans hc1 fun _ _ e=>e
 obtain⟨w1a,hw1a,hxa,hba⟩:∃ w1a,w1.alloc (.cells zr 51)=w1a∧RB w1a X rz∧Below w1.heap.size w1 w1a:=⟨_,rfl,by rw [← hX];exact z0b w1 _,(Below.refl _ _).alloc (Nat.le_refl _) _⟩
 have hQa:Qz W w1a N B R X R0.1 rz:=⟨hz1.below hba,hxa,hres.later hba,hch0.trans (Chg.of_below (S:=fun k=>k=B) hba) fun _ _ e=>e,by omega,hRX,by have:=HRE.out;omega⟩
 obtain⟨w2,hw2,hQ2⟩:∃ w2,w1a.setRow X (rcs (rk 3))=w2∧Qz W w2 N B R X R0.1 (rk 3):=⟨_,rfl,hQa.set _⟩
 have HXa:=hid hxa
 have HW1a:=hid hw1a
 have HW2:=hid hw2
 have HQ2:=hid hQ2
 have HXE:=hid hX
 clear hz1 hc1 hX hRX hlow hNR hres hch0 hw1a hxa hba hQa hw2 hQ2 hn
 have c0:w2.cell? ⟨X,0,none⟩=some (.int .u8 3):=z0a HQ2.out.x rfl
 go_wp2_with ((try rw [HXE.out]);(try rw [HW1a.out]);(with_reducible refine z0n (rk 3) HXa.out ?_ ?_ ?_);rfl;rfl;rw [HW2.out])
 have hpa:=z1e 3 w2
 unfold z1d at hpa
 rw [show ptc 3=#[.bool false,.bool true,.bool false,.bool true,.bool false,.bool false] from rfl,show kOk 3=true from rfl] at hpa
 refine hpa.mono ?_
 rintro e w3 ⟨rfl,h3⟩
 have HQ3:=hid (HQ2.out.later h3)
 clear h3 hpa c0 HQ2 hx0
 obtain⟨Pb,hPb⟩:∃ n,w3.heap.size=n:=⟨_,rfl⟩
 obtain⟨w4,hwn,hxn,hbn⟩:∃ w4,(w3.alloc (.cells pz 194)).setRow Pb #[.bool false,.bool true,.bool false,.bool true,.bool false,.bool false]=w4∧w4.heap[Pb]?=some (.cells #[.bool false,.bool true,.bool false,.bool true,.bool false,.bool false] 194 (0,0))∧Below w3.heap.size w3 w4:=⟨_,rfl,by rw [← hPb];exact setRow_heap _ _ _ _ _ _ (z0b w3 _),below_setRow ((Below.refl _ _).alloc (Nat.le_refl _) _) (by omega) _⟩
 have hxz:=z0b w3 (.cells pz 194)
 rw [hPb] at hxz
 have HQ4:Hid (Qp W w4 N B R X Pb #[.bool false,.bool true,.bool false,.bool true,.bool false,.bool false] R0.1 (rk 3)):=hid ⟨HQ3.out.later hbn,hxn,by have:=z0j HQ3.out.x;omega⟩
 have HPZ:=hid hxz
 have HWN:=hid hwn
 have HNN:=hid hPb
 have HS6:Hid ((#[.bool false,.bool true,.bool false,.bool true,.bool false,.bool false]:Array Value).size=6):=hid rfl
 have HA6:Hid ((#[.bool false,.bool true,.bool false,.bool true,.bool false,.bool false]:Array Value).all (·.oneCell')=true):=hid (by simp [Value.oneCell'])
 clear hxz hxn hbn hwn hPb HQ3
 have p0:=HQ4.out.c (j:=0) (v:=.bool false) rfl
 have p1:=HQ4.out.c (j:=1) (v:=.bool true) rfl
 have p2:=HQ4.out.c (j:=2) (v:=.bool false) rfl
 have p3:=HQ4.out.c (j:=3) (v:=.bool true) rfl
 have p4:=HQ4.out.c (j:=4) (v:=.bool false) rfl
 have p5:=HQ4.out.c (j:=5) (v:=.bool false) rfl
 go_wp2_with ((try rw [HNN.out]);(with_reducible refine z0l #[.bool false,.bool true,.bool false,.bool true,.bool false,.bool false] HS6.out HA6.out HPZ.out ?_ ?_ ?_);rfl;rfl;rw [HWN.out])
 have hn:=z2k HQ4.out.q.z 4
 obtain⟨Qtx,hQtx⟩:∃ Q,numR R0.1 4=Q:=⟨_,rfl⟩
 have hf:=z8u HQ4.out.q.z.bytes
 rw [hQtx] at hn hf
 have hxtx:IntKind.u32.wrap ((Qtx.2:Nat):Int)=(Qtx.2:Nat):=z3y hf
 clear hf
 have HQtx:=hid hQtx
 clear hQtx
 refine hn.mono ?_
 rintro e y5 ⟨rfl,hz,hc⟩
 have HQb:=hid (HQ4.out.low hz hc)
 clear hz hc hn HQ4
 clear p0 p1 p2 p3 p4 p5
 obtain⟨cy,cf⟩:=HQb.out.q.cx (j:=2) (v:=.int .u32 0) rfl
 go_upto_region 9 with (fail)
 clear cy cf hxtx
 have hq:=HQb.out.put 2 (.int .u32 ((Qtx.2:Nat):Int)) (rm 3 0 ((Qtx.2:Nat):Int) 0 false 0 0 0 0 0) rfl
 generalize y5.setCell ⟨X,2,none⟩ (.int .u32 ((Qtx.2:Nat):Int))=w5 at *
 have HQ5:=hid hq
 clear hq HQb
 have p0:=HQ5.out.c (j:=0) (v:=.bool false) rfl
 have p1:=HQ5.out.c (j:=1) (v:=.bool true) rfl
 have p2:=HQ5.out.c (j:=2) (v:=.bool false) rfl
 have p3:=HQ5.out.c (j:=3) (v:=.bool true) rfl
 have p4:=HQ5.out.c (j:=4) (v:=.bool false) rfl
 have p5:=HQ5.out.c (j:=5) (v:=.bool false) rfl
 go_wp2_with fail
 have hn:=z2k HQ5.out.q.z 1
 have hf:=z4c HQ5.out.q.z.bytes
 obtain⟨Qka,hQka⟩:∃ Q,numR Qtx.1 1=Q:=⟨_,rfl⟩
 rw [hQka] at hn hf
 have hxka:IntKind.u8.wrap ((Qka.2:Nat):Int)=(Qka.2:Nat):=z2q hf
 have HQka:=hid hQka
 clear hf hQka
 refine hn.mono ?_
 rintro e w6 ⟨rfl,hz,hc⟩
 have HQ6:=hid (HQ5.out.low hz hc)
 clear hn hz hc HQ5
 go_wp2_with fail
 have hn:=z2k HQ6.out.q.z 1
 have hf:=z4c HQ6.out.q.z.bytes
 obtain⟨Qkb,hQkb⟩:∃ Q,numR Qka.1 1=Q:=⟨_,rfl⟩
 rw [hQkb] at hn hf
 have hxkb:IntKind.u8.wrap ((Qkb.2:Nat):Int)=(Qkb.2:Nat):=z2q hf
 have HQkb:=hid hQkb
 clear hf hQkb
 refine hn.mono ?_
 rintro e w7 ⟨rfl,hz,hc⟩
 have HQ7:=hid (HQ6.out.low hz hc)
 clear hn hz hc HQ6
 go_wp2_with fail
 have hn:=z2k HQ7.out.q.z 1
 have hf:=z4c HQ7.out.q.z.bytes
 obtain⟨Qkc,hQkc⟩:∃ Q,numR Qkb.1 1=Q:=⟨_,rfl⟩
 rw [hQkc] at hn hf
 have hxkc:IntKind.u8.wrap ((Qkc.2:Nat):Int)=(Qkc.2:Nat):=z2q hf
 have HQkc:=hid hQkc
 clear hf hQkc
 refine hn.mono ?_
 rintro e w8 ⟨rfl,hz,hc⟩
 have HQ8:=hid (HQ7.out.low hz hc)
 clear hn hz hc HQ7
 obtain⟨w9,hgen,hq⟩:∃ w9,w8.setRow X (rcs { (rm 3 0 ((Qtx.2:Nat):Int) 0 false 0 0 0 0 0) with ka:=((Qka.2:Nat):Int),kb:=((Qkb.2:Nat):Int),kc:=((Qkc.2:Nat):Int) })=w9∧Qp W w9 N B R X Pb #[.bool false,.bool true,.bool false,.bool true,.bool false,.bool false] Qkc.1 (rm 3 0 ((Qtx.2:Nat):Int) 0 false ((Qka.2:Nat):Int) ((Qkb.2:Nat):Int) ((Qkc.2:Nat):Int) 0 0):=⟨_,rfl,HQ8.out.set (rm 3 0 ((Qtx.2:Nat):Int) 0 false ((Qka.2:Nat):Int) ((Qkb.2:Nat):Int) ((Qkc.2:Nat):Int) 0 0)⟩
 have HGEN:=hid hgen
 have HQ9:=hid hq
 clear hgen hq
 go_upto_region 14 with ((with_reducible refine z3h ((Qka.2:Nat):Int) ((Qkb.2:Nat):Int) ((Qkc.2:Nat):Int) HQ8.out.q.x ?_ ?_ ?_);rfl;rfl;rw [HGEN.out])
 clear HGEN hxka hxkb hxkc HQ8
 clear p0 p1 p2 p3 p4 p5
 have p0:=HQ9.out.c (j:=0) (v:=.bool false) rfl
 have p1:=HQ9.out.c (j:=1) (v:=.bool true) rfl
 have p2:=HQ9.out.c (j:=2) (v:=.bool false) rfl
 have p3:=HQ9.out.c (j:=3) (v:=.bool true) rfl
 have p4:=HQ9.out.c (j:=4) (v:=.bool false) rfl
 have p5:=HQ9.out.c (j:=5) (v:=.bool false) rfl
 go_wp2_with fail
 have hn:=zw_int HQ9.out.q.z
 obtain⟨Qd,hQd⟩:∃ Q,numR Qkc.1 8=Q:=⟨_,rfl⟩
 rw [hQd] at hn
 have HQd:=hid hQd
 clear hQd
 refine hn.mono ?_
 rintro e y10 ⟨rfl,hz,hc⟩
 have HQb:=hid (HQ9.out.low hz hc)
 clear hz hc hn HQ9
 clear p0 p1 p2 p3 p4 p5
 obtain⟨cy,cf⟩:=HQb.out.q.cx (j:=8) (v:=.int .i64 0) rfl
 go_upto_region 15 with (fail)
 clear cy cf
 have hq:=HQb.out.put 8 (.int .i64 (sgn Qd.2)) (rm 3 0 ((Qtx.2:Nat):Int) 0 false ((Qka.2:Nat):Int) ((Qkb.2:Nat):Int) ((Qkc.2:Nat):Int) (sgn Qd.2) 0) rfl
 generalize y10.setCell ⟨X,8,none⟩ (.int .i64 (sgn Qd.2))=w10 at *
 have HQ10:=hid hq
 clear hq HQb
 have p0:=HQ10.out.c (j:=0) (v:=.bool false) rfl
 have p1:=HQ10.out.c (j:=1) (v:=.bool true) rfl
 have p2:=HQ10.out.c (j:=2) (v:=.bool false) rfl
 have p3:=HQ10.out.c (j:=3) (v:=.bool true) rfl
 have p4:=HQ10.out.c (j:=4) (v:=.bool false) rfl
 have p5:=HQ10.out.c (j:=5) (v:=.bool false) rfl
 have HRD:=hid (z9y (D:=⟨Qd.1,{ noX with k:=3,sg:=0,tx:=((Qtx.2:Nat):Int),st:=0,cp:=false,key:=(((Qka.2:Nat):Int),((Qkb.2:Nat):Int),((Qkc.2:Nat):Int)),d:=(sgn Qd.2),o:=0 },0⟩) HR0.out HKK.out rfl (by
  simp [rdX,rd3,keyR,HQtx.out,HQka.out,HQkb.out,HQkc.out,HQd.out,noX]))
 go_wp2_with fail
 clear p0 p1 p2 p3 p4 p5
 have HXn:=hid HQ10.out.q.x
 have hd:=HQ10.out.later (show Below w10.heap.size w10 w10.drew from (Below.refl _ _).drew)
 have HQd:=hid hd
 have HBX:Hid (RB w10.drew X (rm 3 0 ((Qtx.2:Nat):Int) 0 false ((Qka.2:Nat):Int) ((Qkb.2:Nat):Int) ((Qkc.2:Nat):Int) (sgn Qd.2) 0)):=hid hd.q.x
 clear hd
 refine wp_region_held_drew (S:=fun w'=>Hid (RB w' X (rm 3 0 ((Qtx.2:Nat):Int) 0 false ((Qka.2:Nat):Int) ((Qkb.2:Nat):Int) ((Qkc.2:Nat):Int) (sgn Qd.2) 0))) (by kernel_rfl) HBX (fun hHeld=>?_)
 refine wpAnyH_take (i:=0) (oi:=⟨some 90,_,_,_,_,_⟩) (v:=.agg (rcs (rm 3 0 ((Qtx.2:Nat):Int) 0 false ((Qka.2:Nat):Int) ((Qkb.2:Nat):Int) ((Qkc.2:Nat):Int) (sgn Qd.2) 0))) rfl (by kernel_rfl) (by kernel_rfl) (by kernel_rfl) (fun _ _ _ h=>h) (Or.inl ⟨by rfl,fun w' hw'=>z1w rfl (Hid.out hw')⟩) (by assumption) ?_
 simp only [Act.put,sIB,sCZ,sCS]
 refine wpAnyH_take (i:=1) (oi:=⟨some 91,_,_,_,_,_⟩) (v:=.pointer (some ⟨B,0,none⟩)) rfl (by kernel_rfl) (by kernel_rfl) (by kernel_rfl) (fun _ _ _ h=>h) (Or.inl ⟨by rfl,fun w' hw'=>?_⟩) (by assumption) ?_
 · clear hHeld
   go_simp
 simp only [Act.put,sIB,sCZ,sCS]
 generalize w10.drew=Wd at *
 refine wpAnyH_ready (rs:=[2]) (by kernel_rfl) (by simp) (AllReadyH.cons rfl (fun K hK=>?_) AllReadyH.nil)
 go_simp
 go_wp2_with fail
 refine (z7c HQd.out.q.z).mono ?_
 rintro e wz ⟨rfl,rfl⟩
 go_wp2_with fail
 refine hK.out _ _ HBX (fun hHeld2=>?_)
 clear hK K hHeld
 have hHeld:=hHeld2
 clear hHeld2
 (try simp only [Act.put,sIB,sCZ,sCS])
 refine wpAnyH_ready (rs:=[3]) (by kernel_rfl) (by simp) (AllReadyH.cons rfl (fun K hK=>?_) AllReadyH.nil)
 rw [if_pos (by rfl)]
 refine wp_store_row 51 _ _ rfl R (rcs (rm 3 0 ((Qtx.2:Nat):Int) 0 false ((Qka.2:Nat):Int) ((Qkb.2:Nat):Int) ((Qkc.2:Nat):Int) (sgn Qd.2) 0)) rfl rfl 51 _ HQd.out.q.res (by kernel_rfl) rfl (z4e _) ?_
 have HB2:Hid (RB (Wd.setRow R (rcs (rm 3 0 ((Qtx.2:Nat):Int) 0 false ((Qka.2:Nat):Int) ((Qkb.2:Nat):Int) ((Qkc.2:Nat):Int) (sgn Qd.2) 0))) X (rm 3 0 ((Qtx.2:Nat):Int) 0 false ((Qka.2:Nat):Int) ((Qkb.2:Nat):Int) ((Qkc.2:Nat):Int) (sgn Qd.2) 0)):=hid ((setRow_other _ _ _ _ (by have:=HQd.out.q.ord;omega)).trans HBX.out)
 refine hK.out _ _ HB2 (fun hHeld2=>?_)
 clear hK K hHeld
 have hHeld:=hHeld2
 clear hHeld2
 (try simp only [Act.put,sIB,sCZ,sCS])
 refine wpAnyH_take (i:=4) (oi:=⟨some 3,_,_,_,_,_⟩) (v:=.int .i64 (endR Qd.1)) rfl (by kernel_rfl) (by kernel_rfl) (by kernel_rfl) (fun _ _ _ h=>h) (Or.inl ⟨by rfl,fun w' hw'=>?_⟩) (by assumption) ?_
 · clear hHeld
   go_simp
 simp only [Act.put,sIB,sCZ,sCS]
 refine wpAnyH_done (by kernel_rfl) ?_ _
 clear hHeld
 have HRF:Hid (RB (Wd.setRow R (rcs (rm 3 0 ((Qtx.2:Nat):Int) 0 false ((Qka.2:Nat):Int) ((Qkb.2:Nat):Int) ((Qkc.2:Nat):Int) (sgn Qd.2) 0))) R (rm 3 0 ((Qtx.2:Nat):Int) 0 false ((Qka.2:Nat):Int) ((Qkb.2:Nat):Int) ((Qkc.2:Nat):Int) (sgn Qd.2) 0)):=hid (HQd.out.q.res.set _)
 have HG:Hid (z2b W B Bs (.returned (.tuple #[.agg (rcs (rm 3 0 ((Qtx.2:Nat):Int) 0 false ((Qka.2:Nat):Int) ((Qkb.2:Nat):Int) ((Qkc.2:Nat):Int) (sgn Qd.2) 0)),.int .i64 (endR Qd.1)])) (Wd.setRow R (rcs (rm 3 0 ((Qtx.2:Nat):Int) 0 false ((Qka.2:Nat):Int) ((Qkb.2:Nat):Int) ((Qkc.2:Nat):Int) (sgn Qd.2) 0)))):=hid (by
  have ho:=HQd.out.q.ord
  have hcc:Chg (fun k=>k=B) W (Wd.setRow R (rcs (rm 3 0 ((Qtx.2:Nat):Int) 0 false ((Qka.2:Nat):Int) ((Qkb.2:Nat):Int) ((Qkc.2:Nat):Int) (sgn Qd.2) 0))):=HQd.out.q.chg.trans (T:=fun k=>k=R) ⟨rfl,rfl,rfl,by simp [World.setRow],fun k _ hn=>setRow_other _ _ _ _ hn⟩ fun k hk e=>by omega
  have hE:z4h Bs=endR Qd.1:=HRD.out.1
  refine⟨(rm 3 0 ((Qtx.2:Nat):Int) 0 false ((Qka.2:Nat):Int) ((Qkb.2:Nat):Int) ((Qkc.2:Nat):Int) (sgn Qd.2) 0),[],[],[],by rw [hE],z2e _ _ _ _ _ _ _ _ _ _ _,fun _=>?_,hcc,(fun a h=>by have h':(none:Option Addr)=some a:=h;cases h'),(fun a h=>by have h':(none:Option Addr)=some a:=h;cases h'),(fun a h=>by have h':(none:Option Addr)=some a:=h;cases h')⟩
  rw [HRD.out.2]
  rfl)
 go_wp2_with fail
 refine bodyPost_ret (v:=.tuple #[.agg (rcs (rm 3 0 ((Qtx.2:Nat):Int) 0 false ((Qka.2:Nat):Int) ((Qkb.2:Nat):Int) ((Qkc.2:Nat):Int) (sgn Qd.2) 0)),.int .i64 (endR Qd.1)]) ?_ rfl HG.out
 exact z1l rfl _ _ R (rm 3 0 ((Qtx.2:Nat):Int) 0 false ((Qka.2:Nat):Int) ((Qkb.2:Nat):Int) ((Qkc.2:Nat):Int) (sgn Qd.2) 0) _ rfl rfl HRF.out
theorem rec_read4 (W:World) (N B:Nat) (Bs:List Nat) (hz:Zw W N B (0,Bs)) (hk:(((numR ((0,Bs):St) 1).2:Nat):Int)=4):Calls Tryz.prog 92 #[.pointer (some ⟨B,0,none⟩)] W (z2b W B Bs):=by
 obtain⟨R,hR⟩:∃ R,W.heap.size=R:=⟨_,rfl⟩
 obtain⟨W0,hW0,hr0,hb0⟩:∃ W0,W.alloc (.cells zr 51)=W0∧RB W0 R rz∧Below W.heap.size W W0:=⟨_,rfl,by rw [← hR];exact z0b W _,(Below.refl _ _).alloc (Nat.le_refl _) _⟩
 have HZ0:=hid (hz.below hb0)
 have HRE:=hid hR
 have HW0:=hid hW0
 have HR0b:=hid hr0
 have HB0:=hid hb0
 have HNR:Hid (N≤R):=hid (by have:=hz.size;omega)
 obtain⟨R0,hR0⟩:∃ Q,numR ((0,Bs):St) 1=Q:=⟨_,rfl⟩
 have hn:=z2k HZ0.out 1
 have hf:=z4c (S:=(0,Bs)) HZ0.out.bytes
 rw [hR0] at hn hf hk
 have HR0:=hid hR0
 have hx0:IntKind.u8.wrap ((R0.2:Nat):Int)=(R0.2:Nat):=z2q hf
 rw [hk] at hn hx0
 have HKK:=hid hk
 clear hR hW0 hr0 hb0 hR0 hf hz hk
 go_enter Tryz.func92,Tryz.ntmps92
 go_upto_region 1 with (fail)
 rw [HW0.out,HRE.out]
 go_wp2_with fail
 refine hn.mono ?_
 rintro e w1 ⟨rfl,hz1,hc1⟩
 obtain⟨X,hX⟩:∃ X,w1.heap.size=X:=⟨_,rfl⟩
 have hRX:R<X:=by have:=z0j HR0b.out;have:=hc1.size;omega
 have hlow:=HZ0.out.low
 have hNR:=HNR.out
 have hres:=HR0b.out.chg hc1 (by omega)
 have hch0:Chg (fun k=>k=B) W w1:=(Chg.of_below (S:=fun k=>k=B) HB0.out).trans hc1 fun _ _ e=>e
 obtain⟨w1a,hw1a,hxa,hba⟩:∃ w1a,w1.alloc (.cells zr 51)=w1a∧RB w1a X rz∧Below w1.heap.size w1 w1a:=⟨_,rfl,by rw [← hX];exact z0b w1 _,(Below.refl _ _).alloc (Nat.le_refl _) _⟩
 have hQa:Qz W w1a N B R X R0.1 rz:=⟨hz1.below hba,hxa,hres.later hba,hch0.trans (Chg.of_below (S:=fun k=>k=B) hba) fun _ _ e=>e,by omega,hRX,by have:=HRE.out;omega⟩
 obtain⟨w2,hw2,hQ2⟩:∃ w2,w1a.setRow X (rcs (rk 4))=w2∧Qz W w2 N B R X R0.1 (rk 4):=⟨_,rfl,hQa.set _⟩
 have HXa:=hid hxa
 have HW1a:=hid hw1a
 have HW2:=hid hw2
 have HQ2:=hid hQ2
 have HXE:=hid hX
 clear hz1 hc1 hX hRX hlow hNR hres hch0 hw1a hxa hba hQa hw2 hQ2 hn
 have c0:w2.cell? ⟨X,0,none⟩=some (.int .u8 4):=z0a HQ2.out.x rfl
 go_wp2_with ((try rw [HXE.out]);(try rw [HW1a.out]);(with_reducible refine z0n (rk 4) HXa.out ?_ ?_ ?_);rfl;rfl;rw [HW2.out])
 have hpa:=z1e 4 w2
 unfold z1d at hpa
 rw [show ptc 4=#[.bool false,.bool true,.bool false,.bool false,.bool false,.bool false] from rfl,show kOk 4=true from rfl] at hpa
 refine hpa.mono ?_
 rintro e w3 ⟨rfl,h3⟩
 have HQ3:=hid (HQ2.out.later h3)
 clear h3 hpa c0 HQ2 hx0
 obtain⟨Pb,hPb⟩:∃ n,w3.heap.size=n:=⟨_,rfl⟩
 obtain⟨w4,hwn,hxn,hbn⟩:∃ w4,(w3.alloc (.cells pz 194)).setRow Pb #[.bool false,.bool true,.bool false,.bool false,.bool false,.bool false]=w4∧w4.heap[Pb]?=some (.cells #[.bool false,.bool true,.bool false,.bool false,.bool false,.bool false] 194 (0,0))∧Below w3.heap.size w3 w4:=⟨_,rfl,by rw [← hPb];exact setRow_heap _ _ _ _ _ _ (z0b w3 _),below_setRow ((Below.refl _ _).alloc (Nat.le_refl _) _) (by omega) _⟩
 have hxz:=z0b w3 (.cells pz 194)
 rw [hPb] at hxz
 have HQ4:Hid (Qp W w4 N B R X Pb #[.bool false,.bool true,.bool false,.bool false,.bool false,.bool false] R0.1 (rk 4)):=hid ⟨HQ3.out.later hbn,hxn,by have:=z0j HQ3.out.x;omega⟩
 have HPZ:=hid hxz
 have HWN:=hid hwn
 have HNN:=hid hPb
 have HS6:Hid ((#[.bool false,.bool true,.bool false,.bool false,.bool false,.bool false]:Array Value).size=6):=hid rfl
 have HA6:Hid ((#[.bool false,.bool true,.bool false,.bool false,.bool false,.bool false]:Array Value).all (·.oneCell')=true):=hid (by simp [Value.oneCell'])
 clear hxz hxn hbn hwn hPb HQ3
 have p0:=HQ4.out.c (j:=0) (v:=.bool false) rfl
 have p1:=HQ4.out.c (j:=1) (v:=.bool true) rfl
 have p2:=HQ4.out.c (j:=2) (v:=.bool false) rfl
 have p3:=HQ4.out.c (j:=3) (v:=.bool false) rfl
 have p4:=HQ4.out.c (j:=4) (v:=.bool false) rfl
 have p5:=HQ4.out.c (j:=5) (v:=.bool false) rfl
 go_wp2_with ((try rw [HNN.out]);(with_reducible refine z0l #[.bool false,.bool true,.bool false,.bool false,.bool false,.bool false] HS6.out HA6.out HPZ.out ?_ ?_ ?_);rfl;rfl;rw [HWN.out])
 have hn:=z2k HQ4.out.q.z 4
 obtain⟨Qtx,hQtx⟩:∃ Q,numR R0.1 4=Q:=⟨_,rfl⟩
 have hf:=z8u HQ4.out.q.z.bytes
 rw [hQtx] at hn hf
 have hxtx:IntKind.u32.wrap ((Qtx.2:Nat):Int)=(Qtx.2:Nat):=z3y hf
 clear hf
 have HQtx:=hid hQtx
 clear hQtx
 refine hn.mono ?_
 rintro e y5 ⟨rfl,hz,hc⟩
 have HQb:=hid (HQ4.out.low hz hc)
 clear hz hc hn HQ4
 clear p0 p1 p2 p3 p4 p5
 obtain⟨cy,cf⟩:=HQb.out.q.cx (j:=2) (v:=.int .u32 0) rfl
 go_upto_region 9 with (fail)
 clear cy cf hxtx
 have hq:=HQb.out.put 2 (.int .u32 ((Qtx.2:Nat):Int)) (rm 4 0 ((Qtx.2:Nat):Int) 0 false 0 0 0 0 0) rfl
 generalize y5.setCell ⟨X,2,none⟩ (.int .u32 ((Qtx.2:Nat):Int))=w5 at *
 have HQ5:=hid hq
 clear hq HQb
 have p0:=HQ5.out.c (j:=0) (v:=.bool false) rfl
 have p1:=HQ5.out.c (j:=1) (v:=.bool true) rfl
 have p2:=HQ5.out.c (j:=2) (v:=.bool false) rfl
 have p3:=HQ5.out.c (j:=3) (v:=.bool false) rfl
 have p4:=HQ5.out.c (j:=4) (v:=.bool false) rfl
 have p5:=HQ5.out.c (j:=5) (v:=.bool false) rfl
 have HRD:=hid (z9y (D:=⟨Qtx.1,{ noX with k:=4,sg:=0,tx:=((Qtx.2:Nat):Int),st:=0,cp:=false,key:=(0,0,0),d:=0,o:=0 },0⟩) HR0.out HKK.out rfl (by
  simp [rdX,rd4,keyR,HQtx.out,noX]))
 go_wp2_with fail
 clear p0 p1 p2 p3 p4 p5
 have HXn:=hid HQ5.out.q.x
 have hd:=HQ5.out.later (show Below w5.heap.size w5 w5.drew from (Below.refl _ _).drew)
 have HQd:=hid hd
 have HBX:Hid (RB w5.drew X (rm 4 0 ((Qtx.2:Nat):Int) 0 false 0 0 0 0 0)):=hid hd.q.x
 clear hd
 refine wp_region_held_drew (S:=fun w'=>Hid (RB w' X (rm 4 0 ((Qtx.2:Nat):Int) 0 false 0 0 0 0 0))) (by kernel_rfl) HBX (fun hHeld=>?_)
 refine wpAnyH_take (i:=0) (oi:=⟨some 90,_,_,_,_,_⟩) (v:=.agg (rcs (rm 4 0 ((Qtx.2:Nat):Int) 0 false 0 0 0 0 0))) rfl (by kernel_rfl) (by kernel_rfl) (by kernel_rfl) (fun _ _ _ h=>h) (Or.inl ⟨by rfl,fun w' hw'=>z1w rfl (Hid.out hw')⟩) (by assumption) ?_
 simp only [Act.put,sIB,sCZ,sCS]
 refine wpAnyH_take (i:=1) (oi:=⟨some 91,_,_,_,_,_⟩) (v:=.pointer (some ⟨B,0,none⟩)) rfl (by kernel_rfl) (by kernel_rfl) (by kernel_rfl) (fun _ _ _ h=>h) (Or.inl ⟨by rfl,fun w' hw'=>?_⟩) (by assumption) ?_
 · clear hHeld
   go_simp
 simp only [Act.put,sIB,sCZ,sCS]
 generalize w5.drew=Wd at *
 refine wpAnyH_ready (rs:=[2]) (by kernel_rfl) (by simp) (AllReadyH.cons rfl (fun K hK=>?_) AllReadyH.nil)
 go_simp
 go_wp2_with fail
 refine (z7c HQd.out.q.z).mono ?_
 rintro e wz ⟨rfl,rfl⟩
 go_wp2_with fail
 refine hK.out _ _ HBX (fun hHeld2=>?_)
 clear hK K hHeld
 have hHeld:=hHeld2
 clear hHeld2
 (try simp only [Act.put,sIB,sCZ,sCS])
 refine wpAnyH_ready (rs:=[3]) (by kernel_rfl) (by simp) (AllReadyH.cons rfl (fun K hK=>?_) AllReadyH.nil)
 rw [if_pos (by rfl)]
 refine wp_store_row 51 _ _ rfl R (rcs (rm 4 0 ((Qtx.2:Nat):Int) 0 false 0 0 0 0 0)) rfl rfl 51 _ HQd.out.q.res (by kernel_rfl) rfl (z4e _) ?_
 have HB2:Hid (RB (Wd.setRow R (rcs (rm 4 0 ((Qtx.2:Nat):Int) 0 false 0 0 0 0 0))) X (rm 4 0 ((Qtx.2:Nat):Int) 0 false 0 0 0 0 0)):=hid ((setRow_other _ _ _ _ (by have:=HQd.out.q.ord;omega)).trans HBX.out)
 refine hK.out _ _ HB2 (fun hHeld2=>?_)
 clear hK K hHeld
 have hHeld:=hHeld2
 clear hHeld2
 (try simp only [Act.put,sIB,sCZ,sCS])
 refine wpAnyH_take (i:=4) (oi:=⟨some 3,_,_,_,_,_⟩) (v:=.int .i64 (endR Qtx.1)) rfl (by kernel_rfl) (by kernel_rfl) (by kernel_rfl) (fun _ _ _ h=>h) (Or.inl ⟨by rfl,fun w' hw'=>?_⟩) (by assumption) ?_
 · clear hHeld
   go_simp
 simp only [Act.put,sIB,sCZ,sCS]
 refine wpAnyH_done (by kernel_rfl) ?_ _
 clear hHeld
 have HRF:Hid (RB (Wd.setRow R (rcs (rm 4 0 ((Qtx.2:Nat):Int) 0 false 0 0 0 0 0))) R (rm 4 0 ((Qtx.2:Nat):Int) 0 false 0 0 0 0 0)):=hid (HQd.out.q.res.set _)
 have HG:Hid (z2b W B Bs (.returned (.tuple #[.agg (rcs (rm 4 0 ((Qtx.2:Nat):Int) 0 false 0 0 0 0 0)),.int .i64 (endR Qtx.1)])) (Wd.setRow R (rcs (rm 4 0 ((Qtx.2:Nat):Int) 0 false 0 0 0 0 0)))):=hid (by
  have ho:=HQd.out.q.ord
  have hcc:Chg (fun k=>k=B) W (Wd.setRow R (rcs (rm 4 0 ((Qtx.2:Nat):Int) 0 false 0 0 0 0 0))):=HQd.out.q.chg.trans (T:=fun k=>k=R) ⟨rfl,rfl,rfl,by simp [World.setRow],fun k _ hn=>setRow_other _ _ _ _ hn⟩ fun k hk e=>by omega
  have hE:z4h Bs=endR Qtx.1:=HRD.out.1
  refine⟨(rm 4 0 ((Qtx.2:Nat):Int) 0 false 0 0 0 0 0),[],[],[],by rw [hE],z2e _ _ _ _ _ _ _ _ _ _ _,fun _=>?_,hcc,(fun a h=>by have h':(none:Option Addr)=some a:=h;cases h'),(fun a h=>by have h':(none:Option Addr)=some a:=h;cases h'),(fun a h=>by have h':(none:Option Addr)=some a:=h;cases h')⟩
  rw [HRD.out.2]
  rfl)
 go_wp2_with fail
 refine bodyPost_ret (v:=.tuple #[.agg (rcs (rm 4 0 ((Qtx.2:Nat):Int) 0 false 0 0 0 0 0)),.int .i64 (endR Qtx.1)]) ?_ rfl HG.out
 exact z1l rfl _ _ R (rm 4 0 ((Qtx.2:Nat):Int) 0 false 0 0 0 0 0) _ rfl rfl HRF.out
theorem rec_read5 (W:World) (N B:Nat) (Bs:List Nat) (hz:Zw W N B (0,Bs)) (hk:(((numR ((0,Bs):St) 1).2:Nat):Int)=5):Calls Tryz.prog 92 #[.pointer (some ⟨B,0,none⟩)] W (z2b W B Bs):=by
 obtain⟨R,hR⟩:∃ R,W.heap.size=R:=⟨_,rfl⟩
 obtain⟨W0,hW0,hr0,hb0⟩:∃ W0,W.alloc (.cells zr 51)=W0∧RB W0 R rz∧Below W.heap.size W W0:=⟨_,rfl,by rw [← hR];exact z0b W _,(Below.refl _ _).alloc (Nat.le_refl _) _⟩
 have HZ0:=hid (hz.below hb0)
 have HRE:=hid hR
 have HW0:=hid hW0
 have HR0b:=hid hr0
 have HB0:=hid hb0
 have HNR:Hid (N≤R):=hid (by have:=hz.size;omega)
 obtain⟨R0,hR0⟩:∃ Q,numR ((0,Bs):St) 1=Q:=⟨_,rfl⟩
 have hn:=z2k HZ0.out 1
 have hf:=z4c (S:=(0,Bs)) HZ0.out.bytes
 rw [hR0] at hn hf hk
 have HR0:=hid hR0
 have hx0:IntKind.u8.wrap ((R0.2:Nat):Int)=(R0.2:Nat):=z2q hf
 rw [hk] at hn hx0
 have HKK:=hid hk
 clear hR hW0 hr0 hb0 hR0 hf hz hk
 go_enter Tryz.func92,Tryz.ntmps92
 go_upto_region 1 with (fail)
 rw [HW0.out,HRE.out]
 go_wp2_with fail
 refine hn.mono ?_
 rintro e w1 ⟨rfl,hz1,hc1⟩
 obtain⟨X,hX⟩:∃ X,w1.heap.size=X:=⟨_,rfl⟩
 have hRX:R<X:=by have:=z0j HR0b.out;have:=hc1.size;omega
 have hlow:=HZ0.out.low
 have hNR:=HNR.out
 have hres:=HR0b.out.chg hc1 (by omega)
 have hch0:Chg (fun k=>k=B) W w1:=(Chg.of_below (S:=fun k=>k=B) HB0.out).trans hc1 fun _ _ e=>e
 obtain⟨w1a,hw1a,hxa,hba⟩:∃ w1a,w1.alloc (.cells zr 51)=w1a∧RB w1a X rz∧Below w1.heap.size w1 w1a:=⟨_,rfl,by rw [← hX];exact z0b w1 _,(Below.refl _ _).alloc (Nat.le_refl _) _⟩
 have hQa:Qz W w1a N B R X R0.1 rz:=⟨hz1.below hba,hxa,hres.later hba,hch0.trans (Chg.of_below (S:=fun k=>k=B) hba) fun _ _ e=>e,by omega,hRX,by have:=HRE.out;omega⟩
 obtain⟨w2,hw2,hQ2⟩:∃ w2,w1a.setRow X (rcs (rk 5))=w2∧Qz W w2 N B R X R0.1 (rk 5):=⟨_,rfl,hQa.set _⟩
 have HXa:=hid hxa
 have HW1a:=hid hw1a
 have HW2:=hid hw2
 have HQ2:=hid hQ2
 have HXE:=hid hX
 clear hz1 hc1 hX hRX hlow hNR hres hch0 hw1a hxa hba hQa hw2 hQ2 hn
 have c0:w2.cell? ⟨X,0,none⟩=some (.int .u8 5):=z0a HQ2.out.x rfl
 go_wp2_with ((try rw [HXE.out]);(try rw [HW1a.out]);(with_reducible refine z0n (rk 5) HXa.out ?_ ?_ ?_);rfl;rfl;rw [HW2.out])
 have hpa:=z1e 5 w2
 unfold z1d at hpa
 rw [show ptc 5=#[.bool false,.bool true,.bool false,.bool false,.bool false,.bool false] from rfl,show kOk 5=true from rfl] at hpa
 refine hpa.mono ?_
 rintro e w3 ⟨rfl,h3⟩
 have HQ3:=hid (HQ2.out.later h3)
 clear h3 hpa c0 HQ2 hx0
 obtain⟨Pb,hPb⟩:∃ n,w3.heap.size=n:=⟨_,rfl⟩
 obtain⟨w4,hwn,hxn,hbn⟩:∃ w4,(w3.alloc (.cells pz 194)).setRow Pb #[.bool false,.bool true,.bool false,.bool false,.bool false,.bool false]=w4∧w4.heap[Pb]?=some (.cells #[.bool false,.bool true,.bool false,.bool false,.bool false,.bool false] 194 (0,0))∧Below w3.heap.size w3 w4:=⟨_,rfl,by rw [← hPb];exact setRow_heap _ _ _ _ _ _ (z0b w3 _),below_setRow ((Below.refl _ _).alloc (Nat.le_refl _) _) (by omega) _⟩
 have hxz:=z0b w3 (.cells pz 194)
 rw [hPb] at hxz
 have HQ4:Hid (Qp W w4 N B R X Pb #[.bool false,.bool true,.bool false,.bool false,.bool false,.bool false] R0.1 (rk 5)):=hid ⟨HQ3.out.later hbn,hxn,by have:=z0j HQ3.out.x;omega⟩
 have HPZ:=hid hxz
 have HWN:=hid hwn
 have HNN:=hid hPb
 have HS6:Hid ((#[.bool false,.bool true,.bool false,.bool false,.bool false,.bool false]:Array Value).size=6):=hid rfl
 have HA6:Hid ((#[.bool false,.bool true,.bool false,.bool false,.bool false,.bool false]:Array Value).all (·.oneCell')=true):=hid (by simp [Value.oneCell'])
 clear hxz hxn hbn hwn hPb HQ3
 have p0:=HQ4.out.c (j:=0) (v:=.bool false) rfl
 have p1:=HQ4.out.c (j:=1) (v:=.bool true) rfl
 have p2:=HQ4.out.c (j:=2) (v:=.bool false) rfl
 have p3:=HQ4.out.c (j:=3) (v:=.bool false) rfl
 have p4:=HQ4.out.c (j:=4) (v:=.bool false) rfl
 have p5:=HQ4.out.c (j:=5) (v:=.bool false) rfl
 go_wp2_with ((try rw [HNN.out]);(with_reducible refine z0l #[.bool false,.bool true,.bool false,.bool false,.bool false,.bool false] HS6.out HA6.out HPZ.out ?_ ?_ ?_);rfl;rfl;rw [HWN.out])
 have hn:=z2k HQ4.out.q.z 4
 obtain⟨Qtx,hQtx⟩:∃ Q,numR R0.1 4=Q:=⟨_,rfl⟩
 have hf:=z8u HQ4.out.q.z.bytes
 rw [hQtx] at hn hf
 have hxtx:IntKind.u32.wrap ((Qtx.2:Nat):Int)=(Qtx.2:Nat):=z3y hf
 clear hf
 have HQtx:=hid hQtx
 clear hQtx
 refine hn.mono ?_
 rintro e y5 ⟨rfl,hz,hc⟩
 have HQb:=hid (HQ4.out.low hz hc)
 clear hz hc hn HQ4
 clear p0 p1 p2 p3 p4 p5
 obtain⟨cy,cf⟩:=HQb.out.q.cx (j:=2) (v:=.int .u32 0) rfl
 go_upto_region 9 with (fail)
 clear cy cf hxtx
 have hq:=HQb.out.put 2 (.int .u32 ((Qtx.2:Nat):Int)) (rm 5 0 ((Qtx.2:Nat):Int) 0 false 0 0 0 0 0) rfl
 generalize y5.setCell ⟨X,2,none⟩ (.int .u32 ((Qtx.2:Nat):Int))=w5 at *
 have HQ5:=hid hq
 clear hq HQb
 have p0:=HQ5.out.c (j:=0) (v:=.bool false) rfl
 have p1:=HQ5.out.c (j:=1) (v:=.bool true) rfl
 have p2:=HQ5.out.c (j:=2) (v:=.bool false) rfl
 have p3:=HQ5.out.c (j:=3) (v:=.bool false) rfl
 have p4:=HQ5.out.c (j:=4) (v:=.bool false) rfl
 have p5:=HQ5.out.c (j:=5) (v:=.bool false) rfl
 have HRD:=hid (z9y (D:=⟨Qtx.1,{ noX with k:=5,sg:=0,tx:=((Qtx.2:Nat):Int),st:=0,cp:=false,key:=(0,0,0),d:=0,o:=0 },0⟩) HR0.out HKK.out rfl (by
  simp [rdX,rd4,keyR,HQtx.out,noX]))
 go_wp2_with fail
 clear p0 p1 p2 p3 p4 p5
 have HXn:=hid HQ5.out.q.x
 have hd:=HQ5.out.later (show Below w5.heap.size w5 w5.drew from (Below.refl _ _).drew)
 have HQd:=hid hd
 have HBX:Hid (RB w5.drew X (rm 5 0 ((Qtx.2:Nat):Int) 0 false 0 0 0 0 0)):=hid hd.q.x
 clear hd
 refine wp_region_held_drew (S:=fun w'=>Hid (RB w' X (rm 5 0 ((Qtx.2:Nat):Int) 0 false 0 0 0 0 0))) (by kernel_rfl) HBX (fun hHeld=>?_)
 refine wpAnyH_take (i:=0) (oi:=⟨some 90,_,_,_,_,_⟩) (v:=.agg (rcs (rm 5 0 ((Qtx.2:Nat):Int) 0 false 0 0 0 0 0))) rfl (by kernel_rfl) (by kernel_rfl) (by kernel_rfl) (fun _ _ _ h=>h) (Or.inl ⟨by rfl,fun w' hw'=>z1w rfl (Hid.out hw')⟩) (by assumption) ?_
 simp only [Act.put,sIB,sCZ,sCS]
 refine wpAnyH_take (i:=1) (oi:=⟨some 91,_,_,_,_,_⟩) (v:=.pointer (some ⟨B,0,none⟩)) rfl (by kernel_rfl) (by kernel_rfl) (by kernel_rfl) (fun _ _ _ h=>h) (Or.inl ⟨by rfl,fun w' hw'=>?_⟩) (by assumption) ?_
 · clear hHeld
   go_simp
 simp only [Act.put,sIB,sCZ,sCS]
 generalize w5.drew=Wd at *
 refine wpAnyH_ready (rs:=[2]) (by kernel_rfl) (by simp) (AllReadyH.cons rfl (fun K hK=>?_) AllReadyH.nil)
 go_simp
 go_wp2_with fail
 refine (z7c HQd.out.q.z).mono ?_
 rintro e wz ⟨rfl,rfl⟩
 go_wp2_with fail
 refine hK.out _ _ HBX (fun hHeld2=>?_)
 clear hK K hHeld
 have hHeld:=hHeld2
 clear hHeld2
 (try simp only [Act.put,sIB,sCZ,sCS])
 refine wpAnyH_ready (rs:=[3]) (by kernel_rfl) (by simp) (AllReadyH.cons rfl (fun K hK=>?_) AllReadyH.nil)
 rw [if_pos (by rfl)]
 refine wp_store_row 51 _ _ rfl R (rcs (rm 5 0 ((Qtx.2:Nat):Int) 0 false 0 0 0 0 0)) rfl rfl 51 _ HQd.out.q.res (by kernel_rfl) rfl (z4e _) ?_
 have HB2:Hid (RB (Wd.setRow R (rcs (rm 5 0 ((Qtx.2:Nat):Int) 0 false 0 0 0 0 0))) X (rm 5 0 ((Qtx.2:Nat):Int) 0 false 0 0 0 0 0)):=hid ((setRow_other _ _ _ _ (by have:=HQd.out.q.ord;omega)).trans HBX.out)
 refine hK.out _ _ HB2 (fun hHeld2=>?_)
 clear hK K hHeld
 have hHeld:=hHeld2
 clear hHeld2
 (try simp only [Act.put,sIB,sCZ,sCS])
 refine wpAnyH_take (i:=4) (oi:=⟨some 3,_,_,_,_,_⟩) (v:=.int .i64 (endR Qtx.1)) rfl (by kernel_rfl) (by kernel_rfl) (by kernel_rfl) (fun _ _ _ h=>h) (Or.inl ⟨by rfl,fun w' hw'=>?_⟩) (by assumption) ?_
 · clear hHeld
   go_simp
 simp only [Act.put,sIB,sCZ,sCS]
 refine wpAnyH_done (by kernel_rfl) ?_ _
 clear hHeld
 have HRF:Hid (RB (Wd.setRow R (rcs (rm 5 0 ((Qtx.2:Nat):Int) 0 false 0 0 0 0 0))) R (rm 5 0 ((Qtx.2:Nat):Int) 0 false 0 0 0 0 0)):=hid (HQd.out.q.res.set _)
 have HG:Hid (z2b W B Bs (.returned (.tuple #[.agg (rcs (rm 5 0 ((Qtx.2:Nat):Int) 0 false 0 0 0 0 0)),.int .i64 (endR Qtx.1)])) (Wd.setRow R (rcs (rm 5 0 ((Qtx.2:Nat):Int) 0 false 0 0 0 0 0)))):=hid (by
  have ho:=HQd.out.q.ord
  have hcc:Chg (fun k=>k=B) W (Wd.setRow R (rcs (rm 5 0 ((Qtx.2:Nat):Int) 0 false 0 0 0 0 0))):=HQd.out.q.chg.trans (T:=fun k=>k=R) ⟨rfl,rfl,rfl,by simp [World.setRow],fun k _ hn=>setRow_other _ _ _ _ hn⟩ fun k hk e=>by omega
  have hE:z4h Bs=endR Qtx.1:=HRD.out.1
  refine⟨(rm 5 0 ((Qtx.2:Nat):Int) 0 false 0 0 0 0 0),[],[],[],by rw [hE],z2e _ _ _ _ _ _ _ _ _ _ _,fun _=>?_,hcc,(fun a h=>by have h':(none:Option Addr)=some a:=h;cases h'),(fun a h=>by have h':(none:Option Addr)=some a:=h;cases h'),(fun a h=>by have h':(none:Option Addr)=some a:=h;cases h')⟩
  rw [HRD.out.2]
  rfl)
 go_wp2_with fail
 refine bodyPost_ret (v:=.tuple #[.agg (rcs (rm 5 0 ((Qtx.2:Nat):Int) 0 false 0 0 0 0 0)),.int .i64 (endR Qtx.1)]) ?_ rfl HG.out
 exact z1l rfl _ _ R (rm 5 0 ((Qtx.2:Nat):Int) 0 false 0 0 0 0 0) _ rfl rfl HRF.out
theorem rec_read6 (W:World) (N B:Nat) (Bs:List Nat) (hz:Zw W N B (0,Bs)) (hk:(((numR ((0,Bs):St) 1).2:Nat):Int)=6):Calls Tryz.prog 92 #[.pointer (some ⟨B,0,none⟩)] W (z2b W B Bs):=by
 obtain⟨R,hR⟩:∃ R,W.heap.size=R:=⟨_,rfl⟩
 obtain⟨W0,hW0,hr0,hb0⟩:∃ W0,W.alloc (.cells zr 51)=W0∧RB W0 R rz∧Below W.heap.size W W0:=⟨_,rfl,by rw [← hR];exact z0b W _,(Below.refl _ _).alloc (Nat.le_refl _) _⟩
 have HZ0:=hid (hz.below hb0)
 have HRE:=hid hR
 have HW0:=hid hW0
 have HR0b:=hid hr0
 have HB0:=hid hb0
 have HNR:Hid (N≤R):=hid (by have:=hz.size;omega)
 obtain⟨R0,hR0⟩:∃ Q,numR ((0,Bs):St) 1=Q:=⟨_,rfl⟩
 have hn:=z2k HZ0.out 1
 have hf:=z4c (S:=(0,Bs)) HZ0.out.bytes
 rw [hR0] at hn hf hk
 have HR0:=hid hR0
 have hx0:IntKind.u8.wrap ((R0.2:Nat):Int)=(R0.2:Nat):=z2q hf
 rw [hk] at hn hx0
 have HKK:=hid hk
 clear hR hW0 hr0 hb0 hR0 hf hz hk
 go_enter Tryz.func92,Tryz.ntmps92
 go_upto_region 1 with (fail)
 rw [HW0.out,HRE.out]
 go_wp2_with fail
 refine hn.mono ?_
 rintro e w1 ⟨rfl,hz1,hc1⟩
 obtain⟨X,hX⟩:∃ X,w1.heap.size=X:=⟨_,rfl⟩
 have hRX:R<X:=by have:=z0j HR0b.out;have:=hc1.size;omega
 have hlow:=HZ0.out.low
 have hNR:=HNR.out
 have hres:=HR0b.out.chg hc1 (by omega)
 have hch0:Chg (fun k=>k=B) W w1:=(Chg.of_below (S:=fun k=>k=B) HB0.out).trans hc1 fun _ _ e=>e
 obtain⟨w1a,hw1a,hxa,hba⟩:∃ w1a,w1.alloc (.cells zr 51)=w1a∧RB w1a X rz∧Below w1.heap.size w1 w1a:=⟨_,rfl,by rw [← hX];exact z0b w1 _,(Below.refl _ _).alloc (Nat.le_refl _) _⟩
 have hQa:Qz W w1a N B R X R0.1 rz:=⟨hz1.below hba,hxa,hres.later hba,hch0.trans (Chg.of_below (S:=fun k=>k=B) hba) fun _ _ e=>e,by omega,hRX,by have:=HRE.out;omega⟩
 obtain⟨w2,hw2,hQ2⟩:∃ w2,w1a.setRow X (rcs (rk 6))=w2∧Qz W w2 N B R X R0.1 (rk 6):=⟨_,rfl,hQa.set _⟩
 have HXa:=hid hxa
 have HW1a:=hid hw1a
 have HW2:=hid hw2
 have HQ2:=hid hQ2
 have HXE:=hid hX
 clear hz1 hc1 hX hRX hlow hNR hres hch0 hw1a hxa hba hQa hw2 hQ2 hn
 have c0:w2.cell? ⟨X,0,none⟩=some (.int .u8 6):=z0a HQ2.out.x rfl
 go_wp2_with ((try rw [HXE.out]);(try rw [HW1a.out]);(with_reducible refine z0n (rk 6) HXa.out ?_ ?_ ?_);rfl;rfl;rw [HW2.out])
 have hpa:=z1e 6 w2
 unfold z1d at hpa
 rw [show ptc 6=#[.bool false,.bool true,.bool false,.bool true,.bool false,.bool false] from rfl,show kOk 6=true from rfl] at hpa
 refine hpa.mono ?_
 rintro e w3 ⟨rfl,h3⟩
 have HQ3:=hid (HQ2.out.later h3)
 clear h3 hpa c0 HQ2 hx0
 obtain⟨Pb,hPb⟩:∃ n,w3.heap.size=n:=⟨_,rfl⟩
 obtain⟨w4,hwn,hxn,hbn⟩:∃ w4,(w3.alloc (.cells pz 194)).setRow Pb #[.bool false,.bool true,.bool false,.bool true,.bool false,.bool false]=w4∧w4.heap[Pb]?=some (.cells #[.bool false,.bool true,.bool false,.bool true,.bool false,.bool false] 194 (0,0))∧Below w3.heap.size w3 w4:=⟨_,rfl,by rw [← hPb];exact setRow_heap _ _ _ _ _ _ (z0b w3 _),below_setRow ((Below.refl _ _).alloc (Nat.le_refl _) _) (by omega) _⟩
 have hxz:=z0b w3 (.cells pz 194)
 rw [hPb] at hxz
 have HQ4:Hid (Qp W w4 N B R X Pb #[.bool false,.bool true,.bool false,.bool true,.bool false,.bool false] R0.1 (rk 6)):=hid ⟨HQ3.out.later hbn,hxn,by have:=z0j HQ3.out.x;omega⟩
 have HPZ:=hid hxz
 have HWN:=hid hwn
 have HNN:=hid hPb
 have HS6:Hid ((#[.bool false,.bool true,.bool false,.bool true,.bool false,.bool false]:Array Value).size=6):=hid rfl
 have HA6:Hid ((#[.bool false,.bool true,.bool false,.bool true,.bool false,.bool false]:Array Value).all (·.oneCell')=true):=hid (by simp [Value.oneCell'])
 clear hxz hxn hbn hwn hPb HQ3
 have p0:=HQ4.out.c (j:=0) (v:=.bool false) rfl
 have p1:=HQ4.out.c (j:=1) (v:=.bool true) rfl
 have p2:=HQ4.out.c (j:=2) (v:=.bool false) rfl
 have p3:=HQ4.out.c (j:=3) (v:=.bool true) rfl
 have p4:=HQ4.out.c (j:=4) (v:=.bool false) rfl
 have p5:=HQ4.out.c (j:=5) (v:=.bool false) rfl
 go_wp2_with ((try rw [HNN.out]);(with_reducible refine z0l #[.bool false,.bool true,.bool false,.bool true,.bool false,.bool false] HS6.out HA6.out HPZ.out ?_ ?_ ?_);rfl;rfl;rw [HWN.out])
 have hn:=z2k HQ4.out.q.z 4
 obtain⟨Qtx,hQtx⟩:∃ Q,numR R0.1 4=Q:=⟨_,rfl⟩
 have hf:=z8u HQ4.out.q.z.bytes
 rw [hQtx] at hn hf
 have hxtx:IntKind.u32.wrap ((Qtx.2:Nat):Int)=(Qtx.2:Nat):=z3y hf
 clear hf
 have HQtx:=hid hQtx
 clear hQtx
 refine hn.mono ?_
 rintro e y5 ⟨rfl,hz,hc⟩
 have HQb:=hid (HQ4.out.low hz hc)
 clear hz hc hn HQ4
 clear p0 p1 p2 p3 p4 p5
 obtain⟨cy,cf⟩:=HQb.out.q.cx (j:=2) (v:=.int .u32 0) rfl
 go_upto_region 9 with (fail)
 clear cy cf hxtx
 have hq:=HQb.out.put 2 (.int .u32 ((Qtx.2:Nat):Int)) (rm 6 0 ((Qtx.2:Nat):Int) 0 false 0 0 0 0 0) rfl
 generalize y5.setCell ⟨X,2,none⟩ (.int .u32 ((Qtx.2:Nat):Int))=w5 at *
 have HQ5:=hid hq
 clear hq HQb
 have p0:=HQ5.out.c (j:=0) (v:=.bool false) rfl
 have p1:=HQ5.out.c (j:=1) (v:=.bool true) rfl
 have p2:=HQ5.out.c (j:=2) (v:=.bool false) rfl
 have p3:=HQ5.out.c (j:=3) (v:=.bool true) rfl
 have p4:=HQ5.out.c (j:=4) (v:=.bool false) rfl
 have p5:=HQ5.out.c (j:=5) (v:=.bool false) rfl
 go_wp2_with fail
 have hn:=z2k HQ5.out.q.z 1
 have hf:=z4c HQ5.out.q.z.bytes
 obtain⟨Qka,hQka⟩:∃ Q,numR Qtx.1 1=Q:=⟨_,rfl⟩
 rw [hQka] at hn hf
 have hxka:IntKind.u8.wrap ((Qka.2:Nat):Int)=(Qka.2:Nat):=z2q hf
 have HQka:=hid hQka
 clear hf hQka
 refine hn.mono ?_
 rintro e w6 ⟨rfl,hz,hc⟩
 have HQ6:=hid (HQ5.out.low hz hc)
 clear hn hz hc HQ5
 go_wp2_with fail
 have hn:=z2k HQ6.out.q.z 1
 have hf:=z4c HQ6.out.q.z.bytes
 obtain⟨Qkb,hQkb⟩:∃ Q,numR Qka.1 1=Q:=⟨_,rfl⟩
 rw [hQkb] at hn hf
 have hxkb:IntKind.u8.wrap ((Qkb.2:Nat):Int)=(Qkb.2:Nat):=z2q hf
 have HQkb:=hid hQkb
 clear hf hQkb
 refine hn.mono ?_
 rintro e w7 ⟨rfl,hz,hc⟩
 have HQ7:=hid (HQ6.out.low hz hc)
 clear hn hz hc HQ6
 go_wp2_with fail
 have hn:=z2k HQ7.out.q.z 1
 have hf:=z4c HQ7.out.q.z.bytes
 obtain⟨Qkc,hQkc⟩:∃ Q,numR Qkb.1 1=Q:=⟨_,rfl⟩
 rw [hQkc] at hn hf
 have hxkc:IntKind.u8.wrap ((Qkc.2:Nat):Int)=(Qkc.2:Nat):=z2q hf
 have HQkc:=hid hQkc
 clear hf hQkc
 refine hn.mono ?_
 rintro e w8 ⟨rfl,hz,hc⟩
 have HQ8:=hid (HQ7.out.low hz hc)
 clear hn hz hc HQ7
 obtain⟨w9,hgen,hq⟩:∃ w9,w8.setRow X (rcs { (rm 6 0 ((Qtx.2:Nat):Int) 0 false 0 0 0 0 0) with ka:=((Qka.2:Nat):Int),kb:=((Qkb.2:Nat):Int),kc:=((Qkc.2:Nat):Int) })=w9∧Qp W w9 N B R X Pb #[.bool false,.bool true,.bool false,.bool true,.bool false,.bool false] Qkc.1 (rm 6 0 ((Qtx.2:Nat):Int) 0 false ((Qka.2:Nat):Int) ((Qkb.2:Nat):Int) ((Qkc.2:Nat):Int) 0 0):=⟨_,rfl,HQ8.out.set (rm 6 0 ((Qtx.2:Nat):Int) 0 false ((Qka.2:Nat):Int) ((Qkb.2:Nat):Int) ((Qkc.2:Nat):Int) 0 0)⟩
 have HGEN:=hid hgen
 have HQ9:=hid hq
 clear hgen hq
 go_upto_region 14 with ((with_reducible refine z3h ((Qka.2:Nat):Int) ((Qkb.2:Nat):Int) ((Qkc.2:Nat):Int) HQ8.out.q.x ?_ ?_ ?_);rfl;rfl;rw [HGEN.out])
 clear HGEN hxka hxkb hxkc HQ8
 clear p0 p1 p2 p3 p4 p5
 have p0:=HQ9.out.c (j:=0) (v:=.bool false) rfl
 have p1:=HQ9.out.c (j:=1) (v:=.bool true) rfl
 have p2:=HQ9.out.c (j:=2) (v:=.bool false) rfl
 have p3:=HQ9.out.c (j:=3) (v:=.bool true) rfl
 have p4:=HQ9.out.c (j:=4) (v:=.bool false) rfl
 have p5:=HQ9.out.c (j:=5) (v:=.bool false) rfl
 go_wp2_with fail
 have hn:=zw_int HQ9.out.q.z
 obtain⟨Qd,hQd⟩:∃ Q,numR Qkc.1 8=Q:=⟨_,rfl⟩
 rw [hQd] at hn
 have HQd:=hid hQd
 clear hQd
 refine hn.mono ?_
 rintro e y10 ⟨rfl,hz,hc⟩
 have HQb:=hid (HQ9.out.low hz hc)
 clear hz hc hn HQ9
 clear p0 p1 p2 p3 p4 p5
 obtain⟨cy,cf⟩:=HQb.out.q.cx (j:=8) (v:=.int .i64 0) rfl
 go_upto_region 15 with (fail)
 clear cy cf
 have hq:=HQb.out.put 8 (.int .i64 (sgn Qd.2)) (rm 6 0 ((Qtx.2:Nat):Int) 0 false ((Qka.2:Nat):Int) ((Qkb.2:Nat):Int) ((Qkc.2:Nat):Int) (sgn Qd.2) 0) rfl
 generalize y10.setCell ⟨X,8,none⟩ (.int .i64 (sgn Qd.2))=w10 at *
 have HQ10:=hid hq
 clear hq HQb
 have p0:=HQ10.out.c (j:=0) (v:=.bool false) rfl
 have p1:=HQ10.out.c (j:=1) (v:=.bool true) rfl
 have p2:=HQ10.out.c (j:=2) (v:=.bool false) rfl
 have p3:=HQ10.out.c (j:=3) (v:=.bool true) rfl
 have p4:=HQ10.out.c (j:=4) (v:=.bool false) rfl
 have p5:=HQ10.out.c (j:=5) (v:=.bool false) rfl
 have HRD:=hid (z9y (D:=⟨Qd.1,{ noX with k:=6,sg:=0,tx:=((Qtx.2:Nat):Int),st:=0,cp:=false,key:=(((Qka.2:Nat):Int),((Qkb.2:Nat):Int),((Qkc.2:Nat):Int)),d:=(sgn Qd.2),o:=0 },0⟩) HR0.out HKK.out rfl (by
  simp [rdX,rd3,keyR,HQtx.out,HQka.out,HQkb.out,HQkc.out,HQd.out,noX]))
 go_wp2_with fail
 clear p0 p1 p2 p3 p4 p5
 have HXn:=hid HQ10.out.q.x
 have hd:=HQ10.out.later (show Below w10.heap.size w10 w10.drew from (Below.refl _ _).drew)
 have HQd:=hid hd
 have HBX:Hid (RB w10.drew X (rm 6 0 ((Qtx.2:Nat):Int) 0 false ((Qka.2:Nat):Int) ((Qkb.2:Nat):Int) ((Qkc.2:Nat):Int) (sgn Qd.2) 0)):=hid hd.q.x
 clear hd
 refine wp_region_held_drew (S:=fun w'=>Hid (RB w' X (rm 6 0 ((Qtx.2:Nat):Int) 0 false ((Qka.2:Nat):Int) ((Qkb.2:Nat):Int) ((Qkc.2:Nat):Int) (sgn Qd.2) 0))) (by kernel_rfl) HBX (fun hHeld=>?_)
 refine wpAnyH_take (i:=0) (oi:=⟨some 90,_,_,_,_,_⟩) (v:=.agg (rcs (rm 6 0 ((Qtx.2:Nat):Int) 0 false ((Qka.2:Nat):Int) ((Qkb.2:Nat):Int) ((Qkc.2:Nat):Int) (sgn Qd.2) 0))) rfl (by kernel_rfl) (by kernel_rfl) (by kernel_rfl) (fun _ _ _ h=>h) (Or.inl ⟨by rfl,fun w' hw'=>z1w rfl (Hid.out hw')⟩) (by assumption) ?_
 simp only [Act.put,sIB,sCZ,sCS]
 refine wpAnyH_take (i:=1) (oi:=⟨some 91,_,_,_,_,_⟩) (v:=.pointer (some ⟨B,0,none⟩)) rfl (by kernel_rfl) (by kernel_rfl) (by kernel_rfl) (fun _ _ _ h=>h) (Or.inl ⟨by rfl,fun w' hw'=>?_⟩) (by assumption) ?_
 · clear hHeld
   go_simp
 simp only [Act.put,sIB,sCZ,sCS]
 generalize w10.drew=Wd at *
 refine wpAnyH_ready (rs:=[2]) (by kernel_rfl) (by simp) (AllReadyH.cons rfl (fun K hK=>?_) AllReadyH.nil)
 go_simp
 go_wp2_with fail
 refine (z7c HQd.out.q.z).mono ?_
 rintro e wz ⟨rfl,rfl⟩
 go_wp2_with fail
 refine hK.out _ _ HBX (fun hHeld2=>?_)
 clear hK K hHeld
 have hHeld:=hHeld2
 clear hHeld2
 (try simp only [Act.put,sIB,sCZ,sCS])
 refine wpAnyH_ready (rs:=[3]) (by kernel_rfl) (by simp) (AllReadyH.cons rfl (fun K hK=>?_) AllReadyH.nil)
 rw [if_pos (by rfl)]
 refine wp_store_row 51 _ _ rfl R (rcs (rm 6 0 ((Qtx.2:Nat):Int) 0 false ((Qka.2:Nat):Int) ((Qkb.2:Nat):Int) ((Qkc.2:Nat):Int) (sgn Qd.2) 0)) rfl rfl 51 _ HQd.out.q.res (by kernel_rfl) rfl (z4e _) ?_
 have HB2:Hid (RB (Wd.setRow R (rcs (rm 6 0 ((Qtx.2:Nat):Int) 0 false ((Qka.2:Nat):Int) ((Qkb.2:Nat):Int) ((Qkc.2:Nat):Int) (sgn Qd.2) 0))) X (rm 6 0 ((Qtx.2:Nat):Int) 0 false ((Qka.2:Nat):Int) ((Qkb.2:Nat):Int) ((Qkc.2:Nat):Int) (sgn Qd.2) 0)):=hid ((setRow_other _ _ _ _ (by have:=HQd.out.q.ord;omega)).trans HBX.out)
 refine hK.out _ _ HB2 (fun hHeld2=>?_)
 clear hK K hHeld
 have hHeld:=hHeld2
 clear hHeld2
 (try simp only [Act.put,sIB,sCZ,sCS])
 refine wpAnyH_take (i:=4) (oi:=⟨some 3,_,_,_,_,_⟩) (v:=.int .i64 (endR Qd.1)) rfl (by kernel_rfl) (by kernel_rfl) (by kernel_rfl) (fun _ _ _ h=>h) (Or.inl ⟨by rfl,fun w' hw'=>?_⟩) (by assumption) ?_
 · clear hHeld
   go_simp
 simp only [Act.put,sIB,sCZ,sCS]
 refine wpAnyH_done (by kernel_rfl) ?_ _
 clear hHeld
 have HRF:Hid (RB (Wd.setRow R (rcs (rm 6 0 ((Qtx.2:Nat):Int) 0 false ((Qka.2:Nat):Int) ((Qkb.2:Nat):Int) ((Qkc.2:Nat):Int) (sgn Qd.2) 0))) R (rm 6 0 ((Qtx.2:Nat):Int) 0 false ((Qka.2:Nat):Int) ((Qkb.2:Nat):Int) ((Qkc.2:Nat):Int) (sgn Qd.2) 0)):=hid (HQd.out.q.res.set _)
 have HG:Hid (z2b W B Bs (.returned (.tuple #[.agg (rcs (rm 6 0 ((Qtx.2:Nat):Int) 0 false ((Qka.2:Nat):Int) ((Qkb.2:Nat):Int) ((Qkc.2:Nat):Int) (sgn Qd.2) 0)),.int .i64 (endR Qd.1)])) (Wd.setRow R (rcs (rm 6 0 ((Qtx.2:Nat):Int) 0 false ((Qka.2:Nat):Int) ((Qkb.2:Nat):Int) ((Qkc.2:Nat):Int) (sgn Qd.2) 0)))):=hid (by
  have ho:=HQd.out.q.ord
  have hcc:Chg (fun k=>k=B) W (Wd.setRow R (rcs (rm 6 0 ((Qtx.2:Nat):Int) 0 false ((Qka.2:Nat):Int) ((Qkb.2:Nat):Int) ((Qkc.2:Nat):Int) (sgn Qd.2) 0))):=HQd.out.q.chg.trans (T:=fun k=>k=R) ⟨rfl,rfl,rfl,by simp [World.setRow],fun k _ hn=>setRow_other _ _ _ _ hn⟩ fun k hk e=>by omega
  have hE:z4h Bs=endR Qd.1:=HRD.out.1
  refine⟨(rm 6 0 ((Qtx.2:Nat):Int) 0 false ((Qka.2:Nat):Int) ((Qkb.2:Nat):Int) ((Qkc.2:Nat):Int) (sgn Qd.2) 0),[],[],[],by rw [hE],z2e _ _ _ _ _ _ _ _ _ _ _,fun _=>?_,hcc,(fun a h=>by have h':(none:Option Addr)=some a:=h;cases h'),(fun a h=>by have h':(none:Option Addr)=some a:=h;cases h'),(fun a h=>by have h':(none:Option Addr)=some a:=h;cases h')⟩
  rw [HRD.out.2]
  rfl)
 go_wp2_with fail
 refine bodyPost_ret (v:=.tuple #[.agg (rcs (rm 6 0 ((Qtx.2:Nat):Int) 0 false ((Qka.2:Nat):Int) ((Qkb.2:Nat):Int) ((Qkc.2:Nat):Int) (sgn Qd.2) 0)),.int .i64 (endR Qd.1)]) ?_ rfl HG.out
 exact z1l rfl _ _ R (rm 6 0 ((Qtx.2:Nat):Int) 0 false ((Qka.2:Nat):Int) ((Qkb.2:Nat):Int) ((Qkc.2:Nat):Int) (sgn Qd.2) 0) _ rfl rfl HRF.out
theorem rec_read7 (W:World) (N B:Nat) (Bs:List Nat) (hz:Zw W N B (0,Bs)) (hk:(((numR ((0,Bs):St) 1).2:Nat):Int)=7):Calls Tryz.prog 92 #[.pointer (some ⟨B,0,none⟩)] W (z2b W B Bs):=by
 obtain⟨R,hR⟩:∃ R,W.heap.size=R:=⟨_,rfl⟩
 obtain⟨W0,hW0,hr0,hb0⟩:∃ W0,W.alloc (.cells zr 51)=W0∧RB W0 R rz∧Below W.heap.size W W0:=⟨_,rfl,by rw [← hR];exact z0b W _,(Below.refl _ _).alloc (Nat.le_refl _) _⟩
 have HZ0:=hid (hz.below hb0)
 have HRE:=hid hR
 have HW0:=hid hW0
 have HR0b:=hid hr0
 have HB0:=hid hb0
 have HNR:Hid (N≤R):=hid (by have:=hz.size;omega)
 obtain⟨R0,hR0⟩:∃ Q,numR ((0,Bs):St) 1=Q:=⟨_,rfl⟩
 have hn:=z2k HZ0.out 1
 have hf:=z4c (S:=(0,Bs)) HZ0.out.bytes
 rw [hR0] at hn hf hk
 have HR0:=hid hR0
 have hx0:IntKind.u8.wrap ((R0.2:Nat):Int)=(R0.2:Nat):=z2q hf
 rw [hk] at hn hx0
 have HKK:=hid hk
 clear hR hW0 hr0 hb0 hR0 hf hz hk
 go_enter Tryz.func92,Tryz.ntmps92
 go_upto_region 1 with (fail)
 rw [HW0.out,HRE.out]
 go_wp2_with fail
 refine hn.mono ?_
 rintro e w1 ⟨rfl,hz1,hc1⟩
 obtain⟨X,hX⟩:∃ X,w1.heap.size=X:=⟨_,rfl⟩
 have hRX:R<X:=by have:=z0j HR0b.out;have:=hc1.size;omega
 have hlow:=HZ0.out.low
 have hNR:=HNR.out
 have hres:=HR0b.out.chg hc1 (by omega)
 have hch0:Chg (fun k=>k=B) W w1:=(Chg.of_below (S:=fun k=>k=B) HB0.out).trans hc1 fun _ _ e=>e
 obtain⟨w1a,hw1a,hxa,hba⟩:∃ w1a,w1.alloc (.cells zr 51)=w1a∧RB w1a X rz∧Below w1.heap.size w1 w1a:=⟨_,rfl,by rw [← hX];exact z0b w1 _,(Below.refl _ _).alloc (Nat.le_refl _) _⟩
 have hQa:Qz W w1a N B R X R0.1 rz:=⟨hz1.below hba,hxa,hres.later hba,hch0.trans (Chg.of_below (S:=fun k=>k=B) hba) fun _ _ e=>e,by omega,hRX,by have:=HRE.out;omega⟩
 obtain⟨w2,hw2,hQ2⟩:∃ w2,w1a.setRow X (rcs (rk 7))=w2∧Qz W w2 N B R X R0.1 (rk 7):=⟨_,rfl,hQa.set _⟩
 have HXa:=hid hxa
 have HW1a:=hid hw1a
 have HW2:=hid hw2
 have HQ2:=hid hQ2
 have HXE:=hid hX
 clear hz1 hc1 hX hRX hlow hNR hres hch0 hw1a hxa hba hQa hw2 hQ2 hn
 have c0:w2.cell? ⟨X,0,none⟩=some (.int .u8 7):=z0a HQ2.out.x rfl
 go_wp2_with ((try rw [HXE.out]);(try rw [HW1a.out]);(with_reducible refine z0n (rk 7) HXa.out ?_ ?_ ?_);rfl;rfl;rw [HW2.out])
 have hpa:=z1e 7 w2
 unfold z1d at hpa
 rw [show ptc 7=#[.bool false,.bool true,.bool false,.bool false,.bool false,.bool false] from rfl,show kOk 7=true from rfl] at hpa
 refine hpa.mono ?_
 rintro e w3 ⟨rfl,h3⟩
 have HQ3:=hid (HQ2.out.later h3)
 clear h3 hpa c0 HQ2 hx0
 obtain⟨Pb,hPb⟩:∃ n,w3.heap.size=n:=⟨_,rfl⟩
 obtain⟨w4,hwn,hxn,hbn⟩:∃ w4,(w3.alloc (.cells pz 194)).setRow Pb #[.bool false,.bool true,.bool false,.bool false,.bool false,.bool false]=w4∧w4.heap[Pb]?=some (.cells #[.bool false,.bool true,.bool false,.bool false,.bool false,.bool false] 194 (0,0))∧Below w3.heap.size w3 w4:=⟨_,rfl,by rw [← hPb];exact setRow_heap _ _ _ _ _ _ (z0b w3 _),below_setRow ((Below.refl _ _).alloc (Nat.le_refl _) _) (by omega) _⟩
 have hxz:=z0b w3 (.cells pz 194)
 rw [hPb] at hxz
 have HQ4:Hid (Qp W w4 N B R X Pb #[.bool false,.bool true,.bool false,.bool false,.bool false,.bool false] R0.1 (rk 7)):=hid ⟨HQ3.out.later hbn,hxn,by have:=z0j HQ3.out.x;omega⟩
 have HPZ:=hid hxz
 have HWN:=hid hwn
 have HNN:=hid hPb
 have HS6:Hid ((#[.bool false,.bool true,.bool false,.bool false,.bool false,.bool false]:Array Value).size=6):=hid rfl
 have HA6:Hid ((#[.bool false,.bool true,.bool false,.bool false,.bool false,.bool false]:Array Value).all (·.oneCell')=true):=hid (by simp [Value.oneCell'])
 clear hxz hxn hbn hwn hPb HQ3
 have p0:=HQ4.out.c (j:=0) (v:=.bool false) rfl
 have p1:=HQ4.out.c (j:=1) (v:=.bool true) rfl
 have p2:=HQ4.out.c (j:=2) (v:=.bool false) rfl
 have p3:=HQ4.out.c (j:=3) (v:=.bool false) rfl
 have p4:=HQ4.out.c (j:=4) (v:=.bool false) rfl
 have p5:=HQ4.out.c (j:=5) (v:=.bool false) rfl
 go_wp2_with ((try rw [HNN.out]);(with_reducible refine z0l #[.bool false,.bool true,.bool false,.bool false,.bool false,.bool false] HS6.out HA6.out HPZ.out ?_ ?_ ?_);rfl;rfl;rw [HWN.out])
 have hn:=z2k HQ4.out.q.z 4
 obtain⟨Qtx,hQtx⟩:∃ Q,numR R0.1 4=Q:=⟨_,rfl⟩
 have hf:=z8u HQ4.out.q.z.bytes
 rw [hQtx] at hn hf
 have hxtx:IntKind.u32.wrap ((Qtx.2:Nat):Int)=(Qtx.2:Nat):=z3y hf
 clear hf
 have HQtx:=hid hQtx
 clear hQtx
 refine hn.mono ?_
 rintro e y5 ⟨rfl,hz,hc⟩
 have HQb:=hid (HQ4.out.low hz hc)
 clear hz hc hn HQ4
 clear p0 p1 p2 p3 p4 p5
 obtain⟨cy,cf⟩:=HQb.out.q.cx (j:=2) (v:=.int .u32 0) rfl
 go_upto_region 9 with (fail)
 clear cy cf hxtx
 have hq:=HQb.out.put 2 (.int .u32 ((Qtx.2:Nat):Int)) (rm 7 0 ((Qtx.2:Nat):Int) 0 false 0 0 0 0 0) rfl
 generalize y5.setCell ⟨X,2,none⟩ (.int .u32 ((Qtx.2:Nat):Int))=w5 at *
 have HQ5:=hid hq
 clear hq HQb
 have p0:=HQ5.out.c (j:=0) (v:=.bool false) rfl
 have p1:=HQ5.out.c (j:=1) (v:=.bool true) rfl
 have p2:=HQ5.out.c (j:=2) (v:=.bool false) rfl
 have p3:=HQ5.out.c (j:=3) (v:=.bool false) rfl
 have p4:=HQ5.out.c (j:=4) (v:=.bool false) rfl
 have p5:=HQ5.out.c (j:=5) (v:=.bool false) rfl
 have HRD:=hid (z9y (D:=⟨Qtx.1,{ noX with k:=7,sg:=0,tx:=((Qtx.2:Nat):Int),st:=0,cp:=false,key:=(0,0,0),d:=0,o:=0 },0⟩) HR0.out HKK.out rfl (by
  simp [rdX,rd4,keyR,HQtx.out,noX]))
 go_wp2_with fail
 clear p0 p1 p2 p3 p4 p5
 have HXn:=hid HQ5.out.q.x
 have hd:=HQ5.out.later (show Below w5.heap.size w5 w5.drew from (Below.refl _ _).drew)
 have HQd:=hid hd
 have HBX:Hid (RB w5.drew X (rm 7 0 ((Qtx.2:Nat):Int) 0 false 0 0 0 0 0)):=hid hd.q.x
 clear hd
 refine wp_region_held_drew (S:=fun w'=>Hid (RB w' X (rm 7 0 ((Qtx.2:Nat):Int) 0 false 0 0 0 0 0))) (by kernel_rfl) HBX (fun hHeld=>?_)
 refine wpAnyH_take (i:=0) (oi:=⟨some 90,_,_,_,_,_⟩) (v:=.agg (rcs (rm 7 0 ((Qtx.2:Nat):Int) 0 false 0 0 0 0 0))) rfl (by kernel_rfl) (by kernel_rfl) (by kernel_rfl) (fun _ _ _ h=>h) (Or.inl ⟨by rfl,fun w' hw'=>z1w rfl (Hid.out hw')⟩) (by assumption) ?_
 simp only [Act.put,sIB,sCZ,sCS]
 refine wpAnyH_take (i:=1) (oi:=⟨some 91,_,_,_,_,_⟩) (v:=.pointer (some ⟨B,0,none⟩)) rfl (by kernel_rfl) (by kernel_rfl) (by kernel_rfl) (fun _ _ _ h=>h) (Or.inl ⟨by rfl,fun w' hw'=>?_⟩) (by assumption) ?_
 · clear hHeld
   go_simp
 simp only [Act.put,sIB,sCZ,sCS]
 generalize w5.drew=Wd at *
 refine wpAnyH_ready (rs:=[2]) (by kernel_rfl) (by simp) (AllReadyH.cons rfl (fun K hK=>?_) AllReadyH.nil)
 go_simp
 go_wp2_with fail
 refine (z7c HQd.out.q.z).mono ?_
 rintro e wz ⟨rfl,rfl⟩
 go_wp2_with fail
 refine hK.out _ _ HBX (fun hHeld2=>?_)
 clear hK K hHeld
 have hHeld:=hHeld2
 clear hHeld2
 (try simp only [Act.put,sIB,sCZ,sCS])
 refine wpAnyH_ready (rs:=[3]) (by kernel_rfl) (by simp) (AllReadyH.cons rfl (fun K hK=>?_) AllReadyH.nil)
 rw [if_pos (by rfl)]
 refine wp_store_row 51 _ _ rfl R (rcs (rm 7 0 ((Qtx.2:Nat):Int) 0 false 0 0 0 0 0)) rfl rfl 51 _ HQd.out.q.res (by kernel_rfl) rfl (z4e _) ?_
 have HB2:Hid (RB (Wd.setRow R (rcs (rm 7 0 ((Qtx.2:Nat):Int) 0 false 0 0 0 0 0))) X (rm 7 0 ((Qtx.2:Nat):Int) 0 false 0 0 0 0 0)):=hid ((setRow_other _ _ _ _ (by have:=HQd.out.q.ord;omega)).trans HBX.out)
 refine hK.out _ _ HB2 (fun hHeld2=>?_)
 clear hK K hHeld
 have hHeld:=hHeld2
 clear hHeld2
 (try simp only [Act.put,sIB,sCZ,sCS])
 refine wpAnyH_take (i:=4) (oi:=⟨some 3,_,_,_,_,_⟩) (v:=.int .i64 (endR Qtx.1)) rfl (by kernel_rfl) (by kernel_rfl) (by kernel_rfl) (fun _ _ _ h=>h) (Or.inl ⟨by rfl,fun w' hw'=>?_⟩) (by assumption) ?_
 · clear hHeld
   go_simp
 simp only [Act.put,sIB,sCZ,sCS]
 refine wpAnyH_done (by kernel_rfl) ?_ _
 clear hHeld
 have HRF:Hid (RB (Wd.setRow R (rcs (rm 7 0 ((Qtx.2:Nat):Int) 0 false 0 0 0 0 0))) R (rm 7 0 ((Qtx.2:Nat):Int) 0 false 0 0 0 0 0)):=hid (HQd.out.q.res.set _)
 have HG:Hid (z2b W B Bs (.returned (.tuple #[.agg (rcs (rm 7 0 ((Qtx.2:Nat):Int) 0 false 0 0 0 0 0)),.int .i64 (endR Qtx.1)])) (Wd.setRow R (rcs (rm 7 0 ((Qtx.2:Nat):Int) 0 false 0 0 0 0 0)))):=hid (by
  have ho:=HQd.out.q.ord
  have hcc:Chg (fun k=>k=B) W (Wd.setRow R (rcs (rm 7 0 ((Qtx.2:Nat):Int) 0 false 0 0 0 0 0))):=HQd.out.q.chg.trans (T:=fun k=>k=R) ⟨rfl,rfl,rfl,by simp [World.setRow],fun k _ hn=>setRow_other _ _ _ _ hn⟩ fun k hk e=>by omega
  have hE:z4h Bs=endR Qtx.1:=HRD.out.1
  refine⟨(rm 7 0 ((Qtx.2:Nat):Int) 0 false 0 0 0 0 0),[],[],[],by rw [hE],z2e _ _ _ _ _ _ _ _ _ _ _,fun _=>?_,hcc,(fun a h=>by have h':(none:Option Addr)=some a:=h;cases h'),(fun a h=>by have h':(none:Option Addr)=some a:=h;cases h'),(fun a h=>by have h':(none:Option Addr)=some a:=h;cases h')⟩
  rw [HRD.out.2]
  rfl)
 go_wp2_with fail
 refine bodyPost_ret (v:=.tuple #[.agg (rcs (rm 7 0 ((Qtx.2:Nat):Int) 0 false 0 0 0 0 0)),.int .i64 (endR Qtx.1)]) ?_ rfl HG.out
 exact z1l rfl _ _ R (rm 7 0 ((Qtx.2:Nat):Int) 0 false 0 0 0 0 0) _ rfl rfl HRF.out
theorem rec_read8 (W:World) (N B:Nat) (Bs:List Nat) (hz:Zw W N B (0,Bs)) (hk:(((numR ((0,Bs):St) 1).2:Nat):Int)=8):Calls Tryz.prog 92 #[.pointer (some ⟨B,0,none⟩)] W (z2b W B Bs):=by
 obtain⟨R,hR⟩:∃ R,W.heap.size=R:=⟨_,rfl⟩
 obtain⟨W0,hW0,hr0,hb0⟩:∃ W0,W.alloc (.cells zr 51)=W0∧RB W0 R rz∧Below W.heap.size W W0:=⟨_,rfl,by rw [← hR];exact z0b W _,(Below.refl _ _).alloc (Nat.le_refl _) _⟩
 have HZ0:=hid (hz.below hb0)
 have HRE:=hid hR
 have HW0:=hid hW0
 have HR0b:=hid hr0
 have HB0:=hid hb0
 have HNR:Hid (N≤R):=hid (by have:=hz.size;omega)
 obtain⟨R0,hR0⟩:∃ Q,numR ((0,Bs):St) 1=Q:=⟨_,rfl⟩
 have hn:=z2k HZ0.out 1
 have hf:=z4c (S:=(0,Bs)) HZ0.out.bytes
 rw [hR0] at hn hf hk
 have HR0:=hid hR0
 have hx0:IntKind.u8.wrap ((R0.2:Nat):Int)=(R0.2:Nat):=z2q hf
 rw [hk] at hn hx0
 have HKK:=hid hk
 clear hR hW0 hr0 hb0 hR0 hf hz hk
 go_enter Tryz.func92,Tryz.ntmps92
 go_upto_region 1 with (fail)
 rw [HW0.out,HRE.out]
 go_wp2_with fail
 refine hn.mono ?_
 rintro e w1 ⟨rfl,hz1,hc1⟩
 obtain⟨X,hX⟩:∃ X,w1.heap.size=X:=⟨_,rfl⟩
 have hRX:R<X:=by have:=z0j HR0b.out;have:=hc1.size;omega
 have hlow:=HZ0.out.low
 have hNR:=HNR.out
 have hres:=HR0b.out.chg hc1 (by omega)
 have hch0:Chg (fun k=>k=B) W w1:=(Chg.of_below (S:=fun k=>k=B) HB0.out).trans hc1 fun _ _ e=>e
 obtain⟨w1a,hw1a,hxa,hba⟩:∃ w1a,w1.alloc (.cells zr 51)=w1a∧RB w1a X rz∧Below w1.heap.size w1 w1a:=⟨_,rfl,by rw [← hX];exact z0b w1 _,(Below.refl _ _).alloc (Nat.le_refl _) _⟩
 have hQa:Qz W w1a N B R X R0.1 rz:=⟨hz1.below hba,hxa,hres.later hba,hch0.trans (Chg.of_below (S:=fun k=>k=B) hba) fun _ _ e=>e,by omega,hRX,by have:=HRE.out;omega⟩
 obtain⟨w2,hw2,hQ2⟩:∃ w2,w1a.setRow X (rcs (rk 8))=w2∧Qz W w2 N B R X R0.1 (rk 8):=⟨_,rfl,hQa.set _⟩
 have HXa:=hid hxa
 have HW1a:=hid hw1a
 have HW2:=hid hw2
 have HQ2:=hid hQ2
 have HXE:=hid hX
 clear hz1 hc1 hX hRX hlow hNR hres hch0 hw1a hxa hba hQa hw2 hQ2 hn
 have c0:w2.cell? ⟨X,0,none⟩=some (.int .u8 8):=z0a HQ2.out.x rfl
 go_wp2_with ((try rw [HXE.out]);(try rw [HW1a.out]);(with_reducible refine z0n (rk 8) HXa.out ?_ ?_ ?_);rfl;rfl;rw [HW2.out])
 have hpa:=z1e 8 w2
 unfold z1d at hpa
 rw [show ptc 8=#[.bool true,.bool false,.bool false,.bool false,.bool false,.bool false] from rfl,show kOk 8=true from rfl] at hpa
 refine hpa.mono ?_
 rintro e w3 ⟨rfl,h3⟩
 have HQ3:=hid (HQ2.out.later h3)
 clear h3 hpa c0 HQ2 hx0
 obtain⟨Pb,hPb⟩:∃ n,w3.heap.size=n:=⟨_,rfl⟩
 obtain⟨w4,hwn,hxn,hbn⟩:∃ w4,(w3.alloc (.cells pz 194)).setRow Pb #[.bool true,.bool false,.bool false,.bool false,.bool false,.bool false]=w4∧w4.heap[Pb]?=some (.cells #[.bool true,.bool false,.bool false,.bool false,.bool false,.bool false] 194 (0,0))∧Below w3.heap.size w3 w4:=⟨_,rfl,by rw [← hPb];exact setRow_heap _ _ _ _ _ _ (z0b w3 _),below_setRow ((Below.refl _ _).alloc (Nat.le_refl _) _) (by omega) _⟩
 have hxz:=z0b w3 (.cells pz 194)
 rw [hPb] at hxz
 have HQ4:Hid (Qp W w4 N B R X Pb #[.bool true,.bool false,.bool false,.bool false,.bool false,.bool false] R0.1 (rk 8)):=hid ⟨HQ3.out.later hbn,hxn,by have:=z0j HQ3.out.x;omega⟩
 have HPZ:=hid hxz
 have HWN:=hid hwn
 have HNN:=hid hPb
 have HS6:Hid ((#[.bool true,.bool false,.bool false,.bool false,.bool false,.bool false]:Array Value).size=6):=hid rfl
 have HA6:Hid ((#[.bool true,.bool false,.bool false,.bool false,.bool false,.bool false]:Array Value).all (·.oneCell')=true):=hid (by simp [Value.oneCell'])
 clear hxz hxn hbn hwn hPb HQ3
 have p0:=HQ4.out.c (j:=0) (v:=.bool true) rfl
 have p1:=HQ4.out.c (j:=1) (v:=.bool false) rfl
 have p2:=HQ4.out.c (j:=2) (v:=.bool false) rfl
 have p3:=HQ4.out.c (j:=3) (v:=.bool false) rfl
 have p4:=HQ4.out.c (j:=4) (v:=.bool false) rfl
 have p5:=HQ4.out.c (j:=5) (v:=.bool false) rfl
 go_wp2_with ((try rw [HNN.out]);(with_reducible refine z0l #[.bool true,.bool false,.bool false,.bool false,.bool false,.bool false] HS6.out HA6.out HPZ.out ?_ ?_ ?_);rfl;rfl;rw [HWN.out])
 have hn:=z2k HQ4.out.q.z 4
 obtain⟨Qsg,hQsg⟩:∃ Q,numR R0.1 4=Q:=⟨_,rfl⟩
 have hf:=z8u HQ4.out.q.z.bytes
 rw [hQsg] at hn hf
 have hxsg:IntKind.u32.wrap ((Qsg.2:Nat):Int)=(Qsg.2:Nat):=z3y hf
 clear hf
 have HQsg:=hid hQsg
 clear hQsg
 refine hn.mono ?_
 rintro e y5 ⟨rfl,hz,hc⟩
 have HQb:=hid (HQ4.out.low hz hc)
 clear hz hc hn HQ4
 clear p0 p1 p2 p3 p4 p5
 obtain⟨cy,cf⟩:=HQb.out.q.cx (j:=1) (v:=.int .u32 0) rfl
 go_upto_region 7 with (fail)
 clear cy cf hxsg
 have hq:=HQb.out.put 1 (.int .u32 ((Qsg.2:Nat):Int)) (rm 8 ((Qsg.2:Nat):Int) 0 0 false 0 0 0 0 0) rfl
 generalize y5.setCell ⟨X,1,none⟩ (.int .u32 ((Qsg.2:Nat):Int))=w5 at *
 have HQ5:=hid hq
 clear hq HQb
 have p0:=HQ5.out.c (j:=0) (v:=.bool true) rfl
 have p1:=HQ5.out.c (j:=1) (v:=.bool false) rfl
 have p2:=HQ5.out.c (j:=2) (v:=.bool false) rfl
 have p3:=HQ5.out.c (j:=3) (v:=.bool false) rfl
 have p4:=HQ5.out.c (j:=4) (v:=.bool false) rfl
 have p5:=HQ5.out.c (j:=5) (v:=.bool false) rfl
 have HRD:=hid (z9y (D:=⟨Qsg.1,{ noX with k:=8,sg:=((Qsg.2:Nat):Int),tx:=0,st:=0,cp:=false,key:=(0,0,0),d:=0,o:=0 },0⟩) HR0.out HKK.out rfl (by
  simp [rdX,rd8,keyR,HQsg.out,noX]))
 go_wp2_with fail
 clear p0 p1 p2 p3 p4 p5
 have HXn:=hid HQ5.out.q.x
 have hd:=HQ5.out.later (show Below w5.heap.size w5 w5.drew from (Below.refl _ _).drew)
 have HQd:=hid hd
 have HBX:Hid (RB w5.drew X (rm 8 ((Qsg.2:Nat):Int) 0 0 false 0 0 0 0 0)):=hid hd.q.x
 clear hd
 refine wp_region_held_drew (S:=fun w'=>Hid (RB w' X (rm 8 ((Qsg.2:Nat):Int) 0 0 false 0 0 0 0 0))) (by kernel_rfl) HBX (fun hHeld=>?_)
 refine wpAnyH_take (i:=0) (oi:=⟨some 90,_,_,_,_,_⟩) (v:=.agg (rcs (rm 8 ((Qsg.2:Nat):Int) 0 0 false 0 0 0 0 0))) rfl (by kernel_rfl) (by kernel_rfl) (by kernel_rfl) (fun _ _ _ h=>h) (Or.inl ⟨by rfl,fun w' hw'=>z1w rfl (Hid.out hw')⟩) (by assumption) ?_
 simp only [Act.put,sIB,sCZ,sCS]
 refine wpAnyH_take (i:=1) (oi:=⟨some 91,_,_,_,_,_⟩) (v:=.pointer (some ⟨B,0,none⟩)) rfl (by kernel_rfl) (by kernel_rfl) (by kernel_rfl) (fun _ _ _ h=>h) (Or.inl ⟨by rfl,fun w' hw'=>?_⟩) (by assumption) ?_
 · clear hHeld
   go_simp
 simp only [Act.put,sIB,sCZ,sCS]
 generalize w5.drew=Wd at *
 refine wpAnyH_ready (rs:=[2]) (by kernel_rfl) (by simp) (AllReadyH.cons rfl (fun K hK=>?_) AllReadyH.nil)
 go_simp
 go_wp2_with fail
 refine (z7c HQd.out.q.z).mono ?_
 rintro e wz ⟨rfl,rfl⟩
 go_wp2_with fail
 refine hK.out _ _ HBX (fun hHeld2=>?_)
 clear hK K hHeld
 have hHeld:=hHeld2
 clear hHeld2
 (try simp only [Act.put,sIB,sCZ,sCS])
 refine wpAnyH_ready (rs:=[3]) (by kernel_rfl) (by simp) (AllReadyH.cons rfl (fun K hK=>?_) AllReadyH.nil)
 rw [if_pos (by rfl)]
 refine wp_store_row 51 _ _ rfl R (rcs (rm 8 ((Qsg.2:Nat):Int) 0 0 false 0 0 0 0 0)) rfl rfl 51 _ HQd.out.q.res (by kernel_rfl) rfl (z4e _) ?_
 have HB2:Hid (RB (Wd.setRow R (rcs (rm 8 ((Qsg.2:Nat):Int) 0 0 false 0 0 0 0 0))) X (rm 8 ((Qsg.2:Nat):Int) 0 0 false 0 0 0 0 0)):=hid ((setRow_other _ _ _ _ (by have:=HQd.out.q.ord;omega)).trans HBX.out)
 refine hK.out _ _ HB2 (fun hHeld2=>?_)
 clear hK K hHeld
 have hHeld:=hHeld2
 clear hHeld2
 (try simp only [Act.put,sIB,sCZ,sCS])
 refine wpAnyH_take (i:=4) (oi:=⟨some 3,_,_,_,_,_⟩) (v:=.int .i64 (endR Qsg.1)) rfl (by kernel_rfl) (by kernel_rfl) (by kernel_rfl) (fun _ _ _ h=>h) (Or.inl ⟨by rfl,fun w' hw'=>?_⟩) (by assumption) ?_
 · clear hHeld
   go_simp
 simp only [Act.put,sIB,sCZ,sCS]
 refine wpAnyH_done (by kernel_rfl) ?_ _
 clear hHeld
 have HRF:Hid (RB (Wd.setRow R (rcs (rm 8 ((Qsg.2:Nat):Int) 0 0 false 0 0 0 0 0))) R (rm 8 ((Qsg.2:Nat):Int) 0 0 false 0 0 0 0 0)):=hid (HQd.out.q.res.set _)
 have HG:Hid (z2b W B Bs (.returned (.tuple #[.agg (rcs (rm 8 ((Qsg.2:Nat):Int) 0 0 false 0 0 0 0 0)),.int .i64 (endR Qsg.1)])) (Wd.setRow R (rcs (rm 8 ((Qsg.2:Nat):Int) 0 0 false 0 0 0 0 0)))):=hid (by
  have ho:=HQd.out.q.ord
  have hcc:Chg (fun k=>k=B) W (Wd.setRow R (rcs (rm 8 ((Qsg.2:Nat):Int) 0 0 false 0 0 0 0 0))):=HQd.out.q.chg.trans (T:=fun k=>k=R) ⟨rfl,rfl,rfl,by simp [World.setRow],fun k _ hn=>setRow_other _ _ _ _ hn⟩ fun k hk e=>by omega
  have hE:z4h Bs=endR Qsg.1:=HRD.out.1
  refine⟨(rm 8 ((Qsg.2:Nat):Int) 0 0 false 0 0 0 0 0),[],[],[],by rw [hE],z2e _ _ _ _ _ _ _ _ _ _ _,fun _=>?_,hcc,(fun a h=>by have h':(none:Option Addr)=some a:=h;cases h'),(fun a h=>by have h':(none:Option Addr)=some a:=h;cases h'),(fun a h=>by have h':(none:Option Addr)=some a:=h;cases h')⟩
  rw [HRD.out.2]
  rfl)
 go_wp2_with fail
 refine bodyPost_ret (v:=.tuple #[.agg (rcs (rm 8 ((Qsg.2:Nat):Int) 0 0 false 0 0 0 0 0)),.int .i64 (endR Qsg.1)]) ?_ rfl HG.out
 exact z1l rfl _ _ R (rm 8 ((Qsg.2:Nat):Int) 0 0 false 0 0 0 0 0) _ rfl rfl HRF.out
theorem rec_read9 (W:World) (N B:Nat) (Bs:List Nat) (hz:Zw W N B (0,Bs)) (hk:(((numR ((0,Bs):St) 1).2:Nat):Int)=9):Calls Tryz.prog 92 #[.pointer (some ⟨B,0,none⟩)] W (z2b W B Bs):=by
 obtain⟨R,hR⟩:∃ R,W.heap.size=R:=⟨_,rfl⟩
 obtain⟨W0,hW0,hr0,hb0⟩:∃ W0,W.alloc (.cells zr 51)=W0∧RB W0 R rz∧Below W.heap.size W W0:=⟨_,rfl,by rw [← hR];exact z0b W _,(Below.refl _ _).alloc (Nat.le_refl _) _⟩
 have HZ0:=hid (hz.below hb0)
 have HRE:=hid hR
 have HW0:=hid hW0
 have HR0b:=hid hr0
 have HB0:=hid hb0
 have HNR:Hid (N≤R):=hid (by have:=hz.size;omega)
 obtain⟨R0,hR0⟩:∃ Q,numR ((0,Bs):St) 1=Q:=⟨_,rfl⟩
 have hn:=z2k HZ0.out 1
 have hf:=z4c (S:=(0,Bs)) HZ0.out.bytes
 rw [hR0] at hn hf hk
 have HR0:=hid hR0
 have hx0:IntKind.u8.wrap ((R0.2:Nat):Int)=(R0.2:Nat):=z2q hf
 rw [hk] at hn hx0
 have HKK:=hid hk
 clear hR hW0 hr0 hb0 hR0 hf hz hk
 go_enter Tryz.func92,Tryz.ntmps92
 go_upto_region 1 with (fail)
 rw [HW0.out,HRE.out]
 go_wp2_with fail
 refine hn.mono ?_
 rintro e w1 ⟨rfl,hz1,hc1⟩
 obtain⟨X,hX⟩:∃ X,w1.heap.size=X:=⟨_,rfl⟩
 have hRX:R<X:=by have:=z0j HR0b.out;have:=hc1.size;omega
 have hlow:=HZ0.out.low
 have hNR:=HNR.out
 have hres:=HR0b.out.chg hc1 (by omega)
 have hch0:Chg (fun k=>k=B) W w1:=(Chg.of_below (S:=fun k=>k=B) HB0.out).trans hc1 fun _ _ e=>e
 obtain⟨w1a,hw1a,hxa,hba⟩:∃ w1a,w1.alloc (.cells zr 51)=w1a∧RB w1a X rz∧Below w1.heap.size w1 w1a:=⟨_,rfl,by rw [← hX];exact z0b w1 _,(Below.refl _ _).alloc (Nat.le_refl _) _⟩
 have hQa:Qz W w1a N B R X R0.1 rz:=⟨hz1.below hba,hxa,hres.later hba,hch0.trans (Chg.of_below (S:=fun k=>k=B) hba) fun _ _ e=>e,by omega,hRX,by have:=HRE.out;omega⟩
 obtain⟨w2,hw2,hQ2⟩:∃ w2,w1a.setRow X (rcs (rk 9))=w2∧Qz W w2 N B R X R0.1 (rk 9):=⟨_,rfl,hQa.set _⟩
 have HXa:=hid hxa
 have HW1a:=hid hw1a
 have HW2:=hid hw2
 have HQ2:=hid hQ2
 have HXE:=hid hX
 clear hz1 hc1 hX hRX hlow hNR hres hch0 hw1a hxa hba hQa hw2 hQ2 hn
 have c0:w2.cell? ⟨X,0,none⟩=some (.int .u8 9):=z0a HQ2.out.x rfl
 go_wp2_with ((try rw [HXE.out]);(try rw [HW1a.out]);(with_reducible refine z0n (rk 9) HXa.out ?_ ?_ ?_);rfl;rfl;rw [HW2.out])
 have hpa:=z1e 9 w2
 unfold z1d at hpa
 rw [show ptc 9=#[.bool true,.bool false,.bool false,.bool false,.bool true,.bool false] from rfl,show kOk 9=true from rfl] at hpa
 refine hpa.mono ?_
 rintro e w3 ⟨rfl,h3⟩
 have HQ3:=hid (HQ2.out.later h3)
 clear h3 hpa c0 HQ2 hx0
 obtain⟨Pb,hPb⟩:∃ n,w3.heap.size=n:=⟨_,rfl⟩
 obtain⟨w4,hwn,hxn,hbn⟩:∃ w4,(w3.alloc (.cells pz 194)).setRow Pb #[.bool true,.bool false,.bool false,.bool false,.bool true,.bool false]=w4∧w4.heap[Pb]?=some (.cells #[.bool true,.bool false,.bool false,.bool false,.bool true,.bool false] 194 (0,0))∧Below w3.heap.size w3 w4:=⟨_,rfl,by rw [← hPb];exact setRow_heap _ _ _ _ _ _ (z0b w3 _),below_setRow ((Below.refl _ _).alloc (Nat.le_refl _) _) (by omega) _⟩
 have hxz:=z0b w3 (.cells pz 194)
 rw [hPb] at hxz
 have HQ4:Hid (Qp W w4 N B R X Pb #[.bool true,.bool false,.bool false,.bool false,.bool true,.bool false] R0.1 (rk 9)):=hid ⟨HQ3.out.later hbn,hxn,by have:=z0j HQ3.out.x;omega⟩
 have HPZ:=hid hxz
 have HWN:=hid hwn
 have HNN:=hid hPb
 have HS6:Hid ((#[.bool true,.bool false,.bool false,.bool false,.bool true,.bool false]:Array Value).size=6):=hid rfl
 have HA6:Hid ((#[.bool true,.bool false,.bool false,.bool false,.bool true,.bool false]:Array Value).all (·.oneCell')=true):=hid (by simp [Value.oneCell'])
 clear hxz hxn hbn hwn hPb HQ3
 have p0:=HQ4.out.c (j:=0) (v:=.bool true) rfl
 have p1:=HQ4.out.c (j:=1) (v:=.bool false) rfl
 have p2:=HQ4.out.c (j:=2) (v:=.bool false) rfl
 have p3:=HQ4.out.c (j:=3) (v:=.bool false) rfl
 have p4:=HQ4.out.c (j:=4) (v:=.bool true) rfl
 have p5:=HQ4.out.c (j:=5) (v:=.bool false) rfl
 go_wp2_with ((try rw [HNN.out]);(with_reducible refine z0l #[.bool true,.bool false,.bool false,.bool false,.bool true,.bool false] HS6.out HA6.out HPZ.out ?_ ?_ ?_);rfl;rfl;rw [HWN.out])
 have hn:=z2k HQ4.out.q.z 4
 obtain⟨Qsg,hQsg⟩:∃ Q,numR R0.1 4=Q:=⟨_,rfl⟩
 have hf:=z8u HQ4.out.q.z.bytes
 rw [hQsg] at hn hf
 have hxsg:IntKind.u32.wrap ((Qsg.2:Nat):Int)=(Qsg.2:Nat):=z3y hf
 clear hf
 have HQsg:=hid hQsg
 clear hQsg
 refine hn.mono ?_
 rintro e y5 ⟨rfl,hz,hc⟩
 have HQb:=hid (HQ4.out.low hz hc)
 clear hz hc hn HQ4
 clear p0 p1 p2 p3 p4 p5
 obtain⟨cy,cf⟩:=HQb.out.q.cx (j:=1) (v:=.int .u32 0) rfl
 go_upto_region 7 with (fail)
 clear cy cf hxsg
 have hq:=HQb.out.put 1 (.int .u32 ((Qsg.2:Nat):Int)) (rm 9 ((Qsg.2:Nat):Int) 0 0 false 0 0 0 0 0) rfl
 generalize y5.setCell ⟨X,1,none⟩ (.int .u32 ((Qsg.2:Nat):Int))=w5 at *
 have HQ5:=hid hq
 clear hq HQb
 have p0:=HQ5.out.c (j:=0) (v:=.bool true) rfl
 have p1:=HQ5.out.c (j:=1) (v:=.bool false) rfl
 have p2:=HQ5.out.c (j:=2) (v:=.bool false) rfl
 have p3:=HQ5.out.c (j:=3) (v:=.bool false) rfl
 have p4:=HQ5.out.c (j:=4) (v:=.bool true) rfl
 have p5:=HQ5.out.c (j:=5) (v:=.bool false) rfl
 go_wp2_with fail
 have hn:=z2k HQ5.out.q.z 1
 obtain⟨Qo,hQo⟩:∃ Q,numR Qsg.1 1=Q:=⟨_,rfl⟩
 have hf:=z4c HQ5.out.q.z.bytes
 rw [hQo] at hn hf
 have hxo:IntKind.u8.wrap ((Qo.2:Nat):Int)=(Qo.2:Nat):=z2q hf
 clear hf
 have HQo:=hid hQo
 clear hQo
 refine hn.mono ?_
 rintro e y6 ⟨rfl,hz,hc⟩
 have HQb:=hid (HQ5.out.low hz hc)
 clear hz hc hn HQ5
 clear p0 p1 p2 p3 p4 p5
 obtain⟨cy,cf⟩:=HQb.out.q.cx (j:=9) (v:=.int .u8 0) rfl
 go_upto_region 17 with (fail)
 clear cy cf hxo
 have hq:=HQb.out.put 9 (.int .u8 ((Qo.2:Nat):Int)) (rm 9 ((Qsg.2:Nat):Int) 0 0 false 0 0 0 0 ((Qo.2:Nat):Int)) rfl
 generalize y6.setCell ⟨X,9,none⟩ (.int .u8 ((Qo.2:Nat):Int))=w6 at *
 have HQ6:=hid hq
 clear hq HQb
 have p0:=HQ6.out.c (j:=0) (v:=.bool true) rfl
 have p1:=HQ6.out.c (j:=1) (v:=.bool false) rfl
 have p2:=HQ6.out.c (j:=2) (v:=.bool false) rfl
 have p3:=HQ6.out.c (j:=3) (v:=.bool false) rfl
 have p4:=HQ6.out.c (j:=4) (v:=.bool true) rfl
 have p5:=HQ6.out.c (j:=5) (v:=.bool false) rfl
 have HRD:=hid (z9y (D:=⟨Qo.1,{ noX with k:=9,sg:=((Qsg.2:Nat):Int),tx:=0,st:=0,cp:=false,key:=(0,0,0),d:=0,o:=((Qo.2:Nat):Int) },0⟩) HR0.out HKK.out rfl (by
  simp [rdX,rd9,keyR,HQsg.out,HQo.out,noX]))
 go_wp2_with fail
 clear p0 p1 p2 p3 p4 p5
 have HXn:=hid HQ6.out.q.x
 have hd:=HQ6.out.later (show Below w6.heap.size w6 w6.drew from (Below.refl _ _).drew)
 have HQd:=hid hd
 have HBX:Hid (RB w6.drew X (rm 9 ((Qsg.2:Nat):Int) 0 0 false 0 0 0 0 ((Qo.2:Nat):Int))):=hid hd.q.x
 clear hd
 refine wp_region_held_drew (S:=fun w'=>Hid (RB w' X (rm 9 ((Qsg.2:Nat):Int) 0 0 false 0 0 0 0 ((Qo.2:Nat):Int)))) (by kernel_rfl) HBX (fun hHeld=>?_)
 refine wpAnyH_take (i:=0) (oi:=⟨some 90,_,_,_,_,_⟩) (v:=.agg (rcs (rm 9 ((Qsg.2:Nat):Int) 0 0 false 0 0 0 0 ((Qo.2:Nat):Int)))) rfl (by kernel_rfl) (by kernel_rfl) (by kernel_rfl) (fun _ _ _ h=>h) (Or.inl ⟨by rfl,fun w' hw'=>z1w rfl (Hid.out hw')⟩) (by assumption) ?_
 simp only [Act.put,sIB,sCZ,sCS]
 refine wpAnyH_take (i:=1) (oi:=⟨some 91,_,_,_,_,_⟩) (v:=.pointer (some ⟨B,0,none⟩)) rfl (by kernel_rfl) (by kernel_rfl) (by kernel_rfl) (fun _ _ _ h=>h) (Or.inl ⟨by rfl,fun w' hw'=>?_⟩) (by assumption) ?_
 · clear hHeld
   go_simp
 simp only [Act.put,sIB,sCZ,sCS]
 generalize w6.drew=Wd at *
 refine wpAnyH_ready (rs:=[2]) (by kernel_rfl) (by simp) (AllReadyH.cons rfl (fun K hK=>?_) AllReadyH.nil)
 go_simp
 go_wp2_with fail
 refine (z7c HQd.out.q.z).mono ?_
 rintro e wz ⟨rfl,rfl⟩
 go_wp2_with fail
 refine hK.out _ _ HBX (fun hHeld2=>?_)
 clear hK K hHeld
 have hHeld:=hHeld2
 clear hHeld2
 (try simp only [Act.put,sIB,sCZ,sCS])
 refine wpAnyH_ready (rs:=[3]) (by kernel_rfl) (by simp) (AllReadyH.cons rfl (fun K hK=>?_) AllReadyH.nil)
 rw [if_pos (by rfl)]
 refine wp_store_row 51 _ _ rfl R (rcs (rm 9 ((Qsg.2:Nat):Int) 0 0 false 0 0 0 0 ((Qo.2:Nat):Int))) rfl rfl 51 _ HQd.out.q.res (by kernel_rfl) rfl (z4e _) ?_
 have HB2:Hid (RB (Wd.setRow R (rcs (rm 9 ((Qsg.2:Nat):Int) 0 0 false 0 0 0 0 ((Qo.2:Nat):Int)))) X (rm 9 ((Qsg.2:Nat):Int) 0 0 false 0 0 0 0 ((Qo.2:Nat):Int))):=hid ((setRow_other _ _ _ _ (by have:=HQd.out.q.ord;omega)).trans HBX.out)
 refine hK.out _ _ HB2 (fun hHeld2=>?_)
 clear hK K hHeld
 have hHeld:=hHeld2
 clear hHeld2
 (try simp only [Act.put,sIB,sCZ,sCS])
 refine wpAnyH_take (i:=4) (oi:=⟨some 3,_,_,_,_,_⟩) (v:=.int .i64 (endR Qo.1)) rfl (by kernel_rfl) (by kernel_rfl) (by kernel_rfl) (fun _ _ _ h=>h) (Or.inl ⟨by rfl,fun w' hw'=>?_⟩) (by assumption) ?_
 · clear hHeld
   go_simp
 simp only [Act.put,sIB,sCZ,sCS]
 refine wpAnyH_done (by kernel_rfl) ?_ _
 clear hHeld
 have HRF:Hid (RB (Wd.setRow R (rcs (rm 9 ((Qsg.2:Nat):Int) 0 0 false 0 0 0 0 ((Qo.2:Nat):Int)))) R (rm 9 ((Qsg.2:Nat):Int) 0 0 false 0 0 0 0 ((Qo.2:Nat):Int))):=hid (HQd.out.q.res.set _)
 have HG:Hid (z2b W B Bs (.returned (.tuple #[.agg (rcs (rm 9 ((Qsg.2:Nat):Int) 0 0 false 0 0 0 0 ((Qo.2:Nat):Int))),.int .i64 (endR Qo.1)])) (Wd.setRow R (rcs (rm 9 ((Qsg.2:Nat):Int) 0 0 false 0 0 0 0 ((Qo.2:Nat):Int))))):=hid (by
  have ho:=HQd.out.q.ord
  have hcc:Chg (fun k=>k=B) W (Wd.setRow R (rcs (rm 9 ((Qsg.2:Nat):Int) 0 0 false 0 0 0 0 ((Qo.2:Nat):Int)))):=HQd.out.q.chg.trans (T:=fun k=>k=R) ⟨rfl,rfl,rfl,by simp [World.setRow],fun k _ hn=>setRow_other _ _ _ _ hn⟩ fun k hk e=>by omega
  have hE:z4h Bs=endR Qo.1:=HRD.out.1
  refine⟨(rm 9 ((Qsg.2:Nat):Int) 0 0 false 0 0 0 0 ((Qo.2:Nat):Int)),[],[],[],by rw [hE],z2e _ _ _ _ _ _ _ _ _ _ _,fun _=>?_,hcc,(fun a h=>by have h':(none:Option Addr)=some a:=h;cases h'),(fun a h=>by have h':(none:Option Addr)=some a:=h;cases h'),(fun a h=>by have h':(none:Option Addr)=some a:=h;cases h')⟩
  rw [HRD.out.2]
  rfl)
 go_wp2_with fail
 refine bodyPost_ret (v:=.tuple #[.agg (rcs (rm 9 ((Qsg.2:Nat):Int) 0 0 false 0 0 0 0 ((Qo.2:Nat):Int))),.int .i64 (endR Qo.1)]) ?_ rfl HG.out
 exact z1l rfl _ _ R (rm 9 ((Qsg.2:Nat):Int) 0 0 false 0 0 0 0 ((Qo.2:Nat):Int)) _ rfl rfl HRF.out
theorem rec_readx (W:World) (N B:Nat) (Bs:List Nat) (hz:Zw W N B (0,Bs)) (kk:Int) (hko:kOk kk=false) (hk:(((numR ((0,Bs):St) 1).2:Nat):Int)=kk):Calls Tryz.prog 92 #[.pointer (some ⟨B,0,none⟩)] W (z2b W B Bs):=by
 have HPK:Hid (ptc kk=pz∧kOk kk=false):=hid ⟨by obtain⟨e1,e2,e3,e4,e5,e6,e7,e8,e9⟩:=not_kOk hko;unfold ptc kS kT kB kA kO kP;simp [e1,e2,e3,e4,e5,e6,e7,e8,e9],hko⟩
 clear hko
 obtain⟨R,hR⟩:∃ R,W.heap.size=R:=⟨_,rfl⟩
 obtain⟨W0,hW0,hr0,hb0⟩:∃ W0,W.alloc (.cells zr 51)=W0∧RB W0 R rz∧Below W.heap.size W W0:=⟨_,rfl,by rw [← hR];exact z0b W _,(Below.refl _ _).alloc (Nat.le_refl _) _⟩
 have HZ0:=hid (hz.below hb0)
 have HRE:=hid hR
 have HW0:=hid hW0
 have HR0b:=hid hr0
 have HB0:=hid hb0
 have HNR:Hid (N≤R):=hid (by have:=hz.size;omega)
 obtain⟨R0,hR0⟩:∃ Q,numR ((0,Bs):St) 1=Q:=⟨_,rfl⟩
 have hn:=z2k HZ0.out 1
 have hf:=z4c (S:=(0,Bs)) HZ0.out.bytes
 rw [hR0] at hn hf hk
 have HR0:=hid hR0
 have hx0:IntKind.u8.wrap ((R0.2:Nat):Int)=(R0.2:Nat):=z2q hf
 rw [hk] at hn hx0
 have HKK:=hid hk
 clear hR hW0 hr0 hb0 hR0 hf hz hk
 have HE:=hid (rd_bad HR0.out HKK.out HPK.out.2)
 obtain⟨er,her⟩:∃ er,(if R0.1.1≠0 then R0.1.1 else 8)=er:=⟨_,rfl⟩
 rw [her] at HE
 have HER:=hid her
 have HNE:Hid (er≠0):=hid (by rw [← her];split <;> omega)
 clear her
 go_enter Tryz.func92,Tryz.ntmps92
 go_upto_region 1 with (fail)
 rw [HW0.out,HRE.out]
 go_wp2_with fail
 refine hn.mono ?_
 rintro e w1 ⟨rfl,hz1,hc1⟩
 obtain⟨X,hX⟩:∃ X,w1.heap.size=X:=⟨_,rfl⟩
 have hRX:R<X:=by have:=z0j HR0b.out;have:=hc1.size;omega
 have hlow:=HZ0.out.low
 have hNR:=HNR.out
 have hres:=HR0b.out.chg hc1 (by omega)
 have hch0:Chg (fun k=>k=B) W w1:=(Chg.of_below (S:=fun k=>k=B) HB0.out).trans hc1 fun _ _ e=>e
 obtain⟨w1a,hw1a,hxa,hba⟩:∃ w1a,w1.alloc (.cells zr 51)=w1a∧RB w1a X rz∧Below w1.heap.size w1 w1a:=⟨_,rfl,by rw [← hX];exact z0b w1 _,(Below.refl _ _).alloc (Nat.le_refl _) _⟩
 have hQa:Qz W w1a N B R X R0.1 rz:=⟨hz1.below hba,hxa,hres.later hba,hch0.trans (Chg.of_below (S:=fun k=>k=B) hba) fun _ _ e=>e,by omega,hRX,by have:=HRE.out;omega⟩
 obtain⟨w2,hw2,hQ2⟩:∃ w2,w1a.setRow X (rcs (rk kk))=w2∧Qz W w2 N B R X R0.1 (rk kk):=⟨_,rfl,hQa.set _⟩
 have HXa:=hid hxa
 have HW1a:=hid hw1a
 have HW2:=hid hw2
 have HQ2:=hid hQ2
 have HXE:=hid hX
 clear hz1 hc1 hX hRX hlow hNR hres hch0 hw1a hxa hba hQa hw2 hQ2 hn
 have c0:w2.cell? ⟨X,0,none⟩=some (.int .u8 kk):=z0a HQ2.out.x rfl
 go_wp2_with ((try rw [HXE.out]);(try rw [HW1a.out]);(with_reducible refine z0n (rk kk) HXa.out ?_ ?_ ?_);rfl;rfl;rw [HW2.out])
 have hpa:=z1e kk w2
 unfold z1d at hpa
 rw [HPK.out.1,HPK.out.2] at hpa
 refine hpa.mono ?_
 rintro e w3 ⟨rfl,h3⟩
 have HQ3:=hid (HQ2.out.later h3)
 clear h3 hpa c0 HQ2 hx0
 obtain⟨Pb,hPb⟩:∃ n,w3.heap.size=n:=⟨_,rfl⟩
 obtain⟨w4,hwn,hxn,hbn⟩:∃ w4,(w3.alloc (.cells pz 194)).setRow Pb #[.bool false,.bool false,.bool false,.bool false,.bool false,.bool false]=w4∧w4.heap[Pb]?=some (.cells #[.bool false,.bool false,.bool false,.bool false,.bool false,.bool false] 194 (0,0))∧Below w3.heap.size w3 w4:=⟨_,rfl,by rw [← hPb];exact setRow_heap _ _ _ _ _ _ (z0b w3 _),below_setRow ((Below.refl _ _).alloc (Nat.le_refl _) _) (by omega) _⟩
 have hxz:=z0b w3 (.cells pz 194)
 rw [hPb] at hxz
 have HQ4:Hid (Qp W w4 N B R X Pb #[.bool false,.bool false,.bool false,.bool false,.bool false,.bool false] R0.1 (rk kk)):=hid ⟨HQ3.out.later hbn,hxn,by have:=z0j HQ3.out.x;omega⟩
 have HPZ:=hid hxz
 have HWN:=hid hwn
 have HNN:=hid hPb
 have HS6:Hid ((#[.bool false,.bool false,.bool false,.bool false,.bool false,.bool false]:Array Value).size=6):=hid rfl
 have HA6:Hid ((#[.bool false,.bool false,.bool false,.bool false,.bool false,.bool false]:Array Value).all (·.oneCell')=true):=hid (by simp [Value.oneCell'])
 clear hxz hxn hbn hwn hPb HQ3
 go_wp2_with ((try rw [HNN.out]);(with_reducible refine z0l #[.bool false,.bool false,.bool false,.bool false,.bool false,.bool false] HS6.out HA6.out HPZ.out ?_ ?_ ?_);rfl;rfl;rw [HWN.out])
 have hd:=HQ4.out.later (show Below w4.heap.size w4 w4.drew from (Below.refl _ _).drew)
 have HQd:=hid hd
 have HBX:Hid (RB w4.drew X (rk kk)):=hid hd.q.x
 clear hd
 refine wp_region_held_drew (S:=fun w'=>Hid (RB w' X (rk kk))) (by kernel_rfl) HBX (fun hHeld=>?_)
 refine wpAnyH_take (i:=0) (oi:=⟨some 22,_,_,_,_,_⟩) (v:=.agg (rcs (rk kk))) rfl (by kernel_rfl) (by kernel_rfl) (by kernel_rfl) (fun _ _ _ h=>h) (Or.inl ⟨by rfl,fun w' hw'=>z1w rfl (Hid.out hw')⟩) (by assumption) ?_
 simp only [Act.put,sIB,sCZ,sCS]
 refine wpAnyH_take (i:=1) (oi:=⟨some 23,_,_,_,_,_⟩) (v:=.pointer (some ⟨B,0,none⟩)) rfl (by kernel_rfl) (by kernel_rfl) (by kernel_rfl) (fun _ _ _ h=>h) (Or.inl ⟨by rfl,fun w' hw'=>?_⟩) (by assumption) ?_
 · clear hHeld
   go_simp
 simp only [Act.put,sIB,sCZ,sCS]
 generalize w4.drew=Wd at *
 refine wpAnyH_ready (rs:=[2]) (by kernel_rfl) (by simp) (AllReadyH.cons rfl (fun K hK=>?_) AllReadyH.nil)
 go_simp
 go_wp2_with fail
 refine (zw_err HQd.out.q.z).mono ?_
 rintro e wz ⟨rfl,rfl⟩
 go_wp2_with fail
 refine hK.out _ _ HBX (fun hHeld2=>?_)
 clear hK K hHeld
 have hHeld:=hHeld2
 clear hHeld2
 (try simp only [Act.put,sIB,sCZ,sCS])
 obtain⟨w6,hw6,hbx6,hb6⟩:∃ w6,(Wd.alloc (.cells #[.int .i64 R0.1.1,.int .i64 8] 56))=w6∧w6.heap[Wd.heap.size]?=some (.cells #[.int .i64 R0.1.1,.int .i64 8] 56 (0,0))∧Below Wd.heap.size Wd w6:=⟨_,rfl,z0b Wd _,(Below.refl _ _).alloc (Nat.le_refl _) _⟩
 have HQ6:=hid (HQd.out.later hb6)
 have HB6:Hid (RB w6 X (rk kk)):=hid HQ6.out.q.x
 have HX6:=hid hbx6
 have HW6:=hid hw6
 clear hw6 hbx6 hb6
 refine wpAnyH_ready (rs:=[3]) (by kernel_rfl) (by simp) (AllReadyH.cons rfl (fun K hK=>?_) AllReadyH.nil)
 go_simp
 rw [HW6.out]
 refine hK.out _ _ HB6 (fun hHeld2=>?_)
 clear hK K hHeld
 have hHeld:=hHeld2
 clear hHeld2
 (try simp only [Act.put,sIB,sCZ,sCS])
 refine wpAnyH_ready (rs:=[4]) (by kernel_rfl) (by simp) (AllReadyH.cons rfl (fun K hK=>?_) AllReadyH.nil)
 go_simp
 go_wp2_with fail
 have hor:=or_errno Wd.heap.size R0.1.1 8 w6 (z0a HX6.out rfl) (z0a HX6.out rfl)
 rw [HER.out] at hor
 refine hor.mono ?_
 rintro e x7 ⟨rfl,hb7⟩
 have HQ7:=hid (HQ6.out.later hb7)
 have HB7:Hid (RB x7 X (rk kk)):=hid HQ7.out.q.x
 clear hb7 hor
 go_wp2_with fail
 refine hK.out _ _ HB7 (fun hHeld2=>?_)
 clear hK K hHeld
 have hHeld:=hHeld2
 clear hHeld2
 (try simp only [Act.put,sIB,sCZ,sCS])
 refine wpAnyH_ready (rs:=[5]) (by kernel_rfl) (by simp) (AllReadyH.cons rfl (fun K hK=>?_) AllReadyH.nil)
 rw [if_pos (by rfl)]
 refine wp_store_row 51 _ _ rfl R (rcs (rk kk)) rfl rfl 51 _ HQ7.out.q.res (by kernel_rfl) rfl (z4e _) ?_
 have HB2:Hid (RB (x7.setRow R (rcs (rk kk))) X (rk kk)):=hid ((setRow_other _ _ _ _ (by have:=HQ7.out.q.ord;omega)).trans HB7.out)
 refine hK.out _ _ HB2 (fun hHeld2=>?_)
 clear hK K hHeld
 have hHeld:=hHeld2
 clear hHeld2
 (try simp only [Act.put,sIB,sCZ,sCS])
 refine wpAnyH_take (i:=6) (oi:=⟨some 3,_,_,_,_,_⟩) (v:=.int .i64 er) rfl (by kernel_rfl) (by kernel_rfl) (by kernel_rfl) (fun _ _ _ h=>h) (Or.inl ⟨by rfl,fun w' hw'=>?_⟩) (by assumption) ?_
 · clear hHeld
   go_simp
 simp only [Act.put,sIB,sCZ,sCS]
 refine wpAnyH_done (by kernel_rfl) ?_ _
 clear hHeld
 have HRF:Hid (RB (x7.setRow R (rcs (rk kk))) R (rk kk)):=hid (HQ7.out.q.res.set _)
 have HG:Hid (z2b W B Bs (.returned (.tuple #[.agg (rcs (rk kk)),.int .i64 er])) (x7.setRow R (rcs (rk kk)))):=hid (by
  have ho:=HQ7.out.q.ord
  have hcc:Chg (fun k=>k=B) W (x7.setRow R (rcs (rk kk))):=HQ7.out.q.chg.trans (T:=fun k=>k=R) ⟨rfl,rfl,rfl,by simp [World.setRow],fun k _ hn=>setRow_other _ _ _ _ hn⟩ fun k hk e=>by omega
  exact⟨(rk kk),[],[],[],by rw [HE.out],no_lists ⟨rfl,rfl,rfl,rfl,rfl,rfl,rfl,rfl,rfl⟩ _,fun h=>absurd (HE.out.symm.trans h) HNE.out,hcc,(fun a h=>by have h':(none:Option Addr)=some a:=h;cases h'),(fun a h=>by have h':(none:Option Addr)=some a:=h;cases h'),(fun a h=>by have h':(none:Option Addr)=some a:=h;cases h')⟩)
 (try simp only [Exit.inBlock,Exit.then])
 go_wp2_with fail
 refine bodyPost_ret (v:=.tuple #[.agg (rcs (rk kk)),.int .i64 er]) ?_ rfl HG.out
 exact z1l rfl _ _ R (rk kk) _ rfl rfl HRF.out
theorem rec_read (W:World) (N B:Nat) (Bs:List Nat) (hz:Zw W N B (0,Bs)) (hw:∀ w,Chg (fun k=>k=B) W w→Words w):Calls Tryz.prog 92 #[.pointer (some ⟨B,0,none⟩)] W (z2b W B Bs):=by
 obtain⟨kk,hkk⟩:∃ kk:Int,(((numR ((0,Bs):St) 1).2:Nat):Int)=kk:=⟨_,rfl⟩
 cases hko:kOk kk with
 | true =>
  rcases z4b hko with h | h | h | h | h | h | h | h | h <;> rw [h] at hkk
  · exact rec_read1 W N B Bs hz hw hkk
  · exact rec_read2 W N B Bs hz hkk
  · exact rec_read3 W N B Bs hz hkk
  · exact rec_read4 W N B Bs hz hkk
  · exact rec_read5 W N B Bs hz hkk
  · exact rec_read6 W N B Bs hz hkk
  · exact rec_read7 W N B Bs hz hkk
  · exact rec_read8 W N B Bs hz hkk
  · exact rec_read9 W N B Bs hz hkk
 | false=>exact rec_readx W N B Bs hz kk hko hkk
theorem decP_small (B:List Nat):(decP B).2.lines.length≤3∧(decP B).2.takes.length≤12∧(decP B).2.owes.length≤3:=by
 unfold decP
 split
 · exact⟨Nat.zero_le _,Nat.zero_le _,Nat.zero_le _⟩
 · split
   · exact⟨z4j _ _ _,z4j _ _ _,z4j _ _ _⟩
   · exact⟨Nat.zero_le _,Nat.zero_le _,Nat.zero_le _⟩
theorem decP_ok {B:List Nat} (hB:∀ y∈B,y<256):Pgok (decP B).2:=by
 by_cases h:(decP B).1=0
 · exact (enc_dec hB h).2.2
 · unfold decP at h ⊢
   split
   · exact z5v
   · rename_i h1
     rw [if_neg h1] at h
     split
     · rename_i h2
       rw [if_pos h2] at h
       exact absurd rfl h
     · exact z5v
theorem z8o {x:Nat} (h:x<256):(0:Int)≤(x:Nat)∧((x:Nat):Int)≤255:=by omega
theorem z4p {x:Nat} (h:x<4294967296):(0:Int)≤(x:Nat)∧((x:Nat):Int)≤4294967295:=by omega
theorem rdX_ok {k:Int} (hk:kOk k=true) {S:St} (h:∀ y∈S.2,y<256):Rxok (rdX k S).rx∧(rdX k S).rx.pg.lines.length≤3∧(rdX k S).rx.pg.takes.length≤12∧(rdX k S).rx.pg.owes.length≤3:=by
 have h4:=z8u h
 have b4:=z0o h 4
 have hz:(0:Int)≤0∧(0:Int)≤255:=by omega
 have hz4:(0:Int)≤0∧(0:Int)≤4294967295:=by omega
 have hk0:Kok ((0,0,0):K):=⟨hz,hz,hz⟩
 have hd0:In64 0:=by simp [In64]
 have hn:([]:List Ln).length≤3∧([]:List Tk).length≤12∧([]:List Ln).length≤3:=⟨Nat.zero_le _,Nat.zero_le _,Nat.zero_le _⟩
 rcases z4b hk with e | e | e | e | e | e | e | e | e <;> subst e
 · rw [show rdX 1 S=rd1 S from rfl]
   unfold rd1
   dsimp only
   have hb:=bytesR_lt b4 512
   split
   · exact⟨⟨⟨by show (0:Int)≤1;omega,by show (1:Int)≤255;omega⟩,z4p h4,hz4,hz,hk0,hd0,hz,decP_ok hb⟩,decP_small _⟩
   · exact⟨⟨⟨by show (0:Int)≤1;omega,by show (1:Int)≤255;omega⟩,z4p h4,hz4,hz,hk0,hd0,hz,z5v⟩,hn⟩
 · rw [show rdX 2 S=rd2 S from rfl]
   unfold rd2
   dsimp only
   exact⟨⟨⟨by show (0:Int)≤2;omega,by show (2:Int)≤255;omega⟩,z4p h4,z4p (z8u b4),z8o (z4c (z0o b4 4)),hk0,hd0,hz,z5v⟩,hn⟩
 · rw [show rdX 3 S=rd3 3 S from rfl]
   unfold rd3 keyR
   dsimp only
   have b5:=z0o b4 1
   have b6:=z0o b5 1
   have b7:=z0o b6 1
   exact⟨⟨⟨by show (0:Int)≤3;omega,by show (3:Int)≤255;omega⟩,hz4,z4p h4,hz,⟨z8o (z4c b4),z8o (z4c b5),z8o (z4c b6)⟩,q0c (fit8 b7),hz,z5v⟩,hn⟩
 · rw [show rdX 4 S=rd4 4 S from rfl]
   exact⟨⟨⟨by show (0:Int)≤4;omega,by show (4:Int)≤255;omega⟩,hz4,z4p h4,hz,hk0,hd0,hz,z5v⟩,hn⟩
 · rw [show rdX 5 S=rd4 5 S from rfl]
   exact⟨⟨⟨by show (0:Int)≤5;omega,by show (5:Int)≤255;omega⟩,hz4,z4p h4,hz,hk0,hd0,hz,z5v⟩,hn⟩
 · rw [show rdX 6 S=rd3 6 S from rfl]
   unfold rd3 keyR
   dsimp only
   have b5:=z0o b4 1
   have b6:=z0o b5 1
   have b7:=z0o b6 1
   exact⟨⟨⟨by show (0:Int)≤6;omega,by show (6:Int)≤255;omega⟩,hz4,z4p h4,hz,⟨z8o (z4c b4),z8o (z4c b5),z8o (z4c b6)⟩,q0c (fit8 b7),hz,z5v⟩,hn⟩
 · rw [show rdX 7 S=rd4 7 S from rfl]
   exact⟨⟨⟨by show (0:Int)≤7;omega,by show (7:Int)≤255;omega⟩,hz4,z4p h4,hz,hk0,hd0,hz,z5v⟩,hn⟩
 · rw [show rdX 8 S=rd8 S from rfl]
   exact⟨⟨⟨by show (0:Int)≤8;omega,by show (8:Int)≤255;omega⟩,z4p h4,hz4,hz,hk0,hd0,hz,z5v⟩,hn⟩
 · rw [show rdX 9 S=rd9 S from rfl]
   exact⟨⟨⟨by show (0:Int)≤9;omega,by show (9:Int)≤255;omega⟩,z4p h4,hz4,hz,hk0,hd0,z8o (z4c b4),z5v⟩,hn⟩
theorem decX_eq (Bs:List Nat):decX Bs=if z4h Bs≠0 then (z4h Bs,noX) else if z1b (rdX (((numR (0,Bs) 1).2:Nat):Int) (numR (0,Bs) 1).1).rx=true then (0,(rdX (((numR (0,Bs) 1).2:Nat):Int) (numR (0,Bs) 1).1).rx) else (8,noX):=by
 unfold decX z4h
 dsimp only
 by_cases hk:kOk (((numR (0,Bs) 1).2:Nat):Int)=true
 · rw [if_pos hk,if_pos hk]
 · rw [if_neg hk,if_neg hk]
   have hne:(if (numR (0,Bs) 1).1.1≠0 then (numR (0,Bs) 1).1.1 else 8)≠0:=by split <;> omega
   rw [if_pos hne]
theorem readE_ok {Bs:List Nat} (hB:∀ y∈Bs,y<256) (h:z4h Bs=0):Rxok (rdX (((numR (0,Bs) 1).2:Nat):Int) (numR (0,Bs) 1).1).rx∧(rdX (((numR (0,Bs) 1).2:Nat):Int) (numR (0,Bs) 1).1).rx.pg.lines.length≤3∧(rdX (((numR (0,Bs) 1).2:Nat):Int) (numR (0,Bs) 1).1).rx.pg.takes.length≤12∧(rdX (((numR (0,Bs) 1).2:Nat):Int) (numR (0,Bs) 1).1).rx.pg.owes.length≤3:=by
 cases hk:kOk (((numR (0,Bs) 1).2:Nat):Int) with
 | true=>exact rdX_ok hk (z0o (S:=(0,Bs)) hB 1)
 | false =>
  unfold z4h at h
  rw [hk,if_neg (by decide)] at h
  split at h
  · rename_i h1;exact absurd h h1
  · exact absurd h (by decide)
def Nw (W:World) (r:Rv):Prop:=(∀ a,r.lp=some a→W.heap.size≤a.block)∧(∀ a,r.tp=some a→W.heap.size≤a.block)∧(∀ a,r.wp=some a→W.heap.size≤a.block)
theorem nw_rz (W:World):Nw W rz:=⟨(fun a h=>by cases h),(fun a h=>by cases h),fun a h=>by cases h⟩
def q1d (W:World) (res:Int × Rx) (e:Ending) (w':World):Prop:=∃ r L T M,e=.returned (.tuple #[.agg (rcs r),.int .i64 res.1])∧r.x L T M=res.2∧RvM w' r L T M∧Below W.heap.size W w'∧Nw W r
theorem rec_decode (p:Option Addr) (n c:Nat) (Bs:List Nat) (W:World) (hw:Words W) (hS:Sl W p n c Bs) (hn:n≤600) :
 Calls Tryz.prog 49 #[.slice p n c] W (q1d W (decX Bs)):=by
 obtain⟨R,hR⟩:∃ R,W.heap.size=R:=⟨_,rfl⟩
 obtain⟨W0,hW0,hr0,hb0⟩:∃ W0,W.alloc (.cells zr 51)=W0∧RB W0 R rz∧Below W.heap.size W W0:=⟨_,rfl,by rw [← hR];exact z0b W _,(Below.refl _ _).alloc (Nat.le_refl _) _⟩
 have hrd:=q0n p n c Bs W0 (hS.later hb0) (by omega)
 have HLN:Hid (Bs.length≤1000):=hid (by have:=hS.len;omega)
 have HBY:Hid (∀ y∈Bs,y<256):=hid hS.lt
 have HRD:=hid hrd
 have HW0:=hid hW0
 have HR0:=hid hr0
 have HB0:=hid hb0
 have HWD:=hid hw
 have HRE:=hid hR
 have HDX:=hid (decX_eq Bs)
 clear hW0 hr0 hb0 hrd hS hw hR hn
 go_enter Tryz.func49,Tryz.ntmps49
 go_upto_region 1 with (fail)
 rw [HW0.out,HRE.out]
 go_wp2_with fail
 refine HRD.out.mono ?_
 rintro e w1 ⟨B,p',c',rfl,hB,hrd,hpb,hb1⟩
 have hBl:=hrd.lt
 have hs01:=hb1.size
 have hRlt:=z0j HR0.out
 have hZ:Zw w1 w1.heap.size B (0,Bs):=⟨⟨p',c',hrd,fun a ha=>by have:=(hpb a ha).2;omega⟩,hBl,Nat.le_refl _,HLN.out,HBY.out⟩
 have hlow:W.heap.size≤B:=by have:=HB0.out.size;omega
 have HBW:=hid (fun w (hc:Chg (fun k=>k=B) w1 w)=>Chg.below (W:=W) (B:=W.heap.size) (HB0.out.trans (hb1.mono HB0.out.size)) (by have:=HB0.out.size;omega) hc fun k hk=>by omega)
 have hrr:=rec_read w1 w1.heap.size B Bs hZ (fun w hc=>HWD.out.later (HBW.out w hc))
 have HR1:=hid (HR0.out.later hb1)
 have HRB:Hid (R≠B):=hid (by omega)
 clear hB hrd hpb hb1 hBl hs01 hRlt hZ hlow HRD
 go_wp2_with fail
 refine hrr.mono ?_
 rintro e w2 ⟨r,L,T,M,rfl,hm,hx,hc,hf1,hf2,hf3⟩
 have HFR:Hid ((∀ a,r.lp=some a→R<a.block)∧(∀ a,r.tp=some a→R<a.block)∧(∀ a,r.wp=some a→R<a.block)):=hid (by
  have:=z0j HR1.out
  exact⟨fun a h=>by have:=hf1 a h;omega,fun a h=>by have:=hf2 a h;omega,fun a h=>by have:=hf3 a h;omega⟩)
 clear hf1 hf2 hf3
 have HB2:=hid (HBW.out w2 hc)
 have HR2:=hid (HR1.out.chg hc HRB.out)
 have HX:=hid hx
 have HM:=hid hm
 clear hm hx hc hrr HR1 HRB HBW
 obtain⟨ec,hec⟩:∃ z,z4h Bs=z:=⟨_,rfl⟩
 rw [hec]
 have HEC:=hid hec
 clear hec
 obtain⟨N2,hN2⟩:∃ n,w2.heap.size=n:=⟨_,rfl⟩
 obtain⟨w3,hwn,hxn,hbn⟩:∃ w3,(w2.alloc (.cells zr 51)).setRow N2 (rcs r)=w3∧RB w3 N2 r∧Below w2.heap.size w2 w3:=⟨_,rfl,by rw [← hN2];exact setRow_heap _ _ _ _ _ _ (z0b w2 _),below_setRow ((Below.refl _ _).alloc (Nat.le_refl _) _) (by omega) _⟩
 have hxz:RB (w2.alloc (.cells zr 51)) N2 rz:=by rw [← hN2];exact z0b w2 _
 have HX3:=hid hxn
 have HXZ:=hid hxz
 have HR3:=hid (HR2.out.later hbn)
 have HB3:=hid (HB2.out.trans (hbn.mono HB2.out.size))
 have HM3:=hid (HM.out.later hbn)
 have HWN:=hid hwn
 have HNN:=hid hN2
 have HWR:Hid (W.heap.size≤R):=hid (by have:=HRE.out;omega)
 clear hwn hxn hbn hxz hN2 HM HR2
 by_cases h0:ec=0
 case neg =>
  have d0:(ec != 0)=true:=by simpa using h0
  have HRF:=hid (HR3.out.set rz)
  have HG:Hid (q1d W (decX Bs) (.returned (.tuple #[.agg zr,.int .i64 ec])) (w3.setRow R zr)):=hid (by
   have hp:decX Bs=(ec,noX):=by rw [HDX.out,if_pos (by rw [HEC.out];exact h0),HEC.out]
   rw [hp]
   exact⟨rz,[],[],[],rfl,rfl,rz_m _,below_setRow HB3.out HWR.out zr,nw_rz _⟩)
  clear h0
  go_wp2_with (first | ((try rw [HNN.out]);(with_reducible refine z0n r HXZ.out ?_ ?_ ?_);rfl;rfl;rw [HWN.out]) | ((with_reducible refine z0n rz HR3.out ?_ ?_ ?_);rfl;rfl))
  (try simp only [Exit.inBlock,Exit.then])
  refine bodyPost_ret (v:=.tuple #[.agg zr,.int .i64 ec]) ?_ rfl HG.out
  exact z1l rfl _ _ R rz _ rfl rfl HRF.out
 have d0:(ec != 0)=false:=by simp [h0]
 have he0:z4h Bs=0:=HEC.out.trans h0
 have hx:=HX.out he0
 obtain⟨hok,hs1,hs2,hs3⟩:=readE_ok HBY.out he0
 rw [← hx] at hok hs1 hs2 hs3
 have hdx:=HDX.out
 rw [if_neg (fun h=>h he0),← hx] at hdx
 have hgd:=rec_good r L T M w3 (HWD.out.later HB3.out) HM3.out hok ⟨by have:=HM3.out.l.len;have h:L.length≤3:=hs1;omega,by have:=HM3.out.t.len;have h:T.length≤12:=hs2;omega,by have:=HM3.out.o.len;have h:M.length≤3:=hs3;omega⟩
 have HDD:=hid hdx
 clear hdx hok hs1 hs2 hs3 hx he0 HDX HX
 go_wp2_with (first | ((try rw [HNN.out]);(with_reducible refine z0n r HXZ.out ?_ ?_ ?_);rfl;rfl;rw [HWN.out]) | ((with_reducible refine z0z HX3.out ?_ ?_);rfl))
 refine hgd.mono ?_
 rintro e w4 ⟨rfl,hb4⟩
 have HB4:=hid (HB3.out.trans (hb4.mono HB3.out.size))
 have HR4:=hid (HR3.out.later hb4)
 have HX4:=hid (HX3.out.later hb4)
 have HM4:=hid (HM3.out.later hb4)
 clear hb4 hgd
 cases hg:z1b (r.x L T M)
 case false =>
  have HRF:=hid (HR4.out.set rz)
  have HG:Hid (q1d W (decX Bs) (.returned (.tuple #[.agg zr,.int .i64 8])) (w4.setRow R zr)):=hid (by
   have hp:decX Bs=(8,noX):=by rw [HDD.out,if_neg (by rw [hg];decide)]
   rw [hp]
   exact⟨rz,[],[],[],rfl,rfl,rz_m _,below_setRow HB4.out HWR.out zr,nw_rz _⟩)
  go_wp2_with ((with_reducible refine z0n rz HR4.out ?_ ?_ ?_);rfl;rfl)
  (try simp only [Exit.inBlock,Exit.then])
  refine bodyPost_ret (v:=.tuple #[.agg zr,.int .i64 8]) ?_ rfl HG.out
  exact z1l rfl _ _ R rz _ rfl rfl HRF.out
 have HRF:=hid (HR4.out.set r)
 have HG:Hid (q1d W (decX Bs) (.returned (.tuple #[.agg (rcs r),.int .i64 0])) (w4.setRow R (rcs r))):=hid (by
  have hp:decX Bs=(0,r.x L T M):=by rw [HDD.out,if_pos hg]
  rw [hp]
  exact⟨r,L,T,M,rfl,rfl,q0p HM4.out (S:=fun k=>k=R) ⟨rfl,rfl,rfl,by simp [World.setRow],fun k _ hn=>setRow_other _ _ _ _ hn⟩ (fun a h e=>by have:=HFR.out.1 a h;omega) (fun a h e=>by have:=HFR.out.2.1 a h;omega) (fun a h e=>by have:=HFR.out.2.2 a h;omega),below_setRow HB4.out HWR.out (rcs r),(fun a h=>by have:=HFR.out.1 a h;have:=HRE.out;omega),(fun a h=>by have:=HFR.out.2.1 a h;have:=HRE.out;omega),fun a h=>by have:=HFR.out.2.2 a h;have:=HRE.out;omega⟩)
 clear hg
 go_wp2_with (first | ((with_reducible refine z0z HX4.out ?_ ?_);rfl) | ((with_reducible refine z0n r HR4.out ?_ ?_ ?_);rfl;rfl))
 (try simp only [Exit.inBlock,Exit.then])
 refine bodyPost_ret (v:=.tuple #[.agg (rcs r),.int .i64 0]) ?_ rfl HG.out
 exact z1l rfl _ _ R r _ rfl rfl HRF.out
theorem gk1 (sg tx st:Int) (cp:Bool) (key:K) (d o:Int) (pg:Pg):z1b ⟨1,sg,tx,st,cp,key,d,o,pg⟩=((sg != 0) && z0t 4 4 pg && decide ((⟨1,sg,tx,st,cp,key,d,o,pg⟩:Rx)=⟨1,sg,0,0,false,(0,0,0),0,0,pg⟩)):=by
 rw [Bool.eq_iff_iff]
 simp [z1b,kOk,kS,kT,kB,kA,kO,kP,z7x,addB,outB,z8c]
 grind
theorem gk2 (sg tx st:Int) (cp:Bool) (key:K) (d o:Int) (pg:Pg):z1b ⟨2,sg,tx,st,cp,key,d,o,pg⟩=((sg != 0) && (tx != 0) && decide (st<5) && decide ((⟨2,sg,tx,st,cp,key,d,o,pg⟩:Rx)=⟨2,sg,tx,st,cp,(0,0,0),0,0,noP⟩)):=by
 rw [Bool.eq_iff_iff]
 simp [z1b,kOk,kS,kT,kB,kA,kO,kP,z7x,addB,outB,z8c]
 grind
theorem gk3 (sg tx st:Int) (cp:Bool) (key:K) (d o:Int) (pg:Pg) (hd:In64 d):z1b ⟨3,sg,tx,st,cp,key,d,o,pg⟩=((tx != 0) && z4i 4 4 key.1 key.2.1 key.2.2 && (d != 0) && decide (-9223372036854775807≤d) && decide ((⟨3,sg,tx,st,cp,key,d,o,pg⟩:Rx)=⟨3,0,tx,0,false,key,d,0,noP⟩)):=by
 have h1:=hd.1
 have h2:(d != -9223372036854775808)=decide (-9223372036854775807≤d):=by
  rw [Bool.eq_iff_iff];simp;omega
 rw [Bool.eq_iff_iff]
 simp [z1b,kOk,kS,kT,kB,kA,kO,kP,z7x,addB,outB,z8c,h2]
 grind
theorem gk6 (sg tx st:Int) (cp:Bool) (key:K) (d o:Int) (pg:Pg) (hd:In64 d):z1b ⟨6,sg,tx,st,cp,key,d,o,pg⟩=((tx != 0) && z4i 4 4 key.1 key.2.1 key.2.2 && (d != 0) && decide (-9223372036854775807≤d) && decide ((⟨6,sg,tx,st,cp,key,d,o,pg⟩:Rx)=⟨6,0,tx,0,false,key,d,0,noP⟩)):=by
 have h1:=hd.1
 have h2:(d != -9223372036854775808)=decide (-9223372036854775807≤d):=by
  rw [Bool.eq_iff_iff];simp;omega
 rw [Bool.eq_iff_iff]
 simp [z1b,kOk,kS,kT,kB,kA,kO,kP,z7x,addB,outB,z8c,h2]
 grind
theorem gk4 (k sg tx st:Int) (cp:Bool) (key:K) (d o:Int) (pg:Pg) (hk:k=4∨k=5∨k=7):z1b ⟨k,sg,tx,st,cp,key,d,o,pg⟩=((tx != 0) && decide ((⟨k,sg,tx,st,cp,key,d,o,pg⟩:Rx)=⟨k,0,tx,0,false,(0,0,0),0,0,noP⟩)):=by
 rw [Bool.eq_iff_iff]
 rcases hk with rfl | rfl | rfl <;> simp [z1b,kOk,kS,kT,kB,kA,kO,kP,z7x,addB,outB,z8c] <;> grind
theorem gk8 (sg tx st:Int) (cp:Bool) (key:K) (d o:Int) (pg:Pg):z1b ⟨8,sg,tx,st,cp,key,d,o,pg⟩=((sg != 0) && decide ((⟨8,sg,tx,st,cp,key,d,o,pg⟩:Rx)=⟨8,sg,0,0,false,(0,0,0),0,0,noP⟩)):=by
 rw [Bool.eq_iff_iff]
 simp [z1b,kOk,kS,kT,kB,kA,kO,kP,z7x,addB,outB,z8c]
 grind
theorem gk9 (sg tx st:Int) (cp:Bool) (key:K) (d o:Int) (pg:Pg):z1b ⟨9,sg,tx,st,cp,key,d,o,pg⟩=((sg != 0) && ((o==1) || (o==2)) && decide ((⟨9,sg,tx,st,cp,key,d,o,pg⟩:Rx)=⟨9,sg,0,0,false,(0,0,0),0,o,noP⟩)):=by
 rw [Bool.eq_iff_iff]
 simp [z1b,kOk,kS,kT,kB,kA,kO,kP,z7x,addB,outB,z8c]
 grind
theorem q1u {x:Nat} (h:x<256):le x 1=[x]:=by simp [le,Nat.mod_eq_of_lt h]
theorem pt1 {x:Int} (h:0≤x∧x≤255) (r:List Nat):numR (0,le x.toNat 1++r) 1=((0,r),x.toNat):=z2c x.toNat 1 r (by omega) (by omega) (by omega)
theorem pt4 {x:Int} (h:0≤x∧x≤4294967295) (r:List Nat):numR (0,le x.toNat 4++r) 4=((0,r),x.toNat):=z2c x.toNat 4 r (by omega) (by omega) (by omega)
theorem pt8 (x:Nat) (h:x<18446744073709551616) (r:List Nat):numR (0,le x 8++r) 8=((0,r),x):=z2c x 8 r (by omega) (by omega) h
theorem ptb (b:Bool) (r:List Nat):z9w (0,[bitN b]++r)=((0,r),b):=boolR_bit b r
theorem pty {Y:List Nat} (h:Y.length≤512) (r:List Nat):z3u (0,le Y.length 2++(Y++r)) 512=((0,r),Y):=by
 unfold z3u
 have h2:numR (0,le Y.length 2++(Y++r)) 2=((0,Y++r),Y.length):=z2c Y.length 2 (Y++r) (by omega) (by omega) (by omega)
 rw [h2]
 dsimp only
 rw [if_neg (by omega)]
 exact takeR_app Y r
theorem z4x {x:Int} (h:0≤x∧x≤255):((x.toNat:Nat):Int)=x:=by omega
theorem z2x {x:Int} (h:0≤x∧x≤4294967295):((x.toNat:Nat):Int)=x:=by omega
theorem z5t {Bs:List Nat} {k:Int} {S:St} {X:Rx} (h0:numR (0,Bs) 1=(S,k.toNat)) (hk0:0≤k) (ho:kOk k=true) (hr:rdX k S=⟨(0,[]),X,0⟩) (hg:z1b X=true):decX Bs=(0,X):=by
 unfold decX
 dsimp only
 rw [h0]
 dsimp only
 rw [Int.toNat_of_nonneg hk0,if_pos ho,hr]
 simp [rdE,endR,hg]
theorem keyB_le {k:K} (h:Kok k):keyB k=le k.1.toNat 1++(le k.2.1.toNat 1++le k.2.2.toNat 1):=by
 obtain⟨a,b,c⟩:=k
 obtain⟨h1,h2,h3⟩:=h
 dsimp only at h1 h2 h3
 unfold keyB
 dsimp only
 rw [q1u (x:=a.toNat) (by omega),q1u (x:=b.toNat) (by omega),q1u (x:=c.toNat) (by omega)]
 rfl
theorem decX_enc {X:Rx} (hg:z1b X=true) (hok:Rxok X):decX (z0k X)=(0,X):=by
 have hk:=z6c hg
 obtain⟨k,sg,tx,st,cp,key,d,o,pg⟩:=X
 have hkk:0≤k∧k≤255:=hok.k
 dsimp only at hk
 rcases z4b hk with h | h | h | h | h | h | h | h | h <;> subst h
 · have h2:=hg
   rw [gk1] at h2
   simp only [Bool.and_eq_true,decide_eq_true_eq] at h2
   obtain⟨⟨_,hp⟩,he⟩:=h2
   rw [he] at hg hok ⊢
   clear he
   refine z5t (S:=(0,le sg.toNat 4++(le (z1f pg).length 2++(z1f pg ++ [])))) (k:=1) ?_ (by omega) hk ?_ hg
   · rw [← pt1 hkk]
     simp [z0k,kS,kT,kB,kA,kO,kP]
   · rw [show rdX 1 (0,le sg.toNat 4++(le (z1f pg).length 2++(z1f pg ++ [])))=rd1 (0,le sg.toNat 4++(le (z1f pg).length 2++(z1f pg ++ []))) from rfl]
     unfold rd1
     rw [pt4 hok.sg]
     dsimp only
     rw [pty (by have:=q1k hp;omega)]
     dsimp only
     rw [if_pos rfl,dec_enc hp hok.pg,z2x hok.sg]
     rfl
 · have h2:=hg
   rw [gk2] at h2
   simp only [Bool.and_eq_true,decide_eq_true_eq] at h2
   obtain⟨_,he⟩:=h2
   rw [he] at hg hok ⊢
   clear he
   refine z5t (S:=(0,le sg.toNat 4++(le tx.toNat 4++(le st.toNat 1++([bitN cp] ++ []))))) (k:=2) ?_ (by omega) hk ?_ hg
   · rw [← pt1 hkk]
     simp [z0k,kS,kT,kB,kA,kO,kP]
   · rw [show rdX 2 (0,le sg.toNat 4++(le tx.toNat 4++(le st.toNat 1++([bitN cp] ++ []))))=rd2 (0,le sg.toNat 4++(le tx.toNat 4++(le st.toNat 1++([bitN cp] ++ [])))) from rfl]
     unfold rd2
     rw [pt4 hok.sg]
     dsimp only
     rw [pt4 hok.tx]
     dsimp only
     rw [pt1 hok.st]
     dsimp only
     rw [ptb]
     dsimp only
     rw [z2x hok.sg,z2x hok.tx,z4x hok.st]
     rfl
 · have h2:=hg
   rw [gk3 _ _ _ _ _ _ _ _ hok.d] at h2
   simp only [Bool.and_eq_true,decide_eq_true_eq] at h2
   obtain⟨_,he⟩:=h2
   rw [he] at hg hok ⊢
   clear he
   refine z5t (S:=(0,le tx.toNat 4++(le key.1.toNat 1++(le key.2.1.toNat 1++(le key.2.2.toNat 1++(le (u64 d) 8 ++ [])))))) (k:=3) ?_ (by omega) hk ?_ hg
   · rw [← pt1 hkk]
     have hky:Kok key:=hok.key
     simp [z0k,kS,kT,kB,kA,kO,kP,keyB_le hky]
   · rw [show rdX 3 (0,le tx.toNat 4++(le key.1.toNat 1++(le key.2.1.toNat 1++(le key.2.2.toNat 1++(le (u64 d) 8 ++ [])))))=rd3 3 (0,le tx.toNat 4++(le key.1.toNat 1++(le key.2.1.toNat 1++(le key.2.2.toNat 1++(le (u64 d) 8 ++ []))))) from rfl]
     unfold rd3 keyR
     rw [pt4 hok.tx]
     dsimp only
     rw [pt1 hok.key.1]
     dsimp only
     rw [pt1 hok.key.2.1]
     dsimp only
     rw [pt1 hok.key.2.2]
     dsimp only
     rw [pt8 _ (z8m d)]
     dsimp only
     rw [z2x hok.tx,z4x hok.key.1,z4x hok.key.2.1,z4x hok.key.2.2,z6w hok.d]
     rfl
 · have h2:=hg
   rw [gk4 _ _ _ _ _ _ _ _ _ (Or.inl rfl)] at h2
   simp only [Bool.and_eq_true,decide_eq_true_eq] at h2
   obtain⟨_,he⟩:=h2
   rw [he] at hg hok ⊢
   clear he
   refine z5t (S:=(0,le tx.toNat 4 ++ [])) (k:=4) ?_ (by omega) hk ?_ hg
   · rw [← pt1 hkk]
     simp [z0k,kS,kT,kB,kA,kO,kP]
   · rw [show rdX 4 (0,le tx.toNat 4 ++ [])=rd4 4 (0,le tx.toNat 4 ++ []) from rfl]
     unfold rd4
     rw [pt4 hok.tx]
     dsimp only
     rw [z2x hok.tx]
     rfl
 · have h2:=hg
   rw [gk4 _ _ _ _ _ _ _ _ _ (Or.inr (Or.inl rfl))] at h2
   simp only [Bool.and_eq_true,decide_eq_true_eq] at h2
   obtain⟨_,he⟩:=h2
   rw [he] at hg hok ⊢
   clear he
   refine z5t (S:=(0,le tx.toNat 4 ++ [])) (k:=5) ?_ (by omega) hk ?_ hg
   · rw [← pt1 hkk]
     simp [z0k,kS,kT,kB,kA,kO,kP]
   · rw [show rdX 5 (0,le tx.toNat 4 ++ [])=rd4 5 (0,le tx.toNat 4 ++ []) from rfl]
     unfold rd4
     rw [pt4 hok.tx]
     dsimp only
     rw [z2x hok.tx]
     rfl
 · have h2:=hg
   rw [gk6 _ _ _ _ _ _ _ _ hok.d] at h2
   simp only [Bool.and_eq_true,decide_eq_true_eq] at h2
   obtain⟨_,he⟩:=h2
   rw [he] at hg hok ⊢
   clear he
   refine z5t (S:=(0,le tx.toNat 4++(le key.1.toNat 1++(le key.2.1.toNat 1++(le key.2.2.toNat 1++(le (u64 d) 8 ++ [])))))) (k:=6) ?_ (by omega) hk ?_ hg
   · rw [← pt1 hkk]
     have hky:Kok key:=hok.key
     simp [z0k,kS,kT,kB,kA,kO,kP,keyB_le hky]
   · rw [show rdX 6 (0,le tx.toNat 4++(le key.1.toNat 1++(le key.2.1.toNat 1++(le key.2.2.toNat 1++(le (u64 d) 8 ++ [])))))=rd3 6 (0,le tx.toNat 4++(le key.1.toNat 1++(le key.2.1.toNat 1++(le key.2.2.toNat 1++(le (u64 d) 8 ++ []))))) from rfl]
     unfold rd3 keyR
     rw [pt4 hok.tx]
     dsimp only
     rw [pt1 hok.key.1]
     dsimp only
     rw [pt1 hok.key.2.1]
     dsimp only
     rw [pt1 hok.key.2.2]
     dsimp only
     rw [pt8 _ (z8m d)]
     dsimp only
     rw [z2x hok.tx,z4x hok.key.1,z4x hok.key.2.1,z4x hok.key.2.2,z6w hok.d]
     rfl
 · have h2:=hg
   rw [gk4 _ _ _ _ _ _ _ _ _ (Or.inr (Or.inr rfl))] at h2
   simp only [Bool.and_eq_true,decide_eq_true_eq] at h2
   obtain⟨_,he⟩:=h2
   rw [he] at hg hok ⊢
   clear he
   refine z5t (S:=(0,le tx.toNat 4 ++ [])) (k:=7) ?_ (by omega) hk ?_ hg
   · rw [← pt1 hkk]
     simp [z0k,kS,kT,kB,kA,kO,kP]
   · rw [show rdX 7 (0,le tx.toNat 4 ++ [])=rd4 7 (0,le tx.toNat 4 ++ []) from rfl]
     unfold rd4
     rw [pt4 hok.tx]
     dsimp only
     rw [z2x hok.tx]
     rfl
 · have h2:=hg
   rw [gk8] at h2
   simp only [Bool.and_eq_true,decide_eq_true_eq] at h2
   obtain⟨_,he⟩:=h2
   rw [he] at hg hok ⊢
   clear he
   refine z5t (S:=(0,le sg.toNat 4 ++ [])) (k:=8) ?_ (by omega) hk ?_ hg
   · rw [← pt1 hkk]
     simp [z0k,kS,kT,kB,kA,kO,kP]
   · rw [show rdX 8 (0,le sg.toNat 4 ++ [])=rd8 (0,le sg.toNat 4 ++ []) from rfl]
     unfold rd8
     rw [pt4 hok.sg]
     dsimp only
     rw [z2x hok.sg]
     rfl
 · have h2:=hg
   rw [gk9] at h2
   simp only [Bool.and_eq_true,decide_eq_true_eq] at h2
   obtain⟨_,he⟩:=h2
   rw [he] at hg hok ⊢
   clear he
   refine z5t (S:=(0,le sg.toNat 4++(le o.toNat 1 ++ []))) (k:=9) ?_ (by omega) hk ?_ hg
   · rw [← pt1 hkk]
     simp [z0k,kS,kT,kB,kA,kO,kP]
   · rw [show rdX 9 (0,le sg.toNat 4++(le o.toNat 1 ++ []))=rd9 (0,le sg.toNat 4++(le o.toNat 1 ++ [])) from rfl]
     unfold rd9
     rw [pt4 hok.sg]
     dsimp only
     rw [pt1 hok.o]
     dsimp only
     rw [z2x hok.sg,z4x hok.o]
     rfl
end Go.Proofs.YtfdgnniicjdjdaaGreatDoor
namespace Go.Proofs.YtfdgnniicjdjdaaGreatDoor
open Go.Lib (hid)
set_option maxHeartbeats 16000000
set_option linter.unusedVariables false
set_option maxRecDepth 10000
def z6a:Nat→List Nat→Nat→List (Nat × Rx)→List (Nat × Rx) × Nat × Int
 | 0,_,i,out=>(out,i,0)
 | f+1,B,i,out=>if B.length≤i then (out,i,0) else if nE (B.drop i)≠0 then (out,i,nE (B.drop i)) else if (decX (nP (B.drop i))).1≠0 then (out,i,8) else
  z6a f B (i+(6+nN (B.drop i))) (out ++ [(i,(decX (nP (B.drop i))).2)])
def z5x (B:List Nat):List (Nat × Rx) × Nat × Int:=z6a B.length B 0 []
theorem scanXF_same:∀ (f g:Nat) (B:List Nat) (i:Nat) (out:List (Nat × Rx)),B.length-i≤f→B.length-i≤g→i≤B.length→z6a f B i out=z6a g B i out
 | 0,0,_,_,_,_,_,_=>rfl
 | 0,g+1,B,i,out,h,_,hi=>by
  unfold z6a
  rw [if_pos (by omega)]
 | f+1,0,B,i,out,_,h,hi=>by
  unfold z6a
  rw [if_pos (by omega)]
 | f+1,g+1,B,i,out,hf,hg,hi=>by
  unfold z6a
  by_cases h0:B.length≤i
  · rw [if_pos h0,if_pos h0]
  · rw [if_neg h0,if_neg h0]
    by_cases h1:nE (B.drop i)=0
    · have hz:=z9p h1
      rw [List.length_drop] at hz
      rw [scanXF_same f g B (i+(6+nN (B.drop i))) _ (by omega) (by omega) (by omega)]
    · rw [if_pos h1,if_pos h1]
structure Sx (B:List Nat) (out:List (Nat × Rx)) (i:Nat):Prop where
 le:i≤B.length
 eq:z6a (B.length-i) B i out=z5x B
 few:7*out.length≤i
 at_:∀ e∈out,e.1≤i
theorem Sx.start (B:List Nat):Sx B [] 0:=⟨Nat.zero_le _,rfl,Nat.zero_le _,fun e h=>by cases h⟩
theorem Sx.step {B:List Nat} {out:List (Nat × Rx)} {i:Nat} (h:Sx B out i) (he:nE (B.drop i)=0) (hd:(decX (nP (B.drop i))).1=0):Sx B (out ++ [(i,(decX (nP (B.drop i))).2)]) (i+(6+nN (B.drop i))):=by
 have hz:=z9p he
 have h2:=h.le
 rw [List.length_drop] at hz
 obtain⟨f,hf⟩:∃ f,B.length-i=f+1:=⟨B.length-i-1,by omega⟩
 have e:=h.eq
 rw [hf] at e
 unfold z6a at e
 rw [if_neg (by omega),if_neg (fun h=>h he),if_neg (fun h=>h hd)] at e
 refine⟨by omega,?_,by have:=h.few;rw [List.length_append,List.length_singleton];omega,fun x hx=>?_⟩
 · rw [← e]
   exact scanXF_same _ _ _ _ _ (by omega) (by omega) (by omega)
 · rcases List.mem_append.1 hx with hx | hx
   · have:=h.at_ x hx
     omega
   · rw [List.mem_singleton] at hx
     subst hx
     simp
theorem Sx.done {B:List Nat} {out:List (Nat × Rx)} {i:Nat} (h:Sx B out i) (hi:B.length≤i):z5x B=(out,i,0):=by
 rw [← h.eq]
 cases hf:B.length-i with
 | zero=>rfl
 | succ f=>omega
theorem Sx.wrong {B:List Nat} {out:List (Nat × Rx)} {i:Nat} (h:Sx B out i) (hi:i<B.length) (he:nE (B.drop i)≠0):z5x B=(out,i,nE (B.drop i)):=by
 rw [← h.eq]
 obtain⟨f,hf⟩:∃ f,B.length-i=f+1:=⟨B.length-i-1,by omega⟩
 rw [hf]
 unfold z6a
 rw [if_neg (by omega),if_pos he]
theorem Sx.form {B:List Nat} {out:List (Nat × Rx)} {i:Nat} (h:Sx B out i) (hi:i<B.length) (he:nE (B.drop i)=0) (hd:(decX (nP (B.drop i))).1≠0):z5x B=(out,i,8):=by
 rw [← h.eq]
 obtain⟨f,hf⟩:∃ f,B.length-i=f+1:=⟨B.length-i-1,by omega⟩
 rw [hf]
 unfold z6a
 rw [if_neg (by omega),if_neg (fun h=>h he),if_pos hd]
def paysX (Xs:List Rx):List (List Nat):=Xs.map z0k
def z0q (Xs:List Rx):List Nat:=flat (paysX Xs)
def frmX (X:Rx):List Nat:=frm (z0k X)
theorem z1x (Xs Ys:List Rx):z0q (Xs++Ys)=z0q Xs++z0q Ys:=by unfold z0q paysX;rw [List.map_append,flat_append]
theorem z4u (X:Rx):z0q [X]=frmX X:=flat_one _
theorem z7r (X:Rx):(frmX X).length=6+(z0k X).length:=z9t _
def z3s:Nat→List Rx→List (Nat × Rx)
 | _,[]=>[]
 | a,X::r=>(a,X)::z3s (a+(6+(z0k X).length)) r
theorem z5b:∀ (a:Nat) (Xs Ys:List Rx),z3s a (Xs++Ys)=z3s a Xs++z3s (a+(z0q Xs).length) Ys
 | a,[],Ys=>rfl
 | a,X::r,Ys=>by
  show (a,X)::z3s _ (r++Ys)=_
  rw [z5b]
  have e:(z0q (X::r)).length=(6+(z0k X).length)+(z0q r).length:=by
   rw [show X::r=[X]++r from rfl,z1x,List.length_append,z4u,z7r]
  rw [e,Nat.add_assoc a]
  rfl
theorem z6e:∀ (a:Nat) (Xs:List Rx),(z3s a Xs).length=Xs.length
 | _,[]=>rfl
 | a,X::r=>by
  show (z3s _ r).length+1=r.length+1
  rw [z6e]
def z8q (Xs:List Rx):Prop:=∀ X∈Xs,z1b X=true∧Rxok X
theorem z8j {X:Rx} (h:z1b X=true):good (z0k X)=true∧5≤(z0k X).length∧(z0k X).length≤407:=by
 have hk:=z6c h
 have hl:=bytes_len hk
 have hp:=z5l h
 have h1:X.k=1→(z1f X.pg).length≤400:=fun e=>by
  rw [e] at hp
  exact q1k hp
 have h2:5≤(z0k X).length∧(z0k X).length≤407:=by
  rw [hl]
  unfold lenK
  by_cases e:X.k=1
  · have:=h1 e
    rw [if_pos e,if_pos e]
    omega
  · rw [if_neg e,if_neg e]
    repeat' split
    all_goals omega
 exact⟨(z6p _).2 ⟨by omega,by omega⟩,h2⟩
theorem scanX_cutF (Xs:List Rx) (hg:z8q Xs) (n:Nat) (hn:n≤(z0q Xs).length) (Ys Zs:List Rx) (hs:Xs=Ys++Zs) (hl:(z0q Ys).length≤n) (h:Sx ((z0q Xs).take n) (z3s 0 Ys) (z0q Ys).length) :
 ∃ k,k≤Xs.length∧(z0q (Xs.take k)).length≤n∧(k<Xs.length→n<(z0q (Xs.take (k+1))).length)∧z5x ((z0q Xs).take n)=(z3s 0 (Xs.take k),(z0q (Xs.take k)).length,if (z0q (Xs.take k)).length<n then 6 else 0):=by
 have hB:((z0q Xs).take n).length=n:=by rw [List.length_take];omega
 induction Zs generalizing Ys with
 | nil =>
  rw [List.append_nil] at hs
  subst hs
  have e:n=(z0q Xs).length:=by omega
  refine⟨Xs.length,Nat.le_refl _,by rw [List.take_length];omega,fun h=>absurd h (Nat.lt_irrefl _),?_⟩
  rw [List.take_length,h.done (by rw [hB];omega),if_neg (by omega)]
 | cons Z r ih =>
  have hY:Xs.take Ys.length=Ys:=by rw [hs,List.take_left]
  have hY1:Xs.take (Ys.length+1)=Ys ++ [Z]:=by rw [hs,List.take_length_add_append];rfl
  have hZ:=hg Z (by rw [hs];exact List.mem_append_right _ (List.mem_cons_self ..))
  have hb:=z8j hZ.1
  have hf1:(z0q (Ys ++ [Z])).length=(z0q Ys).length+(6+(z0k Z).length):=by rw [z1x,List.length_append,z4u,z7r]
  have hd:((z0q Xs).take n).drop (z0q Ys).length=(frm (z0k Z)++z0q r).take (n-(z0q Ys).length):=by
   rw [hs,List.drop_take,z1x,List.drop_left,show Z::r=[Z]++r from rfl,z1x,z4u]
   rfl
  by_cases hlt:n<(z0q Ys).length+(6+(z0k Z).length)
  · refine⟨Ys.length,by rw [hs,List.length_append];omega,by rw [hY];exact hl,fun _=>by rw [hY1,hf1];exact hlt,?_⟩
    rw [hY]
    by_cases h0:(z0q Ys).length<n
    · have hc:nE (((z0q Xs).take n).drop (z0q Ys).length)=6:=by rw [hd];exact frm_cut _ _ hb.1 _ (by omega)
      rw [h.wrong (by rw [hB];exact h0) (by rw [hc];omega),hc,if_pos h0]
    · rw [h.done (by rw [hB];omega),if_neg h0]
  · have hd2:((z0q Xs).take n).drop (z0q Ys).length=fr (z0k Z).length (sumL (z0k Z)) (z0k Z) ((z0q r).take (n-(z0q Ys).length-(6+(z0k Z).length))):=by
     rw [hd,← fr_frm]
     obtain⟨m,hm⟩:∃ m,n-(z0q Ys).length=(frm (z0k Z)).length+m:=⟨n-(z0q Ys).length-(6+(z0k Z).length),by rw [z9t];omega⟩
     rw [hm,List.take_length_add_append,z9t,Nat.add_sub_cancel_left]
    have e0:nE (((z0q Xs).take n).drop (z0q Ys).length)=0:=by rw [hd2,fr_nE _ _ _ (by omega) (by omega) (sumL_lt _),if_pos rfl]
    have e1:nP (((z0q Xs).take n).drop (z0q Ys).length)=z0k Z:=by rw [hd2];exact fr_nP _ _ _ (by omega)
    have e2:nN (((z0q Xs).take n).drop (z0q Ys).length)=(z0k Z).length:=by rw [hd2];exact q2z _ _ _ _ (by omega)
    have e3:=decX_enc hZ.1 hZ.2
    have h2:=h.step e0 (by rw [e1,e3])
    rw [e1,e2,e3,← hf1] at h2
    have e4:z3s 0 (Ys ++ [Z])=z3s 0 Ys ++ [((z0q Ys).length,Z)]:=by rw [z5b,Nat.zero_add];rfl
    refine ih (Ys ++ [Z]) (by rw [hs,List.append_assoc];rfl) (by rw [hf1];omega) ?_
    rw [e4]
    exact h2
theorem scanX_cut (Xs:List Rx) (hg:z8q Xs) (n:Nat) (hn:n≤(z0q Xs).length) :
 ∃ k,k≤Xs.length∧(z0q (Xs.take k)).length≤n∧(k<Xs.length→n<(z0q (Xs.take (k+1))).length)∧z5x ((z0q Xs).take n)=(z3s 0 (Xs.take k),(z0q (Xs.take k)).length,if (z0q (Xs.take k)).length<n then 6 else 0) :=
 scanX_cutF Xs hg n hn [] Xs rfl (Nat.zero_le _) (Sx.start _)
theorem scanX_all (Xs:List Rx) (hg:z8q Xs):z5x (z0q Xs)=(z3s 0 Xs,(z0q Xs).length,0):=by
 obtain⟨k,h1,h2,h3,h4⟩:=scanX_cut Xs hg (z0q Xs).length (Nat.le_refl _)
 rw [List.take_length] at h4
 have hk:k=Xs.length:=by
  rcases Nat.lt_or_ge k Xs.length with h | h
  · have h5:=h3 h
    have:(z0q Xs).length=(z0q (Xs.take (k+1))).length+(z0q (Xs.drop (k+1))).length:=by rw [← List.length_append,← z1x,List.take_append_drop]
    omega
  · omega
 subst hk
 rw [h4,List.take_length,if_neg (Nat.lt_irrefl _)]
end Go.Proofs.YtfdgnniicjdjdaaGreatDoor
namespace Go.Proofs.YtfdgnniicjdjdaaGreatDoor
open Go.Lib (hid)
set_option maxHeartbeats 16000000
open Go.RowKit Go.ChangeShapes Go.WideShapes Go.Deep
set_option linter.unusedVariables false
set_option maxRecDepth 10000
theorem recCells20:Tryz.prog.cellsOf 51=20:=by kernel_rfl
section
variable {H:Type} {enc:TypeId × Value→H} {w:World} {base:Nat} {held:Bool}
theorem rkey_trod {fuel:Nat} {x y z:Value} {d:DataW H × List MemPlace} (h:DataW.trod enc Tryz.prog w base (fun _=>true) held fuel 45 [x,y,z]=some d):∃ k:K,Kok k∧x=.int .u8 k.1∧y=.int .u8 k.2.1∧z=.int .u8 k.2.2:=by
 obtain⟨xs,n,_,_,hlen,hxl,hg⟩:=DataW.trod_struct Tryz.underlying45 h
 have h3:xs.length=3:=hxl
 have t0:=hg 0 _ rfl
 have t1:=hg 1 _ rfl
 have t2:=hg 2 _ rfl
 rw [List.getElem?_eq_getElem (by omega)] at t0 t1 t2
 have e0:DataW.trod enc Tryz.prog w base (fun _=>true) held n 5 [x]=some (xs[0]'(by omega)):=t0
 have e1:DataW.trod enc Tryz.prog w base (fun _=>true) held n 5 [y]=some (xs[1]'(by omega)):=t1
 have e2:DataW.trod enc Tryz.prog w base (fun _=>true) held n 5 [z]=some (xs[2]'(by omega)):=t2
 obtain⟨z0,hv0,_,wf0⟩:=DataW.trod_int Tryz.underlying5 e0
 obtain⟨z1,hv1,_,wf1⟩:=DataW.trod_int Tryz.underlying5 e1
 obtain⟨z2,hv2,_,wf2⟩:=DataW.trod_int Tryz.underlying5 e2
 simp at hv0 hv1 hv2
 exact⟨(z0,z1,z2),⟨bounds_u8 wf0,bounds_u8 wf1,bounds_u8 wf2⟩,hv0,hv1,hv2⟩
theorem prog_trod {fuel:Nat} {v0 v1 v2 v3 v4 v5 v6 v7 v8 v9:Value} {d:DataW H × List MemPlace} (hf:DataW.trod enc Tryz.prog w base (fun _=>true) held fuel 49 [v0,v1,v2,v3,v4,v5,v6,v7,v8,v9]=some d):∃ (k od po:Int) (lp:Option Addr) (ln lcp:Nat) (tp:Option Addr) (tn tcp:Nat) (wp:Option Addr) (wn wcp:Nat) (sk fr to q:Int) (L:List Ln) (T:List Tk) (M:List Ln),[v0,v1,v2,v3,v4,v5,v6,v7,v8,v9]=[.int .u8 k,.int .u32 od,.int .u8 po,.slice lp ln lcp,.slice tp tn tcp,.slice wp wn wcp,.int .u8 sk,.int .u8 fr,.int .u8 to,.int .i64 q]∧Pgok ⟨k,od,po,L,T,M,sk,fr,to,q⟩∧PgM w lp ln lcp L tp tn tcp T wp wn wcp M:=by
 obtain⟨xs,n,_,_,hlen,hxl,hg⟩:=DataW.trod_struct Tryz.underlying49 hf
 have h10:xs.length=10:=hxl
 have t0:=hg 0 _ rfl
 have t1:=hg 1 _ rfl
 have t2:=hg 2 _ rfl
 have t3:=hg 3 _ rfl
 have t4:=hg 4 _ rfl
 have t5:=hg 5 _ rfl
 have t6:=hg 6 _ rfl
 have t7:=hg 7 _ rfl
 have t8:=hg 8 _ rfl
 have t9:=hg 9 _ rfl
 rw [List.getElem?_eq_getElem (by omega)] at t0 t1 t2 t3 t4 t5 t6 t7 t8 t9
 have e0:DataW.trod enc Tryz.prog w base (fun _=>true) held n 5 [v0]=some (xs[0]'(by omega)):=t0
 have e1:DataW.trod enc Tryz.prog w base (fun _=>true) held n 43 [v1]=some (xs[1]'(by omega)):=t1
 have e2:DataW.trod enc Tryz.prog w base (fun _=>true) held n 5 [v2]=some (xs[2]'(by omega)):=t2
 have e3:DataW.trod enc Tryz.prog w base (fun _=>true) held n 46 [v3]=some (xs[3]'(by omega)):=t3
 have e4:DataW.trod enc Tryz.prog w base (fun _=>true) held n 47 [v4]=some (xs[4]'(by omega)):=t4
 have e5:DataW.trod enc Tryz.prog w base (fun _=>true) held n 46 [v5]=some (xs[5]'(by omega)):=t5
 have e6:DataW.trod enc Tryz.prog w base (fun _=>true) held n 5 [v6]=some (xs[6]'(by omega)):=t6
 have e7:DataW.trod enc Tryz.prog w base (fun _=>true) held n 5 [v7]=some (xs[7]'(by omega)):=t7
 have e8:DataW.trod enc Tryz.prog w base (fun _=>true) held n 5 [v8]=some (xs[8]'(by omega)):=t8
 have e9:DataW.trod enc Tryz.prog w base (fun _=>true) held n 2 [v9]=some (xs[9]'(by omega)):=t9
 obtain⟨z0,hv0,_,wf0⟩:=DataW.trod_int Tryz.underlying5 e0
 obtain⟨z1,hv1,_,wf1⟩:=DataW.trod_int Tryz.underlying43 e1
 obtain⟨z2,hv2,_,wf2⟩:=DataW.trod_int Tryz.underlying5 e2
 obtain⟨z6,hv6,_,wf6⟩:=DataW.trod_int Tryz.underlying5 e6
 obtain⟨z7,hv7,_,wf7⟩:=DataW.trod_int Tryz.underlying5 e7
 obtain⟨z8,hv8,_,wf8⟩:=DataW.trod_int Tryz.underlying5 e8
 obtain⟨z9,hv9,_,wf9⟩:=DataW.trod_int Tryz.underlying2 e9
 simp at hv0 hv1 hv2 hv6 hv7 hv8 hv9
 subst hv0 hv1 hv2 hv6 hv7 hv8 hv9
 obtain⟨p3,n3,c3,rfl⟩:=z6v Tryz.underlying46 e3
 obtain⟨p4,n4,c4,rfl⟩:=z6v Tryz.underlying47 e4
 obtain⟨p5,n5,c5,rfl⟩:=z6v Tryz.underlying46 e5
 obtain⟨L,hL,hLok⟩:=open_lines e3
 obtain⟨T,hT,hTok⟩:=open_takes e4
 obtain⟨M,hM,hMok⟩:=open_lines e5
 exact⟨z0,z1,z2,p3,n3,c3,p4,n4,c4,p5,n5,c5,z6,z7,z8,z9,L,T,M,rfl,⟨bounds_u8 wf0,z9g wf1,bounds_u8 wf2,hLok,hTok,hMok,bounds_u8 wf6,bounds_u8 wf7,bounds_u8 wf8,bounds_i64 wf9⟩,⟨hL,hT,hM⟩⟩
end
theorem rec_trod {H:Type} {enc:TypeId × Value→H} {w:World} {base:Nat} {held:Bool} {fuel:Nat} {cs:List Value} {d:DataW H × List MemPlace} (hf:DataW.trod enc Tryz.prog w base (fun _=>true) held fuel 51 cs=some d):∃ (r:Rv) (L:List Ln) (T:List Tk) (M:List Ln),cs=(rcs r).toList∧Rxok (r.x L T M)∧RvM w r L T M:=by
 obtain⟨xs,n,_,_,hlen,hxl,hg⟩:=DataW.trod_struct Tryz.underlying51 hf
 rw [recCells20] at hlen
 have h9:xs.length=9:=hxl
 obtain⟨v0,v1,v2,v3,v4,v5,v6,v7,v8,v9,v10,v11,v12,v13,v14,v15,v16,v17,v18,v19,rfl⟩:∃ v0 v1 v2 v3 v4 v5 v6 v7 v8 v9 v10 v11 v12 v13 v14 v15 v16 v17 v18 v19,cs=[v0,v1,v2,v3,v4,v5,v6,v7,v8,v9,v10,v11,v12,v13,v14,v15,v16,v17,v18,v19]:=by
  match cs,hlen with
  | [a0,a1,a2,a3,a4,a5,a6,a7,a8,a9,a10,a11,a12,a13,a14,a15,a16,a17,a18,a19],_=>exact⟨a0,a1,a2,a3,a4,a5,a6,a7,a8,a9,a10,a11,a12,a13,a14,a15,a16,a17,a18,a19,rfl⟩
 have t0:=hg 0 _ rfl
 have t1:=hg 1 _ rfl
 have t2:=hg 2 _ rfl
 have t3:=hg 3 _ rfl
 have t4:=hg 4 _ rfl
 have t5:=hg 5 _ rfl
 have t6:=hg 6 _ rfl
 have t7:=hg 7 _ rfl
 have t8:=hg 8 _ rfl
 rw [List.getElem?_eq_getElem (by omega)] at t0 t1 t2 t3 t4 t5 t6 t7 t8
 have e0:DataW.trod enc Tryz.prog w base (fun _=>true) held n 5 [v0]=some (xs[0]'(by omega)):=t0
 have e1:DataW.trod enc Tryz.prog w base (fun _=>true) held n 43 [v1]=some (xs[1]'(by omega)):=t1
 have e2:DataW.trod enc Tryz.prog w base (fun _=>true) held n 43 [v2]=some (xs[2]'(by omega)):=t2
 have e3:DataW.trod enc Tryz.prog w base (fun _=>true) held n 5 [v3]=some (xs[3]'(by omega)):=t3
 have e4:DataW.trod enc Tryz.prog w base (fun _=>true) held n 4 [v4]=some (xs[4]'(by omega)):=t4
 have e5:DataW.trod enc Tryz.prog w base (fun _=>true) held n 45 [v5,v6,v7]=some (xs[5]'(by omega)):=t5
 have e6:DataW.trod enc Tryz.prog w base (fun _=>true) held n 2 [v8]=some (xs[6]'(by omega)):=t6
 have e7:DataW.trod enc Tryz.prog w base (fun _=>true) held n 5 [v9]=some (xs[7]'(by omega)):=t7
 have e8:DataW.trod enc Tryz.prog w base (fun _=>true) held n 49 [v10,v11,v12,v13,v14,v15,v16,v17,v18,v19]=some (xs[8]'(by omega)):=t8
 obtain⟨z0,hv0,_,wf0⟩:=DataW.trod_int Tryz.underlying5 e0
 obtain⟨z1,hv1,_,wf1⟩:=DataW.trod_int Tryz.underlying43 e1
 obtain⟨z2,hv2,_,wf2⟩:=DataW.trod_int Tryz.underlying43 e2
 obtain⟨z3,hv3,_,wf3⟩:=DataW.trod_int Tryz.underlying5 e3
 obtain⟨z6,hv6,_,wf6⟩:=DataW.trod_int Tryz.underlying2 e6
 obtain⟨z7,hv7,_,wf7⟩:=DataW.trod_int Tryz.underlying5 e7
 obtain⟨z4,hv4,_⟩:=DataW.trod_bool Tryz.underlying4 e4
 obtain⟨key,hkey,hk0,hk1,hk2⟩:=rkey_trod e5
 obtain⟨k,od,po,lp,ln,lcp,tp,tn,tcp,wp,wn,wcp,sk,fr,to,q,L,T,M,hpe,hpok,hpm⟩:=prog_trod e8
 simp at hv0 hv1 hv2 hv3 hv4 hv6 hv7
 simp only [List.cons.injEq,and_true] at hpe
 obtain⟨g0,g1,g2,g3,g4,g5,g6,g7,g8,g9⟩:=hpe
 subst hv0 hv1 hv2 hv3 hv4 hv6 hv7 hk0 hk1 hk2 g0 g1 g2 g3 g4 g5 g6 g7 g8 g9
 exact⟨⟨z0,z1,z2,z3,z4,key.1,key.2.1,key.2.2,z6,z7,k,od,po,lp,ln,lcp,tp,tn,tcp,wp,wn,wcp,sk,fr,to,q⟩,L,T,M,rfl,⟨bounds_u8 wf0,z9g wf1,z9g wf2,bounds_u8 wf3,hkey,bounds_i64 wf6,bounds_u8 wf7,hpok⟩,hpm⟩
end Go.Proofs.YtfdgnniicjdjdaaGreatDoor
namespace Go.Proofs.YtfdgnniicjdjdaaGreatDoor
open Go.Lib (hid)
set_option maxHeartbeats 16000000
open Go.RowKit Go.ChangeShapes Go.WideShapes
set_option linter.unusedVariables false
set_option linter.unusedSimpArgs false
set_option maxRecDepth 10000
theorem isfew_p (k od po:Int) (lp:Option Addr) (ln lcp:Nat) (tp:Option Addr) (tn tcp:Nat) (wp:Option Addr) (wn wcp:Nat) (sk fr to q:Int) (W:World):Calls Tryz.prog 80 #[.agg #[.int .u8 k,.int .u32 od,.int .u8 po,.slice lp ln lcp,.slice tp tn tcp,.slice wp wn wcp,.int .u8 sk,.int .u8 fr,.int .u8 to,.int .i64 q]] W fun e w'=>e=.returned (.bool (decide (ln≤20∧tn≤30∧wn≤20)))∧Below W.heap.size W w':=by
 have HB:Hid (Below W.heap.size W (W.alloc (.cells #[.int .u8 k,.int .u32 od,.int .u8 po,.slice lp ln lcp,.slice tp tn tcp,.slice wp wn wcp,.int .u8 sk,.int .u8 fr,.int .u8 to,.int .i64 q] 49))):=hid ((Below.refl _ _).alloc (Nat.le_refl _) _)
 obtain⟨r,hr⟩:∃ r,decide (ln≤20∧tn≤30∧wn≤20)=r:=⟨_,rfl⟩
 have HR:=hid hr
 rw [hr]
 clear hr
 by_cases h1:ln≤20
 case neg =>
  have d1:decide ((ln:Int)≤20)=false:=decide_eq_false (by omega)
  obtain rfl:r=false:=by rw [← HR.out];exact decide_eq_false (by omega)
  go_enter Tryz.func80,Tryz.ntmps80
  go_wp2_with fail
  go_ret
  exact⟨rfl,HB.out⟩
 have d1:decide ((ln:Int)≤20)=true:=decide_eq_true (by omega)
 by_cases h2:tn≤30
 case neg =>
  have d2:decide ((tn:Int)≤30)=false:=decide_eq_false (by omega)
  obtain rfl:r=false:=by rw [← HR.out];exact decide_eq_false (by omega)
  go_enter Tryz.func80,Tryz.ntmps80
  go_wp2_with fail
  go_ret
  exact⟨rfl,HB.out⟩
 have d2:decide ((tn:Int)≤30)=true:=decide_eq_true (by omega)
 by_cases h3:wn≤20
 case neg =>
  have d3:decide ((wn:Int)≤20)=false:=decide_eq_false (by omega)
  obtain rfl:r=false:=by rw [← HR.out];exact decide_eq_false (by omega)
  go_enter Tryz.func80,Tryz.ntmps80
  go_wp2_with fail
  go_ret
  exact⟨rfl,HB.out⟩
 have d3:decide ((wn:Int)≤20)=true:=decide_eq_true (by omega)
 obtain rfl:r=true:=by rw [← HR.out];exact decide_eq_true (by omega)
 go_enter Tryz.func80,Tryz.ntmps80
 go_wp2_with fail
 go_ret
 exact⟨rfl,HB.out⟩
def fewI (ln tn wn:Nat):Int:=if ln≤20∧tn≤30∧wn≤20 then 1 else 0
theorem few_p (k od po:Int) (lp:Option Addr) (ln lcp:Nat) (tp:Option Addr) (tn tcp:Nat) (wp:Option Addr) (wn wcp:Nat) (sk fr to q:Int) (W:World):Calls Tryz.prog 40 #[.agg #[.int .u8 k,.int .u32 od,.int .u8 po,.slice lp ln lcp,.slice tp tn tcp,.slice wp wn wcp,.int .u8 sk,.int .u8 fr,.int .u8 to,.int .i64 q]] W fun e w'=>e=.returned (.int .i64 (fewI ln tn wn))∧Below W.heap.size W w':=by
 obtain⟨W1,hW1,hb1⟩:∃ W1,W.alloc (.cells #[.int .u8 k,.int .u32 od,.int .u8 po,.slice lp ln lcp,.slice tp tn tcp,.slice wp wn wcp,.int .u8 sk,.int .u8 fr,.int .u8 to,.int .i64 q] 49)=W1∧Below W.heap.size W W1:=⟨_,rfl,(Below.refl _ _).alloc (Nat.le_refl _) _⟩
 have HI:=hid (isfew_p k od po lp ln lcp tp tn tcp wp wn wcp sk fr to q W1)
 have HB1:=hid hb1
 have HW1:=hid hW1
 clear hW1 hb1
 by_cases h:ln≤20∧tn≤30∧wn≤20
 · have hi:=HI.out
   rw [decide_eq_true h] at hi
   have HF:Hid (fewI ln tn wn=1):=hid (if_pos h)
   clear h
   go_enter Tryz.func40,Tryz.ntmps40
   go_wp2_with fail
   rw [HW1.out]
   refine hi.mono ?_
   rintro e w2 ⟨rfl,h2⟩
   have HB2:=hid (HB1.out.trans (h2.mono HB1.out.size))
   clear hi h2
   go_wp2_with fail
   go_ret
   exact⟨by rw [HF.out];rfl,HB2.out⟩
 · have hi:=HI.out
   rw [decide_eq_false h] at hi
   have HF:Hid (fewI ln tn wn=0):=hid (if_neg h)
   clear h
   go_enter Tryz.func40,Tryz.ntmps40
   go_wp2_with fail
   rw [HW1.out]
   refine hi.mono ?_
   rintro e w2 ⟨rfl,h2⟩
   have HB2:=hid (HB1.out.trans (h2.mono HB1.out.size))
   clear hi h2
   go_wp2_with fail
   go_ret
   exact⟨by rw [HF.out];rfl,HB2.out⟩
theorem two_recs (W:World) (r r':Rv):∃ W1,(W.alloc (.cells (rcs r) 51)).alloc (.cells (rcs r') 51)=W1∧RB W1 W.heap.size r∧RB W1 (W.heap.size+1) r'∧Below W.heap.size W W1:=by
 refine⟨_,rfl,?_,?_,((Below.refl _ _).alloc (Nat.le_refl _) _).alloc (by simp) _⟩
 · exact (Below.heap_alloc _ _ _ (by simp)).trans (z0b W _)
 · have:=z0b (W.alloc (.cells (rcs r) 51)) (.cells (rcs r') 51)
   rw [World.size_alloc] at this
   exact this
theorem rx_eq (r r':Rv) (L:List Ln) (T:List Tk) (M:List Ln) (L':List Ln) (T':List Tk) (M':List Ln):decide (r.x L T M=r'.x L' T' M')=(r.k==r'.k && r.sg==r'.sg && r.tx==r'.tx && r.st==r'.st && r.cp==r'.cp && decide (((r.ka,r.kb,r.kc):K)=(r'.ka,r'.kb,r'.kc)) && r.d==r'.d && r.o==r'.o && decide (r.pg L T M=r'.pg L' T' M')):=by
 rw [Bool.eq_iff_iff]
 simp only [decide_eq_true_eq,Bool.and_eq_true,beq_iff_eq]
 constructor
 · intro h
   refine⟨⟨⟨⟨⟨⟨⟨⟨?_,?_⟩,?_⟩,?_⟩,?_⟩,?_⟩,?_⟩,?_⟩,?_⟩
   · exact congrArg Rx.k h
   · exact congrArg Rx.sg h
   · exact congrArg Rx.tx h
   · exact congrArg Rx.st h
   · exact congrArg Rx.cp h
   · exact congrArg Rx.key h
   · exact congrArg Rx.d h
   · exact congrArg Rx.o h
   · exact congrArg Rx.pg h
 · rintro ⟨⟨⟨⟨⟨⟨⟨⟨h1,h2⟩,h3⟩,h4⟩,h5⟩,h6⟩,h7⟩,h8⟩,h9⟩
   unfold Rv.x
   rw [h1,h2,h3,h4,h5,h6,h7,h8,h9]
theorem z2z (r r':Rv) (L:List Ln) (T:List Tk) (M:List Ln) (L':List Ln) (T':List Tk) (M':List Ln) (W:World) (hP:RvM W r L T M) (hP':RvM W r' L' T' M') (h1:r.ln≤1000∧r.tn≤1000∧r.wn≤1000) (h2:r'.ln≤1000∧r'.tn≤1000∧r'.wn≤1000):Calls Tryz.prog 51 #[.agg (rcs r),.agg (rcs r')] W fun e w'=>e=.returned (.bool (decide (r.x L T M=r'.x L' T' M')))∧Below W.heap.size W w':=by
 obtain⟨W1,hW1,hx,hx',hb1⟩:=two_recs W r r'
 have HP:=hid (hP.later hb1)
 have HP':=hid (hP'.later hb1)
 have hpp:=z6x r.pk r.od r.po r.lp r.ln r.lcp r.tp r.tn r.tcp r.wp r.wn r.wcp r.sk r.fr r.to r.q r'.pk r'.od r'.po r'.lp r'.ln r'.lcp r'.tp r'.tn r'.tcp r'.wp r'.wn r'.wcp r'.sk r'.fr r'.to r'.q L T M L' T' M' W1 HP.out HP'.out h1 h2
 have hkk:=fun w=>key_eql r.ka r.kb r.kc r'.ka r'.kb r'.kc w
 obtain⟨y,hy⟩:∃ y,decide (((r.ka,r.kb,r.kc):K)=(r'.ka,r'.kb,r'.kc))=y:=⟨_,rfl⟩
 obtain⟨z,hz⟩:∃ z,decide (r.pg L T M=r'.pg L' T' M')=z:=⟨_,rfl⟩
 have hz':decide ((⟨r.pk,r.od,r.po,L,T,M,r.sk,r.fr,r.to,r.q⟩:Pg)=⟨r'.pk,r'.od,r'.po,L',T',M',r'.sk,r'.fr,r'.to,r'.q⟩)=z:=hz
 rw [hz'] at hpp
 rw [hy] at hkk
 have HA:=hid (rx_eq r r' L T M L' T' M')
 rw [hy,hz] at HA
 have HX:=hid hx
 have HX':=hid hx'
 have HW1:=hid hW1
 have HB1:=hid hb1
 have c0:W1.cell? ⟨W.heap.size,0,none⟩=some (.int .u8 r.k):=z0a hx rfl
 have d0:W1.cell? ⟨W.heap.size+1,0,none⟩=some (.int .u8 r'.k):=z0a hx' rfl
 have c1:W1.cell? ⟨W.heap.size,1,none⟩=some (.int .u32 r.sg):=z0a hx rfl
 have d1:W1.cell? ⟨W.heap.size+1,1,none⟩=some (.int .u32 r'.sg):=z0a hx' rfl
 have c2:W1.cell? ⟨W.heap.size,2,none⟩=some (.int .u32 r.tx):=z0a hx rfl
 have d2:W1.cell? ⟨W.heap.size+1,2,none⟩=some (.int .u32 r'.tx):=z0a hx' rfl
 have c3:W1.cell? ⟨W.heap.size,3,none⟩=some (.int .u8 r.st):=z0a hx rfl
 have d3:W1.cell? ⟨W.heap.size+1,3,none⟩=some (.int .u8 r'.st):=z0a hx' rfl
 have c4:W1.cell? ⟨W.heap.size,4,none⟩=some (.bool r.cp):=z0a hx rfl
 have d4:W1.cell? ⟨W.heap.size+1,4,none⟩=some (.bool r'.cp):=z0a hx' rfl
 have c8:W1.cell? ⟨W.heap.size,8,none⟩=some (.int .i64 r.d):=z0a hx rfl
 have d8:W1.cell? ⟨W.heap.size+1,8,none⟩=some (.int .i64 r'.d):=z0a hx' rfl
 have c9:W1.cell? ⟨W.heap.size,9,none⟩=some (.int .u8 r.o):=z0a hx rfl
 have d9:W1.cell? ⟨W.heap.size+1,9,none⟩=some (.int .u8 r'.o):=z0a hx' rfl
 clear hW1 hx hx' hb1 hP hP' h1 h2 hy hz hz'
 cases qk:(r.k==r'.k)
 case false =>
  go_enter Tryz.func51,Tryz.ntmps51
  go_upto_region 1 with (fail)
  rw [HW1.out]
  go_wp2_with (first | ((with_reducible refine z0f HX.out ?_ ?_ ?_);rfl;rfl) | ((with_reducible refine z0f HX'.out ?_ ?_ ?_);rfl;rfl) | ((with_reducible refine z0e HX.out ?_ ?_ ?_);rfl;rfl) | ((with_reducible refine z0e HX'.out ?_ ?_ ?_);rfl;rfl))
  go_ret
  exact⟨by rw [HA.out,qk];rfl,HB1.out⟩
 cases qsg:(r.sg==r'.sg)
 case false =>
  go_enter Tryz.func51,Tryz.ntmps51
  go_upto_region 1 with (fail)
  rw [HW1.out]
  go_wp2_with (first | ((with_reducible refine z0f HX.out ?_ ?_ ?_);rfl;rfl) | ((with_reducible refine z0f HX'.out ?_ ?_ ?_);rfl;rfl) | ((with_reducible refine z0e HX.out ?_ ?_ ?_);rfl;rfl) | ((with_reducible refine z0e HX'.out ?_ ?_ ?_);rfl;rfl))
  go_ret
  exact⟨by rw [HA.out,qk,qsg];rfl,HB1.out⟩
 cases qtx:(r.tx==r'.tx)
 case false =>
  go_enter Tryz.func51,Tryz.ntmps51
  go_upto_region 1 with (fail)
  rw [HW1.out]
  go_wp2_with (first | ((with_reducible refine z0f HX.out ?_ ?_ ?_);rfl;rfl) | ((with_reducible refine z0f HX'.out ?_ ?_ ?_);rfl;rfl) | ((with_reducible refine z0e HX.out ?_ ?_ ?_);rfl;rfl) | ((with_reducible refine z0e HX'.out ?_ ?_ ?_);rfl;rfl))
  go_ret
  exact⟨by rw [HA.out,qk,qsg,qtx];rfl,HB1.out⟩
 cases qst:(r.st==r'.st)
 case false =>
  go_enter Tryz.func51,Tryz.ntmps51
  go_upto_region 1 with (fail)
  rw [HW1.out]
  go_wp2_with (first | ((with_reducible refine z0f HX.out ?_ ?_ ?_);rfl;rfl) | ((with_reducible refine z0f HX'.out ?_ ?_ ?_);rfl;rfl) | ((with_reducible refine z0e HX.out ?_ ?_ ?_);rfl;rfl) | ((with_reducible refine z0e HX'.out ?_ ?_ ?_);rfl;rfl))
  go_ret
  exact⟨by rw [HA.out,qk,qsg,qtx,qst];rfl,HB1.out⟩
 cases qcp:(r.cp==r'.cp)
 case false =>
  go_enter Tryz.func51,Tryz.ntmps51
  go_upto_region 1 with (fail)
  rw [HW1.out]
  go_wp2_with (first | ((with_reducible refine z0f HX.out ?_ ?_ ?_);rfl;rfl) | ((with_reducible refine z0f HX'.out ?_ ?_ ?_);rfl;rfl) | ((with_reducible refine z0e HX.out ?_ ?_ ?_);rfl;rfl) | ((with_reducible refine z0e HX'.out ?_ ?_ ?_);rfl;rfl))
  go_ret
  exact⟨by rw [HA.out,qk,qsg,qtx,qst,qcp];rfl,HB1.out⟩
 cases y
 case false =>
  go_enter Tryz.func51,Tryz.ntmps51
  go_upto_region 1 with (fail)
  rw [HW1.out]
  go_wp2_with (first | ((with_reducible refine z0f HX.out ?_ ?_ ?_);rfl;rfl) | ((with_reducible refine z0f HX'.out ?_ ?_ ?_);rfl;rfl) | ((with_reducible refine z0e HX.out ?_ ?_ ?_);rfl;rfl) | ((with_reducible refine z0e HX'.out ?_ ?_ ?_);rfl;rfl))
  go_ret
  exact⟨by rw [HA.out,qk,qsg,qtx,qst,qcp];rfl,HB1.out⟩
 cases qd:(r.d==r'.d)
 case false =>
  go_enter Tryz.func51,Tryz.ntmps51
  go_upto_region 1 with (fail)
  rw [HW1.out]
  go_wp2_with (first | ((with_reducible refine z0f HX.out ?_ ?_ ?_);rfl;rfl) | ((with_reducible refine z0f HX'.out ?_ ?_ ?_);rfl;rfl) | ((with_reducible refine z0e HX.out ?_ ?_ ?_);rfl;rfl) | ((with_reducible refine z0e HX'.out ?_ ?_ ?_);rfl;rfl))
  go_ret
  exact⟨by rw [HA.out,qk,qsg,qtx,qst,qcp,qd];rfl,HB1.out⟩
 cases qo:(r.o==r'.o)
 case false =>
  go_enter Tryz.func51,Tryz.ntmps51
  go_upto_region 1 with (fail)
  rw [HW1.out]
  go_wp2_with (first | ((with_reducible refine z0f HX.out ?_ ?_ ?_);rfl;rfl) | ((with_reducible refine z0f HX'.out ?_ ?_ ?_);rfl;rfl) | ((with_reducible refine z0e HX.out ?_ ?_ ?_);rfl;rfl) | ((with_reducible refine z0e HX'.out ?_ ?_ ?_);rfl;rfl))
  go_ret
  exact⟨by rw [HA.out,qk,qsg,qtx,qst,qcp,qd,qo];rfl,HB1.out⟩
 go_enter Tryz.func51,Tryz.ntmps51
 go_upto_region 1 with (fail)
 rw [HW1.out]
 go_wp2_with (first | ((with_reducible refine z0f HX.out ?_ ?_ ?_);rfl;rfl) | ((with_reducible refine z0f HX'.out ?_ ?_ ?_);rfl;rfl) | ((with_reducible refine z0e HX.out ?_ ?_ ?_);rfl;rfl) | ((with_reducible refine z0e HX'.out ?_ ?_ ?_);rfl;rfl))
 refine hpp.mono ?_
 rintro e w2 ⟨rfl,h2⟩
 have HB2:=hid (HB1.out.trans (h2.mono HB1.out.size))
 clear h2 hpp c0 d0 c1 d1 c2 d2 c3 d3 c4 d4 c8 d8 c9 d9
 go_wp2_with fail
 go_ret
 exact⟨by rw [HA.out,qk,qsg,qtx,qst,qcp,qd,qo];rfl,HB2.out⟩
structure Gz (W w:World) (B Y:Nat) (r q:Rv):Prop where
 x:RB w B r
 y:RB w Y q
 below:Below W.heap.size W w
 ord:W.heap.size≤B∧B<Y
theorem Gz.later {W w w':World} {B Y:Nat} {r q:Rv} (h:Gz W w B Y r q) (hb:Below w.heap.size w w'):Gz W w' B Y r q:=⟨h.x.later hb,h.y.later hb,h.below.trans (hb.mono h.below.size),h.ord⟩
theorem Gz.put {W w:World} {B Y:Nat} {r q:Rv} (h:Gz W w B Y r q) (j:Nat) (v:Value) (q':Rv) (he:(rcs q).setIfInBounds j v=rcs q'):Gz W (w.setCell ⟨Y,j,none⟩ v) B Y r q':=by
 have ho:=h.ord
 have hc:Chg (fun k=>k=Y) w (w.setCell ⟨Y,j,none⟩ v):=(Chg.refl _ _).setCell ⟨Y,j,none⟩ _ fun _=>rfl
 exact⟨h.x.chg hc (by omega),h.y.put j v q' he,Chg.below h.below h.below.size hc fun k hk=>by omega,h.ord⟩
theorem Gz.set {W w:World} {B Y:Nat} {r q:Rv} (h:Gz W w B Y r q) (q':Rv):Gz W (w.setRow Y (rcs q')) B Y r q':=by
 have ho:=h.ord
 have hc:Chg (fun k=>k=Y) w (w.setRow Y (rcs q')):=⟨rfl,rfl,rfl,by simp [World.setRow],fun k _ hn=>setRow_other _ _ _ _ hn⟩
 exact⟨h.x.chg hc (by omega),h.y.set q',Chg.below h.below h.below.size hc fun k hk=>by omega,h.ord⟩
theorem Gz.cy {W w:World} {B Y:Nat} {r q:Rv} (h:Gz W w B Y r q) {j:Nat} {v:Value} (hj:(rcs q)[j]?=some v):w.cell? ⟨Y,j,none⟩=some v∧w.frozen? ⟨Y,j,none⟩=false:=⟨z0a h.y hj,z0u j h.y⟩
theorem Gz.cx {W w:World} {B Y:Nat} {r q:Rv} (h:Gz W w B Y r q) {j:Nat} {v:Value} (hj:(rcs r)[j]?=some v):w.cell? ⟨B,j,none⟩=some v:=z0a h.x hj
theorem rrec_good1 (r:Rv) (L:List Ln) (T:List Tk) (M:List Ln) (W:World) (hP:RvM W r L T M) (hok:Rxok (r.x L T M)) (h1:r.ln≤1000∧r.tn≤1000∧r.wn≤1000) (hk:r.k=1):Calls Tryz.prog 47 #[.agg (rcs r)] W fun e w'=>e=.returned (.bool (z1b (r.x L T M)))∧Below W.heap.size W w':=by
 have HOK:=hid hok
 have HP:=hid hP
 have HH:=hid h1
 clear hok hP h1
 obtain⟨W1,hW1,hb1⟩:∃ W1,W.alloc (.cells (rcs r) 51)=W1∧Below W.heap.size W W1:=⟨_,rfl,(Below.refl _ _).alloc (Nat.le_refl _) _⟩
 obtain⟨B,hB⟩:∃ B,W.heap.size=B:=⟨_,rfl⟩
 have hrb:=RB.new W r
 rw [hW1,hB] at hrb
 obtain⟨Y,hY⟩:∃ Y,W1.heap.size=Y:=⟨_,rfl⟩
 have hBY:B<Y:=by have:=hrb.lt;omega
 obtain⟨w1,hw1,hx1,hb1a⟩:∃ w1,W1.alloc (.cells zr 51)=w1∧RB w1 Y rz∧Below W1.heap.size W1 w1:=⟨_,rfl,by rw [← hY];exact z0b W1 _,(Below.refl _ _).alloc (Nat.le_refl _) _⟩
 have hG1:Gz W w1 B Y r rz:=⟨hrb.later hb1a,hx1,hb1.trans (hb1a.mono hb1.size),by omega,hBY⟩
 obtain⟨w2,hw2,hG2⟩:∃ w2,w1.setRow Y (rcs (rm 1 0 0 0 false 0 0 0 0 0))=w2∧Gz W w2 B Y r (rm 1 0 0 0 false 0 0 0 0 0):=⟨_,rfl,hG1.set _⟩
 have HX1:=hid hrb
 have HW1:=hid hW1
 have HRE:=hid hB
 have HYE:=hid hY
 have HW1a:=hid hw1
 have HXZ:=hid hx1
 have HW2:=hid hw2
 have HG2:=hid hG2
 have c0:W1.cell? ⟨B,0,none⟩=some (.int .u8 r.k):=z0a hrb rfl
 rw [hk] at c0
 clear hW1 hB hY hBY hw1 hx1 hb1a hG1 hw2 hG2 hb1 hrb
 have HHK:=hid hk
 go_enter Tryz.func47,Tryz.ntmps47
 go_upto_region 1 with (fail)
 rw [HW1.out,HRE.out]
 go_upto_region 2 with ((try rw [HYE.out]);(try rw [HW1a.out]);(with_reducible refine z0n (rm 1 0 0 0 false 0 0 0 0 0) HXZ.out ?_ ?_ ?_);rfl;rfl;rw [HW2.out])
 clear c0 HX1 HW1 HRE HYE HW1a HXZ HW2
 have c0:=HG2.out.cx (j:=0) (v:=.int .u8 r.k) rfl
 have c1:=HG2.out.cx (j:=1) (v:=.int .u32 r.sg) rfl
 have c2:=HG2.out.cx (j:=2) (v:=.int .u32 r.tx) rfl
 have c3:=HG2.out.cx (j:=3) (v:=.int .u8 r.st) rfl
 have c4:=HG2.out.cx (j:=4) (v:=.bool r.cp) rfl
 have c8:=HG2.out.cx (j:=8) (v:=.int .i64 r.d) rfl
 have c9:=HG2.out.cx (j:=9) (v:=.int .u8 r.o) rfl
 rw [hk] at c0
 obtain⟨cy,cf⟩:=HG2.out.cy (j:=1) (v:=.int .u32 0) rfl
 go_upto_region 7 with (fail)
 clear cy cf
 have hq:=HG2.out.put 1 (.int .u32 r.sg) (rm 1 r.sg 0 0 false 0 0 0 0 0) rfl
 generalize w2.setCell ⟨Y,1,none⟩ (.int .u32 r.sg)=w3 at *
 have HG3:=hid hq
 clear hq HG2
 clear c0 c1 c2 c3 c4 c8 c9
 have c0:=HG3.out.cx (j:=0) (v:=.int .u8 r.k) rfl
 have c1:=HG3.out.cx (j:=1) (v:=.int .u32 r.sg) rfl
 have c2:=HG3.out.cx (j:=2) (v:=.int .u32 r.tx) rfl
 have c3:=HG3.out.cx (j:=3) (v:=.int .u8 r.st) rfl
 have c4:=HG3.out.cx (j:=4) (v:=.bool r.cp) rfl
 have c8:=HG3.out.cx (j:=8) (v:=.int .i64 r.d) rfl
 have c9:=HG3.out.cx (j:=9) (v:=.int .u8 r.o) rfl
 rw [hk] at c0
 obtain⟨w4,hgen,hq⟩:∃ w4,w3.setRow Y (rcs (Rv.withP (rm 1 r.sg 0 0 false 0 0 0 0 0) r))=w4∧Gz W w4 B Y r (Rv.withP (rm 1 r.sg 0 0 false 0 0 0 0 0) r):=⟨_,rfl,HG3.out.set _⟩
 have HGEN:=hid hgen
 have HG4:=hid hq
 clear hgen hq
 go_upto_region 8 with (first | ((with_reducible refine z2w HG3.out.x ?_ ?_);rfl) | ((with_reducible refine wpList_store_pr r HG3.out.y ?_ ?_ ?_);rfl;rfl;rw [HGEN.out]))
 clear HGEN HG3
 clear c0 c1 c2 c3 c4 c8 c9
 have c0:=HG4.out.cx (j:=0) (v:=.int .u8 r.k) rfl
 have c1:=HG4.out.cx (j:=1) (v:=.int .u32 r.sg) rfl
 have c2:=HG4.out.cx (j:=2) (v:=.int .u32 r.tx) rfl
 have c3:=HG4.out.cx (j:=3) (v:=.int .u8 r.st) rfl
 have c4:=HG4.out.cx (j:=4) (v:=.bool r.cp) rfl
 have c8:=HG4.out.cx (j:=8) (v:=.int .i64 r.d) rfl
 have c9:=HG4.out.cx (j:=9) (v:=.int .u8 r.o) rfl
 rw [hk] at c0
 have HA:Hid (z1b (r.x L T M)=((r.sg != 0) && z0t 4 4 (r.pg L T M) && decide (r.x L T M=(Rv.x (Rv.withP (rm 1 r.sg 0 0 false 0 0 0 0 0) r) L T M)))):=hid (by
  have e:r.x L T M=⟨1,r.sg,r.tx,r.st,r.cp,(r.ka,r.kb,r.kc),r.d,r.o,r.pg L T M⟩:=by unfold Rv.x;rw [hk]
  rw [e,gk1 _ _ _ _ _ _ _ _]
  rfl)
 obtain⟨z,hz⟩:∃ z,decide (r.x L T M=(Rv.x (Rv.withP (rm 1 r.sg 0 0 false 0 0 0 0 0) r) L T M))=z:=⟨_,rfl⟩
 rw [hz] at HA
 have HSM:=hid (fun w (h:Gz W w B Y r (Rv.withP (rm 1 r.sg 0 0 false 0 0 0 0 0) r))=>z2z r (Rv.withP (rm 1 r.sg 0 0 false 0 0 0 0 0) r) L T M L T M w (HP.out.later h.below) (HP.out.later h.below) HH.out HH.out)
 rw [hz] at HSM
 clear hz hk
 have HGX:=HG4
 clear HG4
 cases qsg:(r.sg != 0)
 case false =>
  go_wp2_with (first | ((with_reducible refine z0d HGX.out.x ?_ ?_ ?_);rfl;rfl) | ((with_reducible refine z0d HGX.out.y ?_ ?_ ?_);rfl;rfl) | ((with_reducible refine z0e HGX.out.x ?_ ?_ ?_);rfl;rfl) | ((with_reducible refine z0f HGX.out.x ?_ ?_ ?_);rfl;rfl))
  go_ret
  exact⟨by rw [HA.out,qsg];rfl,HGX.out.below⟩
 go_wp2_with (first | ((with_reducible refine z0d HGX.out.x ?_ ?_ ?_);rfl;rfl) | ((with_reducible refine z0d HGX.out.y ?_ ?_ ?_);rfl;rfl) | ((with_reducible refine z0e HGX.out.x ?_ ?_ ?_);rfl;rfl) | ((with_reducible refine z0f HGX.out.x ?_ ?_ ?_);rfl;rfl))
 refine (rgood_p 4 4 r.pk r.od r.po r.lp r.ln r.lcp r.tp r.tn r.tcp r.wp r.wn r.wcp r.sk r.fr r.to r.q L T M w4 (HP.out.later HGX.out.below) HOK.out.pg HH.out).mono ?_
 rintro e w5 ⟨rfl,hcb⟩
 have hgp:z0t 4 4 ⟨r.pk,r.od,r.po,L,T,M,r.sk,r.fr,r.to,r.q⟩=z0t 4 4 (r.pg L T M):=rfl
 rw [hgp]
 clear hgp
 have HGX:=hid (HGX.out.later hcb)
 clear hcb
 clear c0 c1 c2 c3 c4 c8 c9
 have c0:=HGX.out.cx (j:=0) (v:=.int .u8 r.k) rfl
 have c1:=HGX.out.cx (j:=1) (v:=.int .u32 r.sg) rfl
 have c2:=HGX.out.cx (j:=2) (v:=.int .u32 r.tx) rfl
 have c3:=HGX.out.cx (j:=3) (v:=.int .u8 r.st) rfl
 have c4:=HGX.out.cx (j:=4) (v:=.bool r.cp) rfl
 have c8:=HGX.out.cx (j:=8) (v:=.int .i64 r.d) rfl
 have c9:=HGX.out.cx (j:=9) (v:=.int .u8 r.o) rfl
 rw [HHK.out] at c0
 cases qCP:z0t 4 4 (r.pg L T M)
 case false =>
  go_wp2_with (first | ((with_reducible refine z0d HGX.out.x ?_ ?_ ?_);rfl;rfl) | ((with_reducible refine z0d HGX.out.y ?_ ?_ ?_);rfl;rfl) | ((with_reducible refine z0e HGX.out.x ?_ ?_ ?_);rfl;rfl) | ((with_reducible refine z0f HGX.out.x ?_ ?_ ?_);rfl;rfl))
  go_ret
  exact⟨by rw [HA.out,qsg,qCP];rfl,HGX.out.below⟩
 go_wp2_with (first | ((with_reducible refine z0d HGX.out.x ?_ ?_ ?_);rfl;rfl) | ((with_reducible refine z0d HGX.out.y ?_ ?_ ?_);rfl;rfl) | ((with_reducible refine z0e HGX.out.x ?_ ?_ ?_);rfl;rfl) | ((with_reducible refine z0f HGX.out.x ?_ ?_ ?_);rfl;rfl))
 refine (HSM.out w5 HGX.out).mono ?_
 rintro e w6 ⟨rfl,hcb⟩
 have HB9:=hid (HGX.out.below.trans (hcb.mono HGX.out.below.size))
 clear hcb
 clear c0 c1 c2 c3 c4 c8 c9
 go_wp2_with fail
 go_ret
 exact⟨by rw [HA.out,qsg,qCP];rfl,HB9.out⟩
theorem rrec_good2 (r:Rv) (L:List Ln) (T:List Tk) (M:List Ln) (W:World) (hP:RvM W r L T M) (hok:Rxok (r.x L T M)) (h1:r.ln≤1000∧r.tn≤1000∧r.wn≤1000) (hk:r.k=2):Calls Tryz.prog 47 #[.agg (rcs r)] W fun e w'=>e=.returned (.bool (z1b (r.x L T M)))∧Below W.heap.size W w':=by
 have HOK:=hid hok
 have HP:=hid hP
 have HH:=hid h1
 clear hok hP h1
 obtain⟨W1,hW1,hb1⟩:∃ W1,W.alloc (.cells (rcs r) 51)=W1∧Below W.heap.size W W1:=⟨_,rfl,(Below.refl _ _).alloc (Nat.le_refl _) _⟩
 obtain⟨B,hB⟩:∃ B,W.heap.size=B:=⟨_,rfl⟩
 have hrb:=RB.new W r
 rw [hW1,hB] at hrb
 obtain⟨Y,hY⟩:∃ Y,W1.heap.size=Y:=⟨_,rfl⟩
 have hBY:B<Y:=by have:=hrb.lt;omega
 obtain⟨w1,hw1,hx1,hb1a⟩:∃ w1,W1.alloc (.cells zr 51)=w1∧RB w1 Y rz∧Below W1.heap.size W1 w1:=⟨_,rfl,by rw [← hY];exact z0b W1 _,(Below.refl _ _).alloc (Nat.le_refl _) _⟩
 have hG1:Gz W w1 B Y r rz:=⟨hrb.later hb1a,hx1,hb1.trans (hb1a.mono hb1.size),by omega,hBY⟩
 obtain⟨w2,hw2,hG2⟩:∃ w2,w1.setRow Y (rcs (rm 2 0 0 0 false 0 0 0 0 0))=w2∧Gz W w2 B Y r (rm 2 0 0 0 false 0 0 0 0 0):=⟨_,rfl,hG1.set _⟩
 have HX1:=hid hrb
 have HW1:=hid hW1
 have HRE:=hid hB
 have HYE:=hid hY
 have HW1a:=hid hw1
 have HXZ:=hid hx1
 have HW2:=hid hw2
 have HG2:=hid hG2
 have c0:W1.cell? ⟨B,0,none⟩=some (.int .u8 r.k):=z0a hrb rfl
 rw [hk] at c0
 clear hW1 hB hY hBY hw1 hx1 hb1a hG1 hw2 hG2 hb1 hrb
 have HHK:=hid hk
 go_enter Tryz.func47,Tryz.ntmps47
 go_upto_region 1 with (fail)
 rw [HW1.out,HRE.out]
 go_upto_region 2 with ((try rw [HYE.out]);(try rw [HW1a.out]);(with_reducible refine z0n (rm 2 0 0 0 false 0 0 0 0 0) HXZ.out ?_ ?_ ?_);rfl;rfl;rw [HW2.out])
 clear c0 HX1 HW1 HRE HYE HW1a HXZ HW2
 have c0:=HG2.out.cx (j:=0) (v:=.int .u8 r.k) rfl
 have c1:=HG2.out.cx (j:=1) (v:=.int .u32 r.sg) rfl
 have c2:=HG2.out.cx (j:=2) (v:=.int .u32 r.tx) rfl
 have c3:=HG2.out.cx (j:=3) (v:=.int .u8 r.st) rfl
 have c4:=HG2.out.cx (j:=4) (v:=.bool r.cp) rfl
 have c8:=HG2.out.cx (j:=8) (v:=.int .i64 r.d) rfl
 have c9:=HG2.out.cx (j:=9) (v:=.int .u8 r.o) rfl
 rw [hk] at c0
 obtain⟨cy,cf⟩:=HG2.out.cy (j:=1) (v:=.int .u32 0) rfl
 go_upto_region 11 with (fail)
 clear cy cf
 have hq:=HG2.out.put 1 (.int .u32 r.sg) (rm 2 r.sg 0 0 false 0 0 0 0 0) rfl
 generalize w2.setCell ⟨Y,1,none⟩ (.int .u32 r.sg)=w3 at *
 have HG3:=hid hq
 clear hq HG2
 clear c0 c1 c2 c3 c4 c8 c9
 have c0:=HG3.out.cx (j:=0) (v:=.int .u8 r.k) rfl
 have c1:=HG3.out.cx (j:=1) (v:=.int .u32 r.sg) rfl
 have c2:=HG3.out.cx (j:=2) (v:=.int .u32 r.tx) rfl
 have c3:=HG3.out.cx (j:=3) (v:=.int .u8 r.st) rfl
 have c4:=HG3.out.cx (j:=4) (v:=.bool r.cp) rfl
 have c8:=HG3.out.cx (j:=8) (v:=.int .i64 r.d) rfl
 have c9:=HG3.out.cx (j:=9) (v:=.int .u8 r.o) rfl
 rw [hk] at c0
 obtain⟨cy,cf⟩:=HG3.out.cy (j:=2) (v:=.int .u32 0) rfl
 go_upto_region 12 with (fail)
 clear cy cf
 have hq:=HG3.out.put 2 (.int .u32 r.tx) (rm 2 r.sg r.tx 0 false 0 0 0 0 0) rfl
 generalize w3.setCell ⟨Y,2,none⟩ (.int .u32 r.tx)=w4 at *
 have HG4:=hid hq
 clear hq HG3
 clear c0 c1 c2 c3 c4 c8 c9
 have c0:=HG4.out.cx (j:=0) (v:=.int .u8 r.k) rfl
 have c1:=HG4.out.cx (j:=1) (v:=.int .u32 r.sg) rfl
 have c2:=HG4.out.cx (j:=2) (v:=.int .u32 r.tx) rfl
 have c3:=HG4.out.cx (j:=3) (v:=.int .u8 r.st) rfl
 have c4:=HG4.out.cx (j:=4) (v:=.bool r.cp) rfl
 have c8:=HG4.out.cx (j:=8) (v:=.int .i64 r.d) rfl
 have c9:=HG4.out.cx (j:=9) (v:=.int .u8 r.o) rfl
 rw [hk] at c0
 obtain⟨cy,cf⟩:=HG4.out.cy (j:=3) (v:=.int .u8 0) rfl
 go_upto_region 13 with (fail)
 clear cy cf
 have hq:=HG4.out.put 3 (.int .u8 r.st) (rm 2 r.sg r.tx r.st false 0 0 0 0 0) rfl
 generalize w4.setCell ⟨Y,3,none⟩ (.int .u8 r.st)=w5 at *
 have HG5:=hid hq
 clear hq HG4
 clear c0 c1 c2 c3 c4 c8 c9
 have c0:=HG5.out.cx (j:=0) (v:=.int .u8 r.k) rfl
 have c1:=HG5.out.cx (j:=1) (v:=.int .u32 r.sg) rfl
 have c2:=HG5.out.cx (j:=2) (v:=.int .u32 r.tx) rfl
 have c3:=HG5.out.cx (j:=3) (v:=.int .u8 r.st) rfl
 have c4:=HG5.out.cx (j:=4) (v:=.bool r.cp) rfl
 have c8:=HG5.out.cx (j:=8) (v:=.int .i64 r.d) rfl
 have c9:=HG5.out.cx (j:=9) (v:=.int .u8 r.o) rfl
 rw [hk] at c0
 obtain⟨cy,cf⟩:=HG5.out.cy (j:=4) (v:=.bool false) rfl
 go_upto_region 14 with (fail)
 clear cy cf
 have hq:=HG5.out.put 4 (.bool r.cp) (rm 2 r.sg r.tx r.st r.cp 0 0 0 0 0) rfl
 generalize w5.setCell ⟨Y,4,none⟩ (.bool r.cp)=w6 at *
 have HG6:=hid hq
 clear hq HG5
 clear c0 c1 c2 c3 c4 c8 c9
 have c0:=HG6.out.cx (j:=0) (v:=.int .u8 r.k) rfl
 have c1:=HG6.out.cx (j:=1) (v:=.int .u32 r.sg) rfl
 have c2:=HG6.out.cx (j:=2) (v:=.int .u32 r.tx) rfl
 have c3:=HG6.out.cx (j:=3) (v:=.int .u8 r.st) rfl
 have c4:=HG6.out.cx (j:=4) (v:=.bool r.cp) rfl
 have c8:=HG6.out.cx (j:=8) (v:=.int .i64 r.d) rfl
 have c9:=HG6.out.cx (j:=9) (v:=.int .u8 r.o) rfl
 rw [hk] at c0
 have HA:Hid (z1b (r.x L T M)=((r.sg != 0) && (r.tx != 0) && decide (r.st<5) && decide (r.x L T M=(Rv.x (rm 2 r.sg r.tx r.st r.cp 0 0 0 0 0) [] [] [])))):=hid (by
  have e:r.x L T M=⟨2,r.sg,r.tx,r.st,r.cp,(r.ka,r.kb,r.kc),r.d,r.o,r.pg L T M⟩:=by unfold Rv.x;rw [hk]
  rw [e,gk2 _ _ _ _ _ _ _ _]
  rfl)
 obtain⟨z,hz⟩:∃ z,decide (r.x L T M=(Rv.x (rm 2 r.sg r.tx r.st r.cp 0 0 0 0 0) [] [] []))=z:=⟨_,rfl⟩
 rw [hz] at HA
 have HSM:=hid (fun w (h:Gz W w B Y r (rm 2 r.sg r.tx r.st r.cp 0 0 0 0 0))=>z2z r (rm 2 r.sg r.tx r.st r.cp 0 0 0 0 0) L T M [] [] [] w (HP.out.later h.below) (z2e _ _ _ _ _ _ _ _ _ _ _) HH.out ⟨Nat.zero_le _,Nat.zero_le _,Nat.zero_le _⟩)
 rw [hz] at HSM
 clear hz hk
 have HGX:=HG6
 clear HG6
 cases qsg:(r.sg != 0)
 case false =>
  go_wp2_with (first | ((with_reducible refine z0d HGX.out.x ?_ ?_ ?_);rfl;rfl) | ((with_reducible refine z0d HGX.out.y ?_ ?_ ?_);rfl;rfl) | ((with_reducible refine z0e HGX.out.x ?_ ?_ ?_);rfl;rfl) | ((with_reducible refine z0f HGX.out.x ?_ ?_ ?_);rfl;rfl))
  go_ret
  exact⟨by rw [HA.out,qsg];rfl,HGX.out.below⟩
 cases qtx:(r.tx != 0)
 case false =>
  go_wp2_with (first | ((with_reducible refine z0d HGX.out.x ?_ ?_ ?_);rfl;rfl) | ((with_reducible refine z0d HGX.out.y ?_ ?_ ?_);rfl;rfl) | ((with_reducible refine z0e HGX.out.x ?_ ?_ ?_);rfl;rfl) | ((with_reducible refine z0f HGX.out.x ?_ ?_ ?_);rfl;rfl))
  go_ret
  exact⟨by rw [HA.out,qsg,qtx];rfl,HGX.out.below⟩
 cases qLT:decide (r.st<5)
 case false =>
  go_wp2_with (first | ((with_reducible refine z0d HGX.out.x ?_ ?_ ?_);rfl;rfl) | ((with_reducible refine z0d HGX.out.y ?_ ?_ ?_);rfl;rfl) | ((with_reducible refine z0e HGX.out.x ?_ ?_ ?_);rfl;rfl) | ((with_reducible refine z0f HGX.out.x ?_ ?_ ?_);rfl;rfl))
  go_ret
  exact⟨by rw [HA.out,qsg,qtx,qLT];rfl,HGX.out.below⟩
 go_wp2_with (first | ((with_reducible refine z0d HGX.out.x ?_ ?_ ?_);rfl;rfl) | ((with_reducible refine z0d HGX.out.y ?_ ?_ ?_);rfl;rfl) | ((with_reducible refine z0e HGX.out.x ?_ ?_ ?_);rfl;rfl) | ((with_reducible refine z0f HGX.out.x ?_ ?_ ?_);rfl;rfl))
 refine (HSM.out w6 HGX.out).mono ?_
 rintro e w7 ⟨rfl,hcb⟩
 have HB9:=hid (HGX.out.below.trans (hcb.mono HGX.out.below.size))
 clear hcb
 clear c0 c1 c2 c3 c4 c8 c9
 go_wp2_with fail
 go_ret
 exact⟨by rw [HA.out,qsg,qtx,qLT];rfl,HB9.out⟩
theorem rrec_good3 (r:Rv) (L:List Ln) (T:List Tk) (M:List Ln) (W:World) (hP:RvM W r L T M) (hok:Rxok (r.x L T M)) (h1:r.ln≤1000∧r.tn≤1000∧r.wn≤1000) (hk:r.k=3):Calls Tryz.prog 47 #[.agg (rcs r)] W fun e w'=>e=.returned (.bool (z1b (r.x L T M)))∧Below W.heap.size W w':=by
 have HOK:=hid hok
 have HP:=hid hP
 have HH:=hid h1
 clear hok hP h1
 obtain⟨W1,hW1,hb1⟩:∃ W1,W.alloc (.cells (rcs r) 51)=W1∧Below W.heap.size W W1:=⟨_,rfl,(Below.refl _ _).alloc (Nat.le_refl _) _⟩
 obtain⟨B,hB⟩:∃ B,W.heap.size=B:=⟨_,rfl⟩
 have hrb:=RB.new W r
 rw [hW1,hB] at hrb
 obtain⟨Y,hY⟩:∃ Y,W1.heap.size=Y:=⟨_,rfl⟩
 have hBY:B<Y:=by have:=hrb.lt;omega
 obtain⟨w1,hw1,hx1,hb1a⟩:∃ w1,W1.alloc (.cells zr 51)=w1∧RB w1 Y rz∧Below W1.heap.size W1 w1:=⟨_,rfl,by rw [← hY];exact z0b W1 _,(Below.refl _ _).alloc (Nat.le_refl _) _⟩
 have hG1:Gz W w1 B Y r rz:=⟨hrb.later hb1a,hx1,hb1.trans (hb1a.mono hb1.size),by omega,hBY⟩
 obtain⟨w2,hw2,hG2⟩:∃ w2,w1.setRow Y (rcs (rm 3 0 0 0 false 0 0 0 0 0))=w2∧Gz W w2 B Y r (rm 3 0 0 0 false 0 0 0 0 0):=⟨_,rfl,hG1.set _⟩
 have HX1:=hid hrb
 have HW1:=hid hW1
 have HRE:=hid hB
 have HYE:=hid hY
 have HW1a:=hid hw1
 have HXZ:=hid hx1
 have HW2:=hid hw2
 have HG2:=hid hG2
 have c0:W1.cell? ⟨B,0,none⟩=some (.int .u8 r.k):=z0a hrb rfl
 rw [hk] at c0
 clear hW1 hB hY hBY hw1 hx1 hb1a hG1 hw2 hG2 hb1 hrb
 have HHK:=hid hk
 go_enter Tryz.func47,Tryz.ntmps47
 go_upto_region 1 with (fail)
 rw [HW1.out,HRE.out]
 go_upto_region 2 with ((try rw [HYE.out]);(try rw [HW1a.out]);(with_reducible refine z0n (rm 3 0 0 0 false 0 0 0 0 0) HXZ.out ?_ ?_ ?_);rfl;rfl;rw [HW2.out])
 clear c0 HX1 HW1 HRE HYE HW1a HXZ HW2
 have c0:=HG2.out.cx (j:=0) (v:=.int .u8 r.k) rfl
 have c1:=HG2.out.cx (j:=1) (v:=.int .u32 r.sg) rfl
 have c2:=HG2.out.cx (j:=2) (v:=.int .u32 r.tx) rfl
 have c3:=HG2.out.cx (j:=3) (v:=.int .u8 r.st) rfl
 have c4:=HG2.out.cx (j:=4) (v:=.bool r.cp) rfl
 have c8:=HG2.out.cx (j:=8) (v:=.int .i64 r.d) rfl
 have c9:=HG2.out.cx (j:=9) (v:=.int .u8 r.o) rfl
 rw [hk] at c0
 obtain⟨cy,cf⟩:=HG2.out.cy (j:=2) (v:=.int .u32 0) rfl
 go_upto_region 18 with (fail)
 clear cy cf
 have hq:=HG2.out.put 2 (.int .u32 r.tx) (rm 3 0 r.tx 0 false 0 0 0 0 0) rfl
 generalize w2.setCell ⟨Y,2,none⟩ (.int .u32 r.tx)=w3 at *
 have HG3:=hid hq
 clear hq HG2
 clear c0 c1 c2 c3 c4 c8 c9
 have c0:=HG3.out.cx (j:=0) (v:=.int .u8 r.k) rfl
 have c1:=HG3.out.cx (j:=1) (v:=.int .u32 r.sg) rfl
 have c2:=HG3.out.cx (j:=2) (v:=.int .u32 r.tx) rfl
 have c3:=HG3.out.cx (j:=3) (v:=.int .u8 r.st) rfl
 have c4:=HG3.out.cx (j:=4) (v:=.bool r.cp) rfl
 have c8:=HG3.out.cx (j:=8) (v:=.int .i64 r.d) rfl
 have c9:=HG3.out.cx (j:=9) (v:=.int .u8 r.o) rfl
 rw [hk] at c0
 obtain⟨w4,hgen,hq⟩:∃ w4,w3.setRow Y (rcs { (rm 3 0 r.tx 0 false 0 0 0 0 0) with ka:=r.ka,kb:=r.kb,kc:=r.kc })=w4∧Gz W w4 B Y r (rm 3 0 r.tx 0 false r.ka r.kb r.kc 0 0):=⟨_,rfl,HG3.out.set (rm 3 0 r.tx 0 false r.ka r.kb r.kc 0 0)⟩
 have HGEN:=hid hgen
 have HG4:=hid hq
 clear hgen hq
 go_upto_region 19 with (first | ((with_reducible refine z2g HG3.out.x ?_ ?_);rfl) | ((with_reducible refine z3h r.ka r.kb r.kc HG3.out.y ?_ ?_ ?_);rfl;rfl;rw [HGEN.out]))
 clear HGEN HG3
 clear c0 c1 c2 c3 c4 c8 c9
 have c0:=HG4.out.cx (j:=0) (v:=.int .u8 r.k) rfl
 have c1:=HG4.out.cx (j:=1) (v:=.int .u32 r.sg) rfl
 have c2:=HG4.out.cx (j:=2) (v:=.int .u32 r.tx) rfl
 have c3:=HG4.out.cx (j:=3) (v:=.int .u8 r.st) rfl
 have c4:=HG4.out.cx (j:=4) (v:=.bool r.cp) rfl
 have c8:=HG4.out.cx (j:=8) (v:=.int .i64 r.d) rfl
 have c9:=HG4.out.cx (j:=9) (v:=.int .u8 r.o) rfl
 rw [hk] at c0
 obtain⟨cy,cf⟩:=HG4.out.cy (j:=8) (v:=.int .i64 0) rfl
 go_upto_region 20 with (fail)
 clear cy cf
 have hq:=HG4.out.put 8 (.int .i64 r.d) (rm 3 0 r.tx 0 false r.ka r.kb r.kc r.d 0) rfl
 generalize w4.setCell ⟨Y,8,none⟩ (.int .i64 r.d)=w5 at *
 have HG5:=hid hq
 clear hq HG4
 clear c0 c1 c2 c3 c4 c8 c9
 have c0:=HG5.out.cx (j:=0) (v:=.int .u8 r.k) rfl
 have c1:=HG5.out.cx (j:=1) (v:=.int .u32 r.sg) rfl
 have c2:=HG5.out.cx (j:=2) (v:=.int .u32 r.tx) rfl
 have c3:=HG5.out.cx (j:=3) (v:=.int .u8 r.st) rfl
 have c4:=HG5.out.cx (j:=4) (v:=.bool r.cp) rfl
 have c8:=HG5.out.cx (j:=8) (v:=.int .i64 r.d) rfl
 have c9:=HG5.out.cx (j:=9) (v:=.int .u8 r.o) rfl
 rw [hk] at c0
 have HA:Hid (z1b (r.x L T M)=((r.tx != 0) && z4i 4 4 r.ka r.kb r.kc && (r.d != 0) && decide (-9223372036854775807≤r.d) && decide (r.x L T M=(Rv.x (rm 3 0 r.tx 0 false r.ka r.kb r.kc r.d 0) [] [] [])))):=hid (by
  have e:r.x L T M=⟨3,r.sg,r.tx,r.st,r.cp,(r.ka,r.kb,r.kc),r.d,r.o,r.pg L T M⟩:=by unfold Rv.x;rw [hk]
  rw [e,gk3 _ _ _ _ _ _ _ _ (show In64 r.d from HOK.out.d)]
  rfl)
 obtain⟨z,hz⟩:∃ z,decide (r.x L T M=(Rv.x (rm 3 0 r.tx 0 false r.ka r.kb r.kc r.d 0) [] [] []))=z:=⟨_,rfl⟩
 rw [hz] at HA
 have HSM:=hid (fun w (h:Gz W w B Y r (rm 3 0 r.tx 0 false r.ka r.kb r.kc r.d 0))=>z2z r (rm 3 0 r.tx 0 false r.ka r.kb r.kc r.d 0) L T M [] [] [] w (HP.out.later h.below) (z2e _ _ _ _ _ _ _ _ _ _ _) HH.out ⟨Nat.zero_le _,Nat.zero_le _,Nat.zero_le _⟩)
 rw [hz] at HSM
 clear hz hk
 have HGX:=HG5
 clear HG5
 cases qtx:(r.tx != 0)
 case false =>
  go_wp2_with (first | ((with_reducible refine z0d HGX.out.x ?_ ?_ ?_);rfl;rfl) | ((with_reducible refine z0d HGX.out.y ?_ ?_ ?_);rfl;rfl) | ((with_reducible refine z0e HGX.out.x ?_ ?_ ?_);rfl;rfl) | ((with_reducible refine z0f HGX.out.x ?_ ?_ ?_);rfl;rfl))
  go_ret
  exact⟨by rw [HA.out,qtx];rfl,HGX.out.below⟩
 go_wp2_with (first | ((with_reducible refine z0d HGX.out.x ?_ ?_ ?_);rfl;rfl) | ((with_reducible refine z0d HGX.out.y ?_ ?_ ?_);rfl;rfl) | ((with_reducible refine z0e HGX.out.x ?_ ?_ ?_);rfl;rfl) | ((with_reducible refine z0f HGX.out.x ?_ ?_ ?_);rfl;rfl))
 refine (refgood_any 4 4 r.ka r.kb r.kc HOK.out.key.2.1 HOK.out.key.2.2 w5).mono ?_
 rintro e w6 ⟨rfl,hgr⟩
 have hcb:=hgr.below
 clear hgr
 have HGX:=hid (HGX.out.later hcb)
 clear hcb
 clear c0 c1 c2 c3 c4 c8 c9
 have c0:=HGX.out.cx (j:=0) (v:=.int .u8 r.k) rfl
 have c1:=HGX.out.cx (j:=1) (v:=.int .u32 r.sg) rfl
 have c2:=HGX.out.cx (j:=2) (v:=.int .u32 r.tx) rfl
 have c3:=HGX.out.cx (j:=3) (v:=.int .u8 r.st) rfl
 have c4:=HGX.out.cx (j:=4) (v:=.bool r.cp) rfl
 have c8:=HGX.out.cx (j:=8) (v:=.int .i64 r.d) rfl
 have c9:=HGX.out.cx (j:=9) (v:=.int .u8 r.o) rfl
 rw [HHK.out] at c0
 cases qCK:z4i 4 4 r.ka r.kb r.kc
 case false =>
  go_wp2_with (first | ((with_reducible refine z0d HGX.out.x ?_ ?_ ?_);rfl;rfl) | ((with_reducible refine z0d HGX.out.y ?_ ?_ ?_);rfl;rfl) | ((with_reducible refine z0e HGX.out.x ?_ ?_ ?_);rfl;rfl) | ((with_reducible refine z0f HGX.out.x ?_ ?_ ?_);rfl;rfl))
  go_ret
  exact⟨by rw [HA.out,qtx,qCK];rfl,HGX.out.below⟩
 cases qdn:(r.d != 0)
 case false =>
  go_wp2_with (first | ((with_reducible refine z0d HGX.out.x ?_ ?_ ?_);rfl;rfl) | ((with_reducible refine z0d HGX.out.y ?_ ?_ ?_);rfl;rfl) | ((with_reducible refine z0e HGX.out.x ?_ ?_ ?_);rfl;rfl) | ((with_reducible refine z0f HGX.out.x ?_ ?_ ?_);rfl;rfl))
  go_ret
  exact⟨by rw [HA.out,qtx,qCK,qdn];rfl,HGX.out.below⟩
 cases qdg:decide (-9223372036854775807≤r.d)
 case false =>
  go_wp2_with (first | ((with_reducible refine z0d HGX.out.x ?_ ?_ ?_);rfl;rfl) | ((with_reducible refine z0d HGX.out.y ?_ ?_ ?_);rfl;rfl) | ((with_reducible refine z0e HGX.out.x ?_ ?_ ?_);rfl;rfl) | ((with_reducible refine z0f HGX.out.x ?_ ?_ ?_);rfl;rfl))
  go_ret
  exact⟨by rw [HA.out,qtx,qCK,qdn,qdg];rfl,HGX.out.below⟩
 go_wp2_with (first | ((with_reducible refine z0d HGX.out.x ?_ ?_ ?_);rfl;rfl) | ((with_reducible refine z0d HGX.out.y ?_ ?_ ?_);rfl;rfl) | ((with_reducible refine z0e HGX.out.x ?_ ?_ ?_);rfl;rfl) | ((with_reducible refine z0f HGX.out.x ?_ ?_ ?_);rfl;rfl))
 refine (HSM.out w6 HGX.out).mono ?_
 rintro e w7 ⟨rfl,hcb⟩
 have HB9:=hid (HGX.out.below.trans (hcb.mono HGX.out.below.size))
 clear hcb
 clear c0 c1 c2 c3 c4 c8 c9
 go_wp2_with fail
 go_ret
 exact⟨by rw [HA.out,qtx,qCK,qdn,qdg];rfl,HB9.out⟩
theorem rrec_good4 (r:Rv) (L:List Ln) (T:List Tk) (M:List Ln) (W:World) (hP:RvM W r L T M) (hok:Rxok (r.x L T M)) (h1:r.ln≤1000∧r.tn≤1000∧r.wn≤1000) (hk:r.k=4):Calls Tryz.prog 47 #[.agg (rcs r)] W fun e w'=>e=.returned (.bool (z1b (r.x L T M)))∧Below W.heap.size W w':=by
 have HOK:=hid hok
 have HP:=hid hP
 have HH:=hid h1
 clear hok hP h1
 obtain⟨W1,hW1,hb1⟩:∃ W1,W.alloc (.cells (rcs r) 51)=W1∧Below W.heap.size W W1:=⟨_,rfl,(Below.refl _ _).alloc (Nat.le_refl _) _⟩
 obtain⟨B,hB⟩:∃ B,W.heap.size=B:=⟨_,rfl⟩
 have hrb:=RB.new W r
 rw [hW1,hB] at hrb
 obtain⟨Y,hY⟩:∃ Y,W1.heap.size=Y:=⟨_,rfl⟩
 have hBY:B<Y:=by have:=hrb.lt;omega
 obtain⟨w1,hw1,hx1,hb1a⟩:∃ w1,W1.alloc (.cells zr 51)=w1∧RB w1 Y rz∧Below W1.heap.size W1 w1:=⟨_,rfl,by rw [← hY];exact z0b W1 _,(Below.refl _ _).alloc (Nat.le_refl _) _⟩
 have hG1:Gz W w1 B Y r rz:=⟨hrb.later hb1a,hx1,hb1.trans (hb1a.mono hb1.size),by omega,hBY⟩
 obtain⟨w2,hw2,hG2⟩:∃ w2,w1.setRow Y (rcs (rm 4 0 0 0 false 0 0 0 0 0))=w2∧Gz W w2 B Y r (rm 4 0 0 0 false 0 0 0 0 0):=⟨_,rfl,hG1.set _⟩
 have HX1:=hid hrb
 have HW1:=hid hW1
 have HRE:=hid hB
 have HYE:=hid hY
 have HW1a:=hid hw1
 have HXZ:=hid hx1
 have HW2:=hid hw2
 have HG2:=hid hG2
 have c0:W1.cell? ⟨B,0,none⟩=some (.int .u8 r.k):=z0a hrb rfl
 rw [hk] at c0
 clear hW1 hB hY hBY hw1 hx1 hb1a hG1 hw2 hG2 hb1 hrb
 have HHK:=hid hk
 go_enter Tryz.func47,Tryz.ntmps47
 go_upto_region 1 with (fail)
 rw [HW1.out,HRE.out]
 go_upto_region 2 with ((try rw [HYE.out]);(try rw [HW1a.out]);(with_reducible refine z0n (rm 4 0 0 0 false 0 0 0 0 0) HXZ.out ?_ ?_ ?_);rfl;rfl;rw [HW2.out])
 clear c0 HX1 HW1 HRE HYE HW1a HXZ HW2
 have c0:=HG2.out.cx (j:=0) (v:=.int .u8 r.k) rfl
 have c1:=HG2.out.cx (j:=1) (v:=.int .u32 r.sg) rfl
 have c2:=HG2.out.cx (j:=2) (v:=.int .u32 r.tx) rfl
 have c3:=HG2.out.cx (j:=3) (v:=.int .u8 r.st) rfl
 have c4:=HG2.out.cx (j:=4) (v:=.bool r.cp) rfl
 have c8:=HG2.out.cx (j:=8) (v:=.int .i64 r.d) rfl
 have c9:=HG2.out.cx (j:=9) (v:=.int .u8 r.o) rfl
 rw [hk] at c0
 obtain⟨cy,cf⟩:=HG2.out.cy (j:=2) (v:=.int .u32 0) rfl
 go_upto_region 25 with (fail)
 clear cy cf
 have hq:=HG2.out.put 2 (.int .u32 r.tx) (rm 4 0 r.tx 0 false 0 0 0 0 0) rfl
 generalize w2.setCell ⟨Y,2,none⟩ (.int .u32 r.tx)=w3 at *
 have HG3:=hid hq
 clear hq HG2
 clear c0 c1 c2 c3 c4 c8 c9
 have c0:=HG3.out.cx (j:=0) (v:=.int .u8 r.k) rfl
 have c1:=HG3.out.cx (j:=1) (v:=.int .u32 r.sg) rfl
 have c2:=HG3.out.cx (j:=2) (v:=.int .u32 r.tx) rfl
 have c3:=HG3.out.cx (j:=3) (v:=.int .u8 r.st) rfl
 have c4:=HG3.out.cx (j:=4) (v:=.bool r.cp) rfl
 have c8:=HG3.out.cx (j:=8) (v:=.int .i64 r.d) rfl
 have c9:=HG3.out.cx (j:=9) (v:=.int .u8 r.o) rfl
 rw [hk] at c0
 have HA:Hid (z1b (r.x L T M)=((r.tx != 0) && decide (r.x L T M=(Rv.x (rm 4 0 r.tx 0 false 0 0 0 0 0) [] [] [])))):=hid (by
  have e:r.x L T M=⟨4,r.sg,r.tx,r.st,r.cp,(r.ka,r.kb,r.kc),r.d,r.o,r.pg L T M⟩:=by unfold Rv.x;rw [hk]
  rw [e,gk4 _ _ _ _ _ _ _ _ _ (Or.inl rfl)]
  rfl)
 obtain⟨z,hz⟩:∃ z,decide (r.x L T M=(Rv.x (rm 4 0 r.tx 0 false 0 0 0 0 0) [] [] []))=z:=⟨_,rfl⟩
 rw [hz] at HA
 have HSM:=hid (fun w (h:Gz W w B Y r (rm 4 0 r.tx 0 false 0 0 0 0 0))=>z2z r (rm 4 0 r.tx 0 false 0 0 0 0 0) L T M [] [] [] w (HP.out.later h.below) (z2e _ _ _ _ _ _ _ _ _ _ _) HH.out ⟨Nat.zero_le _,Nat.zero_le _,Nat.zero_le _⟩)
 rw [hz] at HSM
 clear hz hk
 have HGX:=HG3
 clear HG3
 cases qtx:(r.tx != 0)
 case false =>
  go_wp2_with (first | ((with_reducible refine z0d HGX.out.x ?_ ?_ ?_);rfl;rfl) | ((with_reducible refine z0d HGX.out.y ?_ ?_ ?_);rfl;rfl) | ((with_reducible refine z0e HGX.out.x ?_ ?_ ?_);rfl;rfl) | ((with_reducible refine z0f HGX.out.x ?_ ?_ ?_);rfl;rfl))
  go_ret
  exact⟨by rw [HA.out,qtx];rfl,HGX.out.below⟩
 go_wp2_with (first | ((with_reducible refine z0d HGX.out.x ?_ ?_ ?_);rfl;rfl) | ((with_reducible refine z0d HGX.out.y ?_ ?_ ?_);rfl;rfl) | ((with_reducible refine z0e HGX.out.x ?_ ?_ ?_);rfl;rfl) | ((with_reducible refine z0f HGX.out.x ?_ ?_ ?_);rfl;rfl))
 refine (HSM.out w3 HGX.out).mono ?_
 rintro e w4 ⟨rfl,hcb⟩
 have HB9:=hid (HGX.out.below.trans (hcb.mono HGX.out.below.size))
 clear hcb
 clear c0 c1 c2 c3 c4 c8 c9
 go_wp2_with fail
 go_ret
 exact⟨by rw [HA.out,qtx];rfl,HB9.out⟩
theorem rrec_good5 (r:Rv) (L:List Ln) (T:List Tk) (M:List Ln) (W:World) (hP:RvM W r L T M) (hok:Rxok (r.x L T M)) (h1:r.ln≤1000∧r.tn≤1000∧r.wn≤1000) (hk:r.k=5):Calls Tryz.prog 47 #[.agg (rcs r)] W fun e w'=>e=.returned (.bool (z1b (r.x L T M)))∧Below W.heap.size W w':=by
 have HOK:=hid hok
 have HP:=hid hP
 have HH:=hid h1
 clear hok hP h1
 obtain⟨W1,hW1,hb1⟩:∃ W1,W.alloc (.cells (rcs r) 51)=W1∧Below W.heap.size W W1:=⟨_,rfl,(Below.refl _ _).alloc (Nat.le_refl _) _⟩
 obtain⟨B,hB⟩:∃ B,W.heap.size=B:=⟨_,rfl⟩
 have hrb:=RB.new W r
 rw [hW1,hB] at hrb
 obtain⟨Y,hY⟩:∃ Y,W1.heap.size=Y:=⟨_,rfl⟩
 have hBY:B<Y:=by have:=hrb.lt;omega
 obtain⟨w1,hw1,hx1,hb1a⟩:∃ w1,W1.alloc (.cells zr 51)=w1∧RB w1 Y rz∧Below W1.heap.size W1 w1:=⟨_,rfl,by rw [← hY];exact z0b W1 _,(Below.refl _ _).alloc (Nat.le_refl _) _⟩
 have hG1:Gz W w1 B Y r rz:=⟨hrb.later hb1a,hx1,hb1.trans (hb1a.mono hb1.size),by omega,hBY⟩
 obtain⟨w2,hw2,hG2⟩:∃ w2,w1.setRow Y (rcs (rm 5 0 0 0 false 0 0 0 0 0))=w2∧Gz W w2 B Y r (rm 5 0 0 0 false 0 0 0 0 0):=⟨_,rfl,hG1.set _⟩
 have HX1:=hid hrb
 have HW1:=hid hW1
 have HRE:=hid hB
 have HYE:=hid hY
 have HW1a:=hid hw1
 have HXZ:=hid hx1
 have HW2:=hid hw2
 have HG2:=hid hG2
 have c0:W1.cell? ⟨B,0,none⟩=some (.int .u8 r.k):=z0a hrb rfl
 rw [hk] at c0
 clear hW1 hB hY hBY hw1 hx1 hb1a hG1 hw2 hG2 hb1 hrb
 have HHK:=hid hk
 go_enter Tryz.func47,Tryz.ntmps47
 go_upto_region 1 with (fail)
 rw [HW1.out,HRE.out]
 go_upto_region 2 with ((try rw [HYE.out]);(try rw [HW1a.out]);(with_reducible refine z0n (rm 5 0 0 0 false 0 0 0 0 0) HXZ.out ?_ ?_ ?_);rfl;rfl;rw [HW2.out])
 clear c0 HX1 HW1 HRE HYE HW1a HXZ HW2
 have c0:=HG2.out.cx (j:=0) (v:=.int .u8 r.k) rfl
 have c1:=HG2.out.cx (j:=1) (v:=.int .u32 r.sg) rfl
 have c2:=HG2.out.cx (j:=2) (v:=.int .u32 r.tx) rfl
 have c3:=HG2.out.cx (j:=3) (v:=.int .u8 r.st) rfl
 have c4:=HG2.out.cx (j:=4) (v:=.bool r.cp) rfl
 have c8:=HG2.out.cx (j:=8) (v:=.int .i64 r.d) rfl
 have c9:=HG2.out.cx (j:=9) (v:=.int .u8 r.o) rfl
 rw [hk] at c0
 obtain⟨cy,cf⟩:=HG2.out.cy (j:=2) (v:=.int .u32 0) rfl
 go_upto_region 25 with (fail)
 clear cy cf
 have hq:=HG2.out.put 2 (.int .u32 r.tx) (rm 5 0 r.tx 0 false 0 0 0 0 0) rfl
 generalize w2.setCell ⟨Y,2,none⟩ (.int .u32 r.tx)=w3 at *
 have HG3:=hid hq
 clear hq HG2
 clear c0 c1 c2 c3 c4 c8 c9
 have c0:=HG3.out.cx (j:=0) (v:=.int .u8 r.k) rfl
 have c1:=HG3.out.cx (j:=1) (v:=.int .u32 r.sg) rfl
 have c2:=HG3.out.cx (j:=2) (v:=.int .u32 r.tx) rfl
 have c3:=HG3.out.cx (j:=3) (v:=.int .u8 r.st) rfl
 have c4:=HG3.out.cx (j:=4) (v:=.bool r.cp) rfl
 have c8:=HG3.out.cx (j:=8) (v:=.int .i64 r.d) rfl
 have c9:=HG3.out.cx (j:=9) (v:=.int .u8 r.o) rfl
 rw [hk] at c0
 have HA:Hid (z1b (r.x L T M)=((r.tx != 0) && decide (r.x L T M=(Rv.x (rm 5 0 r.tx 0 false 0 0 0 0 0) [] [] [])))):=hid (by
  have e:r.x L T M=⟨5,r.sg,r.tx,r.st,r.cp,(r.ka,r.kb,r.kc),r.d,r.o,r.pg L T M⟩:=by unfold Rv.x;rw [hk]
  rw [e,gk4 _ _ _ _ _ _ _ _ _ (Or.inr (Or.inl rfl))]
  rfl)
 obtain⟨z,hz⟩:∃ z,decide (r.x L T M=(Rv.x (rm 5 0 r.tx 0 false 0 0 0 0 0) [] [] []))=z:=⟨_,rfl⟩
 rw [hz] at HA
 have HSM:=hid (fun w (h:Gz W w B Y r (rm 5 0 r.tx 0 false 0 0 0 0 0))=>z2z r (rm 5 0 r.tx 0 false 0 0 0 0 0) L T M [] [] [] w (HP.out.later h.below) (z2e _ _ _ _ _ _ _ _ _ _ _) HH.out ⟨Nat.zero_le _,Nat.zero_le _,Nat.zero_le _⟩)
 rw [hz] at HSM
 clear hz hk
 have HGX:=HG3
 clear HG3
 cases qtx:(r.tx != 0)
 case false =>
  go_wp2_with (first | ((with_reducible refine z0d HGX.out.x ?_ ?_ ?_);rfl;rfl) | ((with_reducible refine z0d HGX.out.y ?_ ?_ ?_);rfl;rfl) | ((with_reducible refine z0e HGX.out.x ?_ ?_ ?_);rfl;rfl) | ((with_reducible refine z0f HGX.out.x ?_ ?_ ?_);rfl;rfl))
  go_ret
  exact⟨by rw [HA.out,qtx];rfl,HGX.out.below⟩
 go_wp2_with (first | ((with_reducible refine z0d HGX.out.x ?_ ?_ ?_);rfl;rfl) | ((with_reducible refine z0d HGX.out.y ?_ ?_ ?_);rfl;rfl) | ((with_reducible refine z0e HGX.out.x ?_ ?_ ?_);rfl;rfl) | ((with_reducible refine z0f HGX.out.x ?_ ?_ ?_);rfl;rfl))
 refine (HSM.out w3 HGX.out).mono ?_
 rintro e w4 ⟨rfl,hcb⟩
 have HB9:=hid (HGX.out.below.trans (hcb.mono HGX.out.below.size))
 clear hcb
 clear c0 c1 c2 c3 c4 c8 c9
 go_wp2_with fail
 go_ret
 exact⟨by rw [HA.out,qtx];rfl,HB9.out⟩
theorem rrec_good6 (r:Rv) (L:List Ln) (T:List Tk) (M:List Ln) (W:World) (hP:RvM W r L T M) (hok:Rxok (r.x L T M)) (h1:r.ln≤1000∧r.tn≤1000∧r.wn≤1000) (hk:r.k=6):Calls Tryz.prog 47 #[.agg (rcs r)] W fun e w'=>e=.returned (.bool (z1b (r.x L T M)))∧Below W.heap.size W w':=by
 have HOK:=hid hok
 have HP:=hid hP
 have HH:=hid h1
 clear hok hP h1
 obtain⟨W1,hW1,hb1⟩:∃ W1,W.alloc (.cells (rcs r) 51)=W1∧Below W.heap.size W W1:=⟨_,rfl,(Below.refl _ _).alloc (Nat.le_refl _) _⟩
 obtain⟨B,hB⟩:∃ B,W.heap.size=B:=⟨_,rfl⟩
 have hrb:=RB.new W r
 rw [hW1,hB] at hrb
 obtain⟨Y,hY⟩:∃ Y,W1.heap.size=Y:=⟨_,rfl⟩
 have hBY:B<Y:=by have:=hrb.lt;omega
 obtain⟨w1,hw1,hx1,hb1a⟩:∃ w1,W1.alloc (.cells zr 51)=w1∧RB w1 Y rz∧Below W1.heap.size W1 w1:=⟨_,rfl,by rw [← hY];exact z0b W1 _,(Below.refl _ _).alloc (Nat.le_refl _) _⟩
 have hG1:Gz W w1 B Y r rz:=⟨hrb.later hb1a,hx1,hb1.trans (hb1a.mono hb1.size),by omega,hBY⟩
 obtain⟨w2,hw2,hG2⟩:∃ w2,w1.setRow Y (rcs (rm 6 0 0 0 false 0 0 0 0 0))=w2∧Gz W w2 B Y r (rm 6 0 0 0 false 0 0 0 0 0):=⟨_,rfl,hG1.set _⟩
 have HX1:=hid hrb
 have HW1:=hid hW1
 have HRE:=hid hB
 have HYE:=hid hY
 have HW1a:=hid hw1
 have HXZ:=hid hx1
 have HW2:=hid hw2
 have HG2:=hid hG2
 have c0:W1.cell? ⟨B,0,none⟩=some (.int .u8 r.k):=z0a hrb rfl
 rw [hk] at c0
 clear hW1 hB hY hBY hw1 hx1 hb1a hG1 hw2 hG2 hb1 hrb
 have HHK:=hid hk
 go_enter Tryz.func47,Tryz.ntmps47
 go_upto_region 1 with (fail)
 rw [HW1.out,HRE.out]
 go_upto_region 2 with ((try rw [HYE.out]);(try rw [HW1a.out]);(with_reducible refine z0n (rm 6 0 0 0 false 0 0 0 0 0) HXZ.out ?_ ?_ ?_);rfl;rfl;rw [HW2.out])
 clear c0 HX1 HW1 HRE HYE HW1a HXZ HW2
 have c0:=HG2.out.cx (j:=0) (v:=.int .u8 r.k) rfl
 have c1:=HG2.out.cx (j:=1) (v:=.int .u32 r.sg) rfl
 have c2:=HG2.out.cx (j:=2) (v:=.int .u32 r.tx) rfl
 have c3:=HG2.out.cx (j:=3) (v:=.int .u8 r.st) rfl
 have c4:=HG2.out.cx (j:=4) (v:=.bool r.cp) rfl
 have c8:=HG2.out.cx (j:=8) (v:=.int .i64 r.d) rfl
 have c9:=HG2.out.cx (j:=9) (v:=.int .u8 r.o) rfl
 rw [hk] at c0
 obtain⟨cy,cf⟩:=HG2.out.cy (j:=2) (v:=.int .u32 0) rfl
 go_upto_region 18 with (fail)
 clear cy cf
 have hq:=HG2.out.put 2 (.int .u32 r.tx) (rm 6 0 r.tx 0 false 0 0 0 0 0) rfl
 generalize w2.setCell ⟨Y,2,none⟩ (.int .u32 r.tx)=w3 at *
 have HG3:=hid hq
 clear hq HG2
 clear c0 c1 c2 c3 c4 c8 c9
 have c0:=HG3.out.cx (j:=0) (v:=.int .u8 r.k) rfl
 have c1:=HG3.out.cx (j:=1) (v:=.int .u32 r.sg) rfl
 have c2:=HG3.out.cx (j:=2) (v:=.int .u32 r.tx) rfl
 have c3:=HG3.out.cx (j:=3) (v:=.int .u8 r.st) rfl
 have c4:=HG3.out.cx (j:=4) (v:=.bool r.cp) rfl
 have c8:=HG3.out.cx (j:=8) (v:=.int .i64 r.d) rfl
 have c9:=HG3.out.cx (j:=9) (v:=.int .u8 r.o) rfl
 rw [hk] at c0
 obtain⟨w4,hgen,hq⟩:∃ w4,w3.setRow Y (rcs { (rm 6 0 r.tx 0 false 0 0 0 0 0) with ka:=r.ka,kb:=r.kb,kc:=r.kc })=w4∧Gz W w4 B Y r (rm 6 0 r.tx 0 false r.ka r.kb r.kc 0 0):=⟨_,rfl,HG3.out.set (rm 6 0 r.tx 0 false r.ka r.kb r.kc 0 0)⟩
 have HGEN:=hid hgen
 have HG4:=hid hq
 clear hgen hq
 go_upto_region 19 with (first | ((with_reducible refine z2g HG3.out.x ?_ ?_);rfl) | ((with_reducible refine z3h r.ka r.kb r.kc HG3.out.y ?_ ?_ ?_);rfl;rfl;rw [HGEN.out]))
 clear HGEN HG3
 clear c0 c1 c2 c3 c4 c8 c9
 have c0:=HG4.out.cx (j:=0) (v:=.int .u8 r.k) rfl
 have c1:=HG4.out.cx (j:=1) (v:=.int .u32 r.sg) rfl
 have c2:=HG4.out.cx (j:=2) (v:=.int .u32 r.tx) rfl
 have c3:=HG4.out.cx (j:=3) (v:=.int .u8 r.st) rfl
 have c4:=HG4.out.cx (j:=4) (v:=.bool r.cp) rfl
 have c8:=HG4.out.cx (j:=8) (v:=.int .i64 r.d) rfl
 have c9:=HG4.out.cx (j:=9) (v:=.int .u8 r.o) rfl
 rw [hk] at c0
 obtain⟨cy,cf⟩:=HG4.out.cy (j:=8) (v:=.int .i64 0) rfl
 go_upto_region 20 with (fail)
 clear cy cf
 have hq:=HG4.out.put 8 (.int .i64 r.d) (rm 6 0 r.tx 0 false r.ka r.kb r.kc r.d 0) rfl
 generalize w4.setCell ⟨Y,8,none⟩ (.int .i64 r.d)=w5 at *
 have HG5:=hid hq
 clear hq HG4
 clear c0 c1 c2 c3 c4 c8 c9
 have c0:=HG5.out.cx (j:=0) (v:=.int .u8 r.k) rfl
 have c1:=HG5.out.cx (j:=1) (v:=.int .u32 r.sg) rfl
 have c2:=HG5.out.cx (j:=2) (v:=.int .u32 r.tx) rfl
 have c3:=HG5.out.cx (j:=3) (v:=.int .u8 r.st) rfl
 have c4:=HG5.out.cx (j:=4) (v:=.bool r.cp) rfl
 have c8:=HG5.out.cx (j:=8) (v:=.int .i64 r.d) rfl
 have c9:=HG5.out.cx (j:=9) (v:=.int .u8 r.o) rfl
 rw [hk] at c0
 have HA:Hid (z1b (r.x L T M)=((r.tx != 0) && z4i 4 4 r.ka r.kb r.kc && (r.d != 0) && decide (-9223372036854775807≤r.d) && decide (r.x L T M=(Rv.x (rm 6 0 r.tx 0 false r.ka r.kb r.kc r.d 0) [] [] [])))):=hid (by
  have e:r.x L T M=⟨6,r.sg,r.tx,r.st,r.cp,(r.ka,r.kb,r.kc),r.d,r.o,r.pg L T M⟩:=by unfold Rv.x;rw [hk]
  rw [e,gk6 _ _ _ _ _ _ _ _ (show In64 r.d from HOK.out.d)]
  rfl)
 obtain⟨z,hz⟩:∃ z,decide (r.x L T M=(Rv.x (rm 6 0 r.tx 0 false r.ka r.kb r.kc r.d 0) [] [] []))=z:=⟨_,rfl⟩
 rw [hz] at HA
 have HSM:=hid (fun w (h:Gz W w B Y r (rm 6 0 r.tx 0 false r.ka r.kb r.kc r.d 0))=>z2z r (rm 6 0 r.tx 0 false r.ka r.kb r.kc r.d 0) L T M [] [] [] w (HP.out.later h.below) (z2e _ _ _ _ _ _ _ _ _ _ _) HH.out ⟨Nat.zero_le _,Nat.zero_le _,Nat.zero_le _⟩)
 rw [hz] at HSM
 clear hz hk
 have HGX:=HG5
 clear HG5
 cases qtx:(r.tx != 0)
 case false =>
  go_wp2_with (first | ((with_reducible refine z0d HGX.out.x ?_ ?_ ?_);rfl;rfl) | ((with_reducible refine z0d HGX.out.y ?_ ?_ ?_);rfl;rfl) | ((with_reducible refine z0e HGX.out.x ?_ ?_ ?_);rfl;rfl) | ((with_reducible refine z0f HGX.out.x ?_ ?_ ?_);rfl;rfl))
  go_ret
  exact⟨by rw [HA.out,qtx];rfl,HGX.out.below⟩
 go_wp2_with (first | ((with_reducible refine z0d HGX.out.x ?_ ?_ ?_);rfl;rfl) | ((with_reducible refine z0d HGX.out.y ?_ ?_ ?_);rfl;rfl) | ((with_reducible refine z0e HGX.out.x ?_ ?_ ?_);rfl;rfl) | ((with_reducible refine z0f HGX.out.x ?_ ?_ ?_);rfl;rfl))
 refine (refgood_any 4 4 r.ka r.kb r.kc HOK.out.key.2.1 HOK.out.key.2.2 w5).mono ?_
 rintro e w6 ⟨rfl,hgr⟩
 have hcb:=hgr.below
 clear hgr
 have HGX:=hid (HGX.out.later hcb)
 clear hcb
 clear c0 c1 c2 c3 c4 c8 c9
 have c0:=HGX.out.cx (j:=0) (v:=.int .u8 r.k) rfl
 have c1:=HGX.out.cx (j:=1) (v:=.int .u32 r.sg) rfl
 have c2:=HGX.out.cx (j:=2) (v:=.int .u32 r.tx) rfl
 have c3:=HGX.out.cx (j:=3) (v:=.int .u8 r.st) rfl
 have c4:=HGX.out.cx (j:=4) (v:=.bool r.cp) rfl
 have c8:=HGX.out.cx (j:=8) (v:=.int .i64 r.d) rfl
 have c9:=HGX.out.cx (j:=9) (v:=.int .u8 r.o) rfl
 rw [HHK.out] at c0
 cases qCK:z4i 4 4 r.ka r.kb r.kc
 case false =>
  go_wp2_with (first | ((with_reducible refine z0d HGX.out.x ?_ ?_ ?_);rfl;rfl) | ((with_reducible refine z0d HGX.out.y ?_ ?_ ?_);rfl;rfl) | ((with_reducible refine z0e HGX.out.x ?_ ?_ ?_);rfl;rfl) | ((with_reducible refine z0f HGX.out.x ?_ ?_ ?_);rfl;rfl))
  go_ret
  exact⟨by rw [HA.out,qtx,qCK];rfl,HGX.out.below⟩
 cases qdn:(r.d != 0)
 case false =>
  go_wp2_with (first | ((with_reducible refine z0d HGX.out.x ?_ ?_ ?_);rfl;rfl) | ((with_reducible refine z0d HGX.out.y ?_ ?_ ?_);rfl;rfl) | ((with_reducible refine z0e HGX.out.x ?_ ?_ ?_);rfl;rfl) | ((with_reducible refine z0f HGX.out.x ?_ ?_ ?_);rfl;rfl))
  go_ret
  exact⟨by rw [HA.out,qtx,qCK,qdn];rfl,HGX.out.below⟩
 cases qdg:decide (-9223372036854775807≤r.d)
 case false =>
  go_wp2_with (first | ((with_reducible refine z0d HGX.out.x ?_ ?_ ?_);rfl;rfl) | ((with_reducible refine z0d HGX.out.y ?_ ?_ ?_);rfl;rfl) | ((with_reducible refine z0e HGX.out.x ?_ ?_ ?_);rfl;rfl) | ((with_reducible refine z0f HGX.out.x ?_ ?_ ?_);rfl;rfl))
  go_ret
  exact⟨by rw [HA.out,qtx,qCK,qdn,qdg];rfl,HGX.out.below⟩
 go_wp2_with (first | ((with_reducible refine z0d HGX.out.x ?_ ?_ ?_);rfl;rfl) | ((with_reducible refine z0d HGX.out.y ?_ ?_ ?_);rfl;rfl) | ((with_reducible refine z0e HGX.out.x ?_ ?_ ?_);rfl;rfl) | ((with_reducible refine z0f HGX.out.x ?_ ?_ ?_);rfl;rfl))
 refine (HSM.out w6 HGX.out).mono ?_
 rintro e w7 ⟨rfl,hcb⟩
 have HB9:=hid (HGX.out.below.trans (hcb.mono HGX.out.below.size))
 clear hcb
 clear c0 c1 c2 c3 c4 c8 c9
 go_wp2_with fail
 go_ret
 exact⟨by rw [HA.out,qtx,qCK,qdn,qdg];rfl,HB9.out⟩
theorem rrec_good7 (r:Rv) (L:List Ln) (T:List Tk) (M:List Ln) (W:World) (hP:RvM W r L T M) (hok:Rxok (r.x L T M)) (h1:r.ln≤1000∧r.tn≤1000∧r.wn≤1000) (hk:r.k=7):Calls Tryz.prog 47 #[.agg (rcs r)] W fun e w'=>e=.returned (.bool (z1b (r.x L T M)))∧Below W.heap.size W w':=by
 have HOK:=hid hok
 have HP:=hid hP
 have HH:=hid h1
 clear hok hP h1
 obtain⟨W1,hW1,hb1⟩:∃ W1,W.alloc (.cells (rcs r) 51)=W1∧Below W.heap.size W W1:=⟨_,rfl,(Below.refl _ _).alloc (Nat.le_refl _) _⟩
 obtain⟨B,hB⟩:∃ B,W.heap.size=B:=⟨_,rfl⟩
 have hrb:=RB.new W r
 rw [hW1,hB] at hrb
 obtain⟨Y,hY⟩:∃ Y,W1.heap.size=Y:=⟨_,rfl⟩
 have hBY:B<Y:=by have:=hrb.lt;omega
 obtain⟨w1,hw1,hx1,hb1a⟩:∃ w1,W1.alloc (.cells zr 51)=w1∧RB w1 Y rz∧Below W1.heap.size W1 w1:=⟨_,rfl,by rw [← hY];exact z0b W1 _,(Below.refl _ _).alloc (Nat.le_refl _) _⟩
 have hG1:Gz W w1 B Y r rz:=⟨hrb.later hb1a,hx1,hb1.trans (hb1a.mono hb1.size),by omega,hBY⟩
 obtain⟨w2,hw2,hG2⟩:∃ w2,w1.setRow Y (rcs (rm 7 0 0 0 false 0 0 0 0 0))=w2∧Gz W w2 B Y r (rm 7 0 0 0 false 0 0 0 0 0):=⟨_,rfl,hG1.set _⟩
 have HX1:=hid hrb
 have HW1:=hid hW1
 have HRE:=hid hB
 have HYE:=hid hY
 have HW1a:=hid hw1
 have HXZ:=hid hx1
 have HW2:=hid hw2
 have HG2:=hid hG2
 have c0:W1.cell? ⟨B,0,none⟩=some (.int .u8 r.k):=z0a hrb rfl
 rw [hk] at c0
 clear hW1 hB hY hBY hw1 hx1 hb1a hG1 hw2 hG2 hb1 hrb
 have HHK:=hid hk
 go_enter Tryz.func47,Tryz.ntmps47
 go_upto_region 1 with (fail)
 rw [HW1.out,HRE.out]
 go_upto_region 2 with ((try rw [HYE.out]);(try rw [HW1a.out]);(with_reducible refine z0n (rm 7 0 0 0 false 0 0 0 0 0) HXZ.out ?_ ?_ ?_);rfl;rfl;rw [HW2.out])
 clear c0 HX1 HW1 HRE HYE HW1a HXZ HW2
 have c0:=HG2.out.cx (j:=0) (v:=.int .u8 r.k) rfl
 have c1:=HG2.out.cx (j:=1) (v:=.int .u32 r.sg) rfl
 have c2:=HG2.out.cx (j:=2) (v:=.int .u32 r.tx) rfl
 have c3:=HG2.out.cx (j:=3) (v:=.int .u8 r.st) rfl
 have c4:=HG2.out.cx (j:=4) (v:=.bool r.cp) rfl
 have c8:=HG2.out.cx (j:=8) (v:=.int .i64 r.d) rfl
 have c9:=HG2.out.cx (j:=9) (v:=.int .u8 r.o) rfl
 rw [hk] at c0
 obtain⟨cy,cf⟩:=HG2.out.cy (j:=2) (v:=.int .u32 0) rfl
 go_upto_region 25 with (fail)
 clear cy cf
 have hq:=HG2.out.put 2 (.int .u32 r.tx) (rm 7 0 r.tx 0 false 0 0 0 0 0) rfl
 generalize w2.setCell ⟨Y,2,none⟩ (.int .u32 r.tx)=w3 at *
 have HG3:=hid hq
 clear hq HG2
 clear c0 c1 c2 c3 c4 c8 c9
 have c0:=HG3.out.cx (j:=0) (v:=.int .u8 r.k) rfl
 have c1:=HG3.out.cx (j:=1) (v:=.int .u32 r.sg) rfl
 have c2:=HG3.out.cx (j:=2) (v:=.int .u32 r.tx) rfl
 have c3:=HG3.out.cx (j:=3) (v:=.int .u8 r.st) rfl
 have c4:=HG3.out.cx (j:=4) (v:=.bool r.cp) rfl
 have c8:=HG3.out.cx (j:=8) (v:=.int .i64 r.d) rfl
 have c9:=HG3.out.cx (j:=9) (v:=.int .u8 r.o) rfl
 rw [hk] at c0
 have HA:Hid (z1b (r.x L T M)=((r.tx != 0) && decide (r.x L T M=(Rv.x (rm 7 0 r.tx 0 false 0 0 0 0 0) [] [] [])))):=hid (by
  have e:r.x L T M=⟨7,r.sg,r.tx,r.st,r.cp,(r.ka,r.kb,r.kc),r.d,r.o,r.pg L T M⟩:=by unfold Rv.x;rw [hk]
  rw [e,gk4 _ _ _ _ _ _ _ _ _ (Or.inr (Or.inr rfl))]
  rfl)
 obtain⟨z,hz⟩:∃ z,decide (r.x L T M=(Rv.x (rm 7 0 r.tx 0 false 0 0 0 0 0) [] [] []))=z:=⟨_,rfl⟩
 rw [hz] at HA
 have HSM:=hid (fun w (h:Gz W w B Y r (rm 7 0 r.tx 0 false 0 0 0 0 0))=>z2z r (rm 7 0 r.tx 0 false 0 0 0 0 0) L T M [] [] [] w (HP.out.later h.below) (z2e _ _ _ _ _ _ _ _ _ _ _) HH.out ⟨Nat.zero_le _,Nat.zero_le _,Nat.zero_le _⟩)
 rw [hz] at HSM
 clear hz hk
 have HGX:=HG3
 clear HG3
 cases qtx:(r.tx != 0)
 case false =>
  go_wp2_with (first | ((with_reducible refine z0d HGX.out.x ?_ ?_ ?_);rfl;rfl) | ((with_reducible refine z0d HGX.out.y ?_ ?_ ?_);rfl;rfl) | ((with_reducible refine z0e HGX.out.x ?_ ?_ ?_);rfl;rfl) | ((with_reducible refine z0f HGX.out.x ?_ ?_ ?_);rfl;rfl))
  go_ret
  exact⟨by rw [HA.out,qtx];rfl,HGX.out.below⟩
 go_wp2_with (first | ((with_reducible refine z0d HGX.out.x ?_ ?_ ?_);rfl;rfl) | ((with_reducible refine z0d HGX.out.y ?_ ?_ ?_);rfl;rfl) | ((with_reducible refine z0e HGX.out.x ?_ ?_ ?_);rfl;rfl) | ((with_reducible refine z0f HGX.out.x ?_ ?_ ?_);rfl;rfl))
 refine (HSM.out w3 HGX.out).mono ?_
 rintro e w4 ⟨rfl,hcb⟩
 have HB9:=hid (HGX.out.below.trans (hcb.mono HGX.out.below.size))
 clear hcb
 clear c0 c1 c2 c3 c4 c8 c9
 go_wp2_with fail
 go_ret
 exact⟨by rw [HA.out,qtx];rfl,HB9.out⟩
theorem rrec_good8 (r:Rv) (L:List Ln) (T:List Tk) (M:List Ln) (W:World) (hP:RvM W r L T M) (hok:Rxok (r.x L T M)) (h1:r.ln≤1000∧r.tn≤1000∧r.wn≤1000) (hk:r.k=8):Calls Tryz.prog 47 #[.agg (rcs r)] W fun e w'=>e=.returned (.bool (z1b (r.x L T M)))∧Below W.heap.size W w':=by
 have HOK:=hid hok
 have HP:=hid hP
 have HH:=hid h1
 clear hok hP h1
 obtain⟨W1,hW1,hb1⟩:∃ W1,W.alloc (.cells (rcs r) 51)=W1∧Below W.heap.size W W1:=⟨_,rfl,(Below.refl _ _).alloc (Nat.le_refl _) _⟩
 obtain⟨B,hB⟩:∃ B,W.heap.size=B:=⟨_,rfl⟩
 have hrb:=RB.new W r
 rw [hW1,hB] at hrb
 obtain⟨Y,hY⟩:∃ Y,W1.heap.size=Y:=⟨_,rfl⟩
 have hBY:B<Y:=by have:=hrb.lt;omega
 obtain⟨w1,hw1,hx1,hb1a⟩:∃ w1,W1.alloc (.cells zr 51)=w1∧RB w1 Y rz∧Below W1.heap.size W1 w1:=⟨_,rfl,by rw [← hY];exact z0b W1 _,(Below.refl _ _).alloc (Nat.le_refl _) _⟩
 have hG1:Gz W w1 B Y r rz:=⟨hrb.later hb1a,hx1,hb1.trans (hb1a.mono hb1.size),by omega,hBY⟩
 obtain⟨w2,hw2,hG2⟩:∃ w2,w1.setRow Y (rcs (rm 8 0 0 0 false 0 0 0 0 0))=w2∧Gz W w2 B Y r (rm 8 0 0 0 false 0 0 0 0 0):=⟨_,rfl,hG1.set _⟩
 have HX1:=hid hrb
 have HW1:=hid hW1
 have HRE:=hid hB
 have HYE:=hid hY
 have HW1a:=hid hw1
 have HXZ:=hid hx1
 have HW2:=hid hw2
 have HG2:=hid hG2
 have c0:W1.cell? ⟨B,0,none⟩=some (.int .u8 r.k):=z0a hrb rfl
 rw [hk] at c0
 clear hW1 hB hY hBY hw1 hx1 hb1a hG1 hw2 hG2 hb1 hrb
 have HHK:=hid hk
 go_enter Tryz.func47,Tryz.ntmps47
 go_upto_region 1 with (fail)
 rw [HW1.out,HRE.out]
 go_upto_region 2 with ((try rw [HYE.out]);(try rw [HW1a.out]);(with_reducible refine z0n (rm 8 0 0 0 false 0 0 0 0 0) HXZ.out ?_ ?_ ?_);rfl;rfl;rw [HW2.out])
 clear c0 HX1 HW1 HRE HYE HW1a HXZ HW2
 have c0:=HG2.out.cx (j:=0) (v:=.int .u8 r.k) rfl
 have c1:=HG2.out.cx (j:=1) (v:=.int .u32 r.sg) rfl
 have c2:=HG2.out.cx (j:=2) (v:=.int .u32 r.tx) rfl
 have c3:=HG2.out.cx (j:=3) (v:=.int .u8 r.st) rfl
 have c4:=HG2.out.cx (j:=4) (v:=.bool r.cp) rfl
 have c8:=HG2.out.cx (j:=8) (v:=.int .i64 r.d) rfl
 have c9:=HG2.out.cx (j:=9) (v:=.int .u8 r.o) rfl
 rw [hk] at c0
 obtain⟨cy,cf⟩:=HG2.out.cy (j:=1) (v:=.int .u32 0) rfl
 go_upto_region 28 with (fail)
 clear cy cf
 have hq:=HG2.out.put 1 (.int .u32 r.sg) (rm 8 r.sg 0 0 false 0 0 0 0 0) rfl
 generalize w2.setCell ⟨Y,1,none⟩ (.int .u32 r.sg)=w3 at *
 have HG3:=hid hq
 clear hq HG2
 clear c0 c1 c2 c3 c4 c8 c9
 have c0:=HG3.out.cx (j:=0) (v:=.int .u8 r.k) rfl
 have c1:=HG3.out.cx (j:=1) (v:=.int .u32 r.sg) rfl
 have c2:=HG3.out.cx (j:=2) (v:=.int .u32 r.tx) rfl
 have c3:=HG3.out.cx (j:=3) (v:=.int .u8 r.st) rfl
 have c4:=HG3.out.cx (j:=4) (v:=.bool r.cp) rfl
 have c8:=HG3.out.cx (j:=8) (v:=.int .i64 r.d) rfl
 have c9:=HG3.out.cx (j:=9) (v:=.int .u8 r.o) rfl
 rw [hk] at c0
 have HA:Hid (z1b (r.x L T M)=((r.sg != 0) && decide (r.x L T M=(Rv.x (rm 8 r.sg 0 0 false 0 0 0 0 0) [] [] [])))):=hid (by
  have e:r.x L T M=⟨8,r.sg,r.tx,r.st,r.cp,(r.ka,r.kb,r.kc),r.d,r.o,r.pg L T M⟩:=by unfold Rv.x;rw [hk]
  rw [e,gk8 _ _ _ _ _ _ _ _]
  rfl)
 obtain⟨z,hz⟩:∃ z,decide (r.x L T M=(Rv.x (rm 8 r.sg 0 0 false 0 0 0 0 0) [] [] []))=z:=⟨_,rfl⟩
 rw [hz] at HA
 have HSM:=hid (fun w (h:Gz W w B Y r (rm 8 r.sg 0 0 false 0 0 0 0 0))=>z2z r (rm 8 r.sg 0 0 false 0 0 0 0 0) L T M [] [] [] w (HP.out.later h.below) (z2e _ _ _ _ _ _ _ _ _ _ _) HH.out ⟨Nat.zero_le _,Nat.zero_le _,Nat.zero_le _⟩)
 rw [hz] at HSM
 clear hz hk
 have HGX:=HG3
 clear HG3
 cases qsg:(r.sg != 0)
 case false =>
  go_wp2_with (first | ((with_reducible refine z0d HGX.out.x ?_ ?_ ?_);rfl;rfl) | ((with_reducible refine z0d HGX.out.y ?_ ?_ ?_);rfl;rfl) | ((with_reducible refine z0e HGX.out.x ?_ ?_ ?_);rfl;rfl) | ((with_reducible refine z0f HGX.out.x ?_ ?_ ?_);rfl;rfl))
  go_ret
  exact⟨by rw [HA.out,qsg];rfl,HGX.out.below⟩
 go_wp2_with (first | ((with_reducible refine z0d HGX.out.x ?_ ?_ ?_);rfl;rfl) | ((with_reducible refine z0d HGX.out.y ?_ ?_ ?_);rfl;rfl) | ((with_reducible refine z0e HGX.out.x ?_ ?_ ?_);rfl;rfl) | ((with_reducible refine z0f HGX.out.x ?_ ?_ ?_);rfl;rfl))
 refine (HSM.out w3 HGX.out).mono ?_
 rintro e w4 ⟨rfl,hcb⟩
 have HB9:=hid (HGX.out.below.trans (hcb.mono HGX.out.below.size))
 clear hcb
 clear c0 c1 c2 c3 c4 c8 c9
 go_wp2_with fail
 go_ret
 exact⟨by rw [HA.out,qsg];rfl,HB9.out⟩
theorem rrec_good9 (r:Rv) (L:List Ln) (T:List Tk) (M:List Ln) (W:World) (hP:RvM W r L T M) (hok:Rxok (r.x L T M)) (h1:r.ln≤1000∧r.tn≤1000∧r.wn≤1000) (hk:r.k=9):Calls Tryz.prog 47 #[.agg (rcs r)] W fun e w'=>e=.returned (.bool (z1b (r.x L T M)))∧Below W.heap.size W w':=by
 have HOK:=hid hok
 have HP:=hid hP
 have HH:=hid h1
 clear hok hP h1
 obtain⟨W1,hW1,hb1⟩:∃ W1,W.alloc (.cells (rcs r) 51)=W1∧Below W.heap.size W W1:=⟨_,rfl,(Below.refl _ _).alloc (Nat.le_refl _) _⟩
 obtain⟨B,hB⟩:∃ B,W.heap.size=B:=⟨_,rfl⟩
 have hrb:=RB.new W r
 rw [hW1,hB] at hrb
 obtain⟨Y,hY⟩:∃ Y,W1.heap.size=Y:=⟨_,rfl⟩
 have hBY:B<Y:=by have:=hrb.lt;omega
 obtain⟨w1,hw1,hx1,hb1a⟩:∃ w1,W1.alloc (.cells zr 51)=w1∧RB w1 Y rz∧Below W1.heap.size W1 w1:=⟨_,rfl,by rw [← hY];exact z0b W1 _,(Below.refl _ _).alloc (Nat.le_refl _) _⟩
 have hG1:Gz W w1 B Y r rz:=⟨hrb.later hb1a,hx1,hb1.trans (hb1a.mono hb1.size),by omega,hBY⟩
 obtain⟨w2,hw2,hG2⟩:∃ w2,w1.setRow Y (rcs (rm 9 0 0 0 false 0 0 0 0 0))=w2∧Gz W w2 B Y r (rm 9 0 0 0 false 0 0 0 0 0):=⟨_,rfl,hG1.set _⟩
 have HX1:=hid hrb
 have HW1:=hid hW1
 have HRE:=hid hB
 have HYE:=hid hY
 have HW1a:=hid hw1
 have HXZ:=hid hx1
 have HW2:=hid hw2
 have HG2:=hid hG2
 have c0:W1.cell? ⟨B,0,none⟩=some (.int .u8 r.k):=z0a hrb rfl
 rw [hk] at c0
 clear hW1 hB hY hBY hw1 hx1 hb1a hG1 hw2 hG2 hb1 hrb
 have HHK:=hid hk
 go_enter Tryz.func47,Tryz.ntmps47
 go_upto_region 1 with (fail)
 rw [HW1.out,HRE.out]
 go_upto_region 2 with ((try rw [HYE.out]);(try rw [HW1a.out]);(with_reducible refine z0n (rm 9 0 0 0 false 0 0 0 0 0) HXZ.out ?_ ?_ ?_);rfl;rfl;rw [HW2.out])
 clear c0 HX1 HW1 HRE HYE HW1a HXZ HW2
 have c0:=HG2.out.cx (j:=0) (v:=.int .u8 r.k) rfl
 have c1:=HG2.out.cx (j:=1) (v:=.int .u32 r.sg) rfl
 have c2:=HG2.out.cx (j:=2) (v:=.int .u32 r.tx) rfl
 have c3:=HG2.out.cx (j:=3) (v:=.int .u8 r.st) rfl
 have c4:=HG2.out.cx (j:=4) (v:=.bool r.cp) rfl
 have c8:=HG2.out.cx (j:=8) (v:=.int .i64 r.d) rfl
 have c9:=HG2.out.cx (j:=9) (v:=.int .u8 r.o) rfl
 rw [hk] at c0
 obtain⟨cy,cf⟩:=HG2.out.cy (j:=1) (v:=.int .u32 0) rfl
 go_upto_region 31 with (fail)
 clear cy cf
 have hq:=HG2.out.put 1 (.int .u32 r.sg) (rm 9 r.sg 0 0 false 0 0 0 0 0) rfl
 generalize w2.setCell ⟨Y,1,none⟩ (.int .u32 r.sg)=w3 at *
 have HG3:=hid hq
 clear hq HG2
 clear c0 c1 c2 c3 c4 c8 c9
 have c0:=HG3.out.cx (j:=0) (v:=.int .u8 r.k) rfl
 have c1:=HG3.out.cx (j:=1) (v:=.int .u32 r.sg) rfl
 have c2:=HG3.out.cx (j:=2) (v:=.int .u32 r.tx) rfl
 have c3:=HG3.out.cx (j:=3) (v:=.int .u8 r.st) rfl
 have c4:=HG3.out.cx (j:=4) (v:=.bool r.cp) rfl
 have c8:=HG3.out.cx (j:=8) (v:=.int .i64 r.d) rfl
 have c9:=HG3.out.cx (j:=9) (v:=.int .u8 r.o) rfl
 rw [hk] at c0
 obtain⟨cy,cf⟩:=HG3.out.cy (j:=9) (v:=.int .u8 0) rfl
 go_upto_region 32 with (fail)
 clear cy cf
 have hq:=HG3.out.put 9 (.int .u8 r.o) (rm 9 r.sg 0 0 false 0 0 0 0 r.o) rfl
 generalize w3.setCell ⟨Y,9,none⟩ (.int .u8 r.o)=w4 at *
 have HG4:=hid hq
 clear hq HG3
 clear c0 c1 c2 c3 c4 c8 c9
 have c0:=HG4.out.cx (j:=0) (v:=.int .u8 r.k) rfl
 have c1:=HG4.out.cx (j:=1) (v:=.int .u32 r.sg) rfl
 have c2:=HG4.out.cx (j:=2) (v:=.int .u32 r.tx) rfl
 have c3:=HG4.out.cx (j:=3) (v:=.int .u8 r.st) rfl
 have c4:=HG4.out.cx (j:=4) (v:=.bool r.cp) rfl
 have c8:=HG4.out.cx (j:=8) (v:=.int .i64 r.d) rfl
 have c9:=HG4.out.cx (j:=9) (v:=.int .u8 r.o) rfl
 rw [hk] at c0
 have HA:Hid (z1b (r.x L T M)=((r.sg != 0) && ((r.o==1) || (r.o==2)) && decide (r.x L T M=(Rv.x (rm 9 r.sg 0 0 false 0 0 0 0 r.o) [] [] [])))):=hid (by
  have e:r.x L T M=⟨9,r.sg,r.tx,r.st,r.cp,(r.ka,r.kb,r.kc),r.d,r.o,r.pg L T M⟩:=by unfold Rv.x;rw [hk]
  rw [e,gk9 _ _ _ _ _ _ _ _]
  rfl)
 obtain⟨z,hz⟩:∃ z,decide (r.x L T M=(Rv.x (rm 9 r.sg 0 0 false 0 0 0 0 r.o) [] [] []))=z:=⟨_,rfl⟩
 rw [hz] at HA
 have HSM:=hid (fun w (h:Gz W w B Y r (rm 9 r.sg 0 0 false 0 0 0 0 r.o))=>z2z r (rm 9 r.sg 0 0 false 0 0 0 0 r.o) L T M [] [] [] w (HP.out.later h.below) (z2e _ _ _ _ _ _ _ _ _ _ _) HH.out ⟨Nat.zero_le _,Nat.zero_le _,Nat.zero_le _⟩)
 rw [hz] at HSM
 clear hz hk
 have HGX:=HG4
 clear HG4
 cases qsg:(r.sg != 0)
 case false =>
  go_wp2_with (first | ((with_reducible refine z0d HGX.out.x ?_ ?_ ?_);rfl;rfl) | ((with_reducible refine z0d HGX.out.y ?_ ?_ ?_);rfl;rfl) | ((with_reducible refine z0e HGX.out.x ?_ ?_ ?_);rfl;rfl) | ((with_reducible refine z0f HGX.out.x ?_ ?_ ?_);rfl;rfl))
  go_ret
  exact⟨by rw [HA.out,qsg];rfl,HGX.out.below⟩
 cases qo1:(r.o==1)
 case false =>
  cases qo2:(r.o==2)
  case false =>
   go_wp2_with (first | ((with_reducible refine z0d HGX.out.x ?_ ?_ ?_);rfl;rfl) | ((with_reducible refine z0d HGX.out.y ?_ ?_ ?_);rfl;rfl) | ((with_reducible refine z0e HGX.out.x ?_ ?_ ?_);rfl;rfl) | ((with_reducible refine z0f HGX.out.x ?_ ?_ ?_);rfl;rfl))
   go_ret
   exact⟨by rw [HA.out,qsg,qo1,qo2];rfl,HGX.out.below⟩
  go_wp2_with (first | ((with_reducible refine z0d HGX.out.x ?_ ?_ ?_);rfl;rfl) | ((with_reducible refine z0d HGX.out.y ?_ ?_ ?_);rfl;rfl) | ((with_reducible refine z0e HGX.out.x ?_ ?_ ?_);rfl;rfl) | ((with_reducible refine z0f HGX.out.x ?_ ?_ ?_);rfl;rfl))
  refine (HSM.out w4 HGX.out).mono ?_
  rintro e w5 ⟨rfl,hcb⟩
  have HB9:=hid (HGX.out.below.trans (hcb.mono HGX.out.below.size))
  clear hcb
  clear c0 c1 c2 c3 c4 c8 c9
  go_wp2_with fail
  go_ret
  exact⟨by rw [HA.out,qsg,qo1,qo2];rfl,HB9.out⟩
 go_wp2_with (first | ((with_reducible refine z0d HGX.out.x ?_ ?_ ?_);rfl;rfl) | ((with_reducible refine z0d HGX.out.y ?_ ?_ ?_);rfl;rfl) | ((with_reducible refine z0e HGX.out.x ?_ ?_ ?_);rfl;rfl) | ((with_reducible refine z0f HGX.out.x ?_ ?_ ?_);rfl;rfl))
 refine (HSM.out w4 HGX.out).mono ?_
 rintro e w5 ⟨rfl,hcb⟩
 have HB9:=hid (HGX.out.below.trans (hcb.mono HGX.out.below.size))
 clear hcb
 clear c0 c1 c2 c3 c4 c8 c9
 go_wp2_with fail
 go_ret
 exact⟨by rw [HA.out,qsg,qo1];rfl,HB9.out⟩
theorem rrec_goodx (r:Rv) (L:List Ln) (T:List Tk) (M:List Ln) (W:World) (hP:RvM W r L T M) (hok:Rxok (r.x L T M)) (h1:r.ln≤1000∧r.tn≤1000∧r.wn≤1000) (hk:kOk r.k=false):Calls Tryz.prog 47 #[.agg (rcs r)] W fun e w'=>e=.returned (.bool (z1b (r.x L T M)))∧Below W.heap.size W w':=by
 have HOK:=hid hok
 have HA:Hid (z1b (r.x L T M)=false):=hid (by unfold z1b;rw [show kOk (r.x L T M).k=false from hk];rfl)
 obtain⟨n1,n2,n3,n4,n5,n6,n7,n8,n9⟩:=not_kOk hk
 have e1:(r.k==1)=false:=by simpa using n1
 have e2:(r.k==2)=false:=by simpa using n2
 have e3:(r.k==3)=false:=by simpa using n3
 have e4:(r.k==4)=false:=by simpa using n4
 have e5:(r.k==5)=false:=by simpa using n5
 have e6:(r.k==6)=false:=by simpa using n6
 have e7:(r.k==7)=false:=by simpa using n7
 have e8:(r.k==8)=false:=by simpa using n8
 have e9:(r.k==9)=false:=by simpa using n9
 clear hok hP h1 n1 n2 n3 n4 n5 n6 n7 n8 n9
 obtain⟨W1,hW1,hb1⟩:∃ W1,W.alloc (.cells (rcs r) 51)=W1∧Below W.heap.size W W1:=⟨_,rfl,(Below.refl _ _).alloc (Nat.le_refl _) _⟩
 obtain⟨B,hB⟩:∃ B,W.heap.size=B:=⟨_,rfl⟩
 have hrb:=RB.new W r
 rw [hW1,hB] at hrb
 obtain⟨Y,hY⟩:∃ Y,W1.heap.size=Y:=⟨_,rfl⟩
 have hBY:B<Y:=by have:=hrb.lt;omega
 obtain⟨w1,hw1,hx1,hb1a⟩:∃ w1,W1.alloc (.cells zr 51)=w1∧RB w1 Y rz∧Below W1.heap.size W1 w1:=⟨_,rfl,by rw [← hY];exact z0b W1 _,(Below.refl _ _).alloc (Nat.le_refl _) _⟩
 have hG1:Gz W w1 B Y r rz:=⟨hrb.later hb1a,hx1,hb1.trans (hb1a.mono hb1.size),by omega,hBY⟩
 obtain⟨w2,hw2,hG2⟩:∃ w2,w1.setRow Y (rcs (rm r.k 0 0 0 false 0 0 0 0 0))=w2∧Gz W w2 B Y r (rm r.k 0 0 0 false 0 0 0 0 0):=⟨_,rfl,hG1.set _⟩
 have HX1:=hid hrb
 have HW1:=hid hW1
 have HRE:=hid hB
 have HYE:=hid hY
 have HW1a:=hid hw1
 have HXZ:=hid hx1
 have HW2:=hid hw2
 have HG2:=hid hG2
 have c0:W1.cell? ⟨B,0,none⟩=some (.int .u8 r.k):=z0a hrb rfl
 clear hW1 hB hY hBY hw1 hx1 hb1a hG1 hw2 hG2 hb1 hrb
 have HHK:=hid hk
 go_enter Tryz.func47,Tryz.ntmps47
 go_upto_region 1 with (fail)
 rw [HW1.out,HRE.out]
 go_upto_region 2 with ((try rw [HYE.out]);(try rw [HW1a.out]);(with_reducible refine z0n (rm r.k 0 0 0 false 0 0 0 0 0) HXZ.out ?_ ?_ ?_);rfl;rfl;rw [HW2.out])
 clear c0 HX1 HW1 HRE HYE HW1a HXZ HW2
 have c0:=HG2.out.cx (j:=0) (v:=.int .u8 r.k) rfl
 clear hk
 go_wp2_with fail
 go_ret
 exact⟨by rw [HA.out];rfl,HG2.out.below⟩
theorem rrec_good (r:Rv) (L:List Ln) (T:List Tk) (M:List Ln) (W:World) (hP:RvM W r L T M) (hok:Rxok (r.x L T M)) (h1:r.ln≤1000∧r.tn≤1000∧r.wn≤1000):Calls Tryz.prog 47 #[.agg (rcs r)] W fun e w'=>e=.returned (.bool (z1b (r.x L T M)))∧Below W.heap.size W w':=by
 cases hk:kOk r.k with
 | true =>
  rcases z4b hk with h | h | h | h | h | h | h | h | h
  · exact rrec_good1 r L T M W hP hok h1 h
  · exact rrec_good2 r L T M W hP hok h1 h
  · exact rrec_good3 r L T M W hP hok h1 h
  · exact rrec_good4 r L T M W hP hok h1 h
  · exact rrec_good5 r L T M W hP hok h1 h
  · exact rrec_good6 r L T M W hP hok h1 h
  · exact rrec_good7 r L T M W hP hok h1 h
  · exact rrec_good8 r L T M W hP hok h1 h
  · exact rrec_good9 r L T M W hP hok h1 h
 | false=>exact rrec_goodx r L T M W hP hok h1 hk
end Go.Proofs.YtfdgnniicjdjdaaGreatDoor
