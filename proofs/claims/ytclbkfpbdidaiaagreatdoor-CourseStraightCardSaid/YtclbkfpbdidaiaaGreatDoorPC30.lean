import Derived.Test.YtclbkfpbdidaiaaGreatDoorPC20
import Derived.Deep.Cut
namespace Go.Proofs.YtclbkfpbdidaiaaGreatDoor
open Go.Lib (hid)
set_option maxHeartbeats 4000000
open Go.RowKit Go.ChangeShapes Go.WideShapes
set_option linter.unusedVariables false
set_option linter.unusedSimpArgs false
set_option maxRecDepth 10000
theorem z5j {w:World} {B:Nat} {cs:Array Value} {T:TypeId} (h:w.heap[B]?=some (.cells cs T (0,0))):w.frozen? ⟨B,0,none⟩=false∧w.frozen? ⟨B,1,none⟩=false∧w.frozen? ⟨B,2,none⟩=false∧w.frozen? ⟨B,3,none⟩=false∧w.frozen? ⟨B,4,none⟩=false∧w.frozen? ⟨B,5,none⟩=false∧w.frozen? ⟨B,6,none⟩=false∧w.frozen? ⟨B,7,none⟩=false :=
 ⟨z0o 0 h,z0o 1 h,z0o 2 h,z0o 3 h,z0o 4 h,z0o 5 h,z0o 6 h,z0o 7 h⟩
theorem z3q {w:World} {B:Nat} {a b c d e f g h a' b' c' d' e' f' g' h':Value} {T:TypeId} (h:w.heap[B]?=some (.cells #[a,b,c,d,e,f,g,h] T (0,0))) :
 ((((((((w.setCell ⟨B,0,none⟩ a').setCell ⟨B,1,none⟩ b').setCell ⟨B,2,none⟩ c').setCell ⟨B,3,none⟩ d').setCell ⟨B,4,none⟩ e').setCell ⟨B,5,none⟩ f').setCell ⟨B,6,none⟩ g').setCell ⟨B,7,none⟩ h').heap[B]?=some (.cells #[a',b',c',d',e',f',g',h'] T (0,0)) :=
 z0u 7 h' (z0u 6 g' (z0u 5 f' (z0u 4 e' (z0u 3 d' (z0u 2 c' (z0u 1 b' (z0u 0 a' h)))))))
theorem q1x {W w:World} {B:Nat} (h:Below W.heap.size W w) (hB:W.heap.size≤B) (a' b' c' d' e' f' g' h':Value):Below W.heap.size W ((((((((w.setCell ⟨B,0,none⟩ a').setCell ⟨B,1,none⟩ b').setCell ⟨B,2,none⟩ c').setCell ⟨B,3,none⟩ d').setCell ⟨B,4,none⟩ e').setCell ⟨B,5,none⟩ f').setCell ⟨B,6,none⟩ g').setCell ⟨B,7,none⟩ h') :=
 (((((((h.setCell hB _).setCell hB _).setCell hB _).setCell hB _).setCell hB _).setCell hB _).setCell hB _).setCell hB _
theorem z5z {fn:Func} {p u:Tmp} (h:fn.results=#[.cell p 46,.tmp u]) (tmps:Array Value) (W:World) (R:Nat) (cs:Array Value) (hs:cs.size=8) (v:Value) (hp:tmps.getD p undef=.pointer (some ⟨R,0,none⟩)) (hv:tmps.getD u undef=v)
 (hB:W.heap[R]?=some (.cells cs 46 (0,0))):(results fn tmps).run Tryz.prog W=.ok (.tuple #[.agg cs,v]) W:=by
 rw [results_cell_tmp h,hp,hv]
 simp [asAddr,Result.andThen,run_loadVar_row W R 46 46 cs (0,0) _ hB Tryz.underlying46 rfl (by rw [hs];kernel_rfl)]
theorem ttwo (W:World) (c0 c1:Array Value) (t0 t1:TypeId):Below W.heap.size W ((W.alloc (.cells c0 t0)).alloc (.cells c1 t1))∧((W.alloc (.cells c0 t0)).alloc (.cells c1 t1)).heap[W.heap.size]?=some (.cells c0 t0 (0,0))∧((W.alloc (.cells c0 t0)).alloc (.cells c1 t1)).heap[W.heap.size+1]?=some (.cells c1 t1 (0,0)):=by
 have h1:=z0c (W.alloc (.cells c0 t0)) (.cells c1 t1)
 have hs:(W.alloc (.cells c0 t0)).heap.size=W.heap.size+1:=by simp
 rw [hs] at h1
 have h0:=z0c W (.cells c0 t0)
 have hb:Below (W.alloc (.cells c0 t0)).heap.size (W.alloc (.cells c0 t0)) ((W.alloc (.cells c0 t0)).alloc (.cells c1 t1)):=(Below.refl _ _).alloc (Nat.le_refl _) _
 exact⟨((Below.refl _ _).alloc (Nat.le_refl _) _).alloc (by omega) _,z0b h0 hb,h1⟩
theorem results_cell_1 {fn:Func} {p:Tmp} {ty:TypeId} (h:fn.results=#[.cell p ty]) (tmps:Array Value) (P:Program) (w:World) :
 (results fn tmps).run P w=((asAddr (tmps.getD p undef)).run P w).andThen fun a w₁=>(loadVar ty a).run P w₁:=by
 simp only [results,h]
 simp [Sem.run_bind,Result.andThen]
theorem z3l {fn:Func} {p:Tmp} (h:fn.results=#[.cell p 46]) (tmps:Array Value) (W:World) (R:Nat) (cs:Array Value) (hs:cs.size=8) (hp:tmps.getD p undef=.pointer (some ⟨R,0,none⟩))
 (hB:W.heap[R]?=some (.cells cs 46 (0,0))):(results fn tmps).run Tryz.prog W=.ok (.agg cs) W:=by
 rw [results_cell_1 h,hp]
 simp [asAddr,Result.andThen,run_loadVar_row W R 46 46 cs (0,0) _ hB Tryz.underlying46 rfl (by rw [hs];kernel_rfl)]
theorem q2e (W:World) (c0 c1 c2:Array Value) (t0 t1 t2:TypeId) :
 Below W.heap.size W (((W.alloc (.cells c0 t0)).alloc (.cells c1 t1)).alloc (.cells c2 t2))∧(((W.alloc (.cells c0 t0)).alloc (.cells c1 t1)).alloc (.cells c2 t2)).heap[W.heap.size]?=some (.cells c0 t0 (0,0)) ∧
 (((W.alloc (.cells c0 t0)).alloc (.cells c1 t1)).alloc (.cells c2 t2)).heap[W.heap.size+1]?=some (.cells c1 t1 (0,0))∧(((W.alloc (.cells c0 t0)).alloc (.cells c1 t1)).alloc (.cells c2 t2)).heap[W.heap.size+2]?=some (.cells c2 t2 (0,0)):=by
 have s1:(W.alloc (.cells c0 t0)).heap.size=W.heap.size+1:=by simp
 have s2:((W.alloc (.cells c0 t0)).alloc (.cells c1 t1)).heap.size=W.heap.size+2:=by simp
 have h0:=z0c W (.cells c0 t0)
 have h1:=z0c (W.alloc (.cells c0 t0)) (.cells c1 t1)
 have h2:=z0c ((W.alloc (.cells c0 t0)).alloc (.cells c1 t1)) (.cells c2 t2)
 rw [s1] at h1
 rw [s2] at h2
 have b1:Below (W.alloc (.cells c0 t0)).heap.size (W.alloc (.cells c0 t0)) ((W.alloc (.cells c0 t0)).alloc (.cells c1 t1)):=(Below.refl _ _).alloc (Nat.le_refl _) _
 have b2:Below ((W.alloc (.cells c0 t0)).alloc (.cells c1 t1)).heap.size ((W.alloc (.cells c0 t0)).alloc (.cells c1 t1)) (((W.alloc (.cells c0 t0)).alloc (.cells c1 t1)).alloc (.cells c2 t2)):=(Below.refl _ _).alloc (Nat.le_refl _) _
 exact⟨(((Below.refl _ _).alloc (Nat.le_refl _) _).alloc (by omega) _).alloc (by omega) _,z0b (z0b h0 b1) b2,z0b h1 b2,h2⟩
theorem z7w {fn:Func} {p u:Tmp} (h:fn.results=#[.cell p 105,.tmp u]) (tmps:Array Value) (W:World) (R:Nat) (cs:Array Value) (hs:cs.size=4) (v:Value) (hp:tmps.getD p undef=.pointer (some ⟨R,0,none⟩)) (hv:tmps.getD u undef=v)
 (hB:W.heap[R]?=some (.cells cs 105 (0,0))):(results fn tmps).run Tryz.prog W=.ok (.tuple #[.agg cs,v]) W:=by
 rw [results_cell_tmp h,hp,hv]
 simp [asAddr,Result.andThen,run_loadVar_row W R 105 105 cs (0,0) _ hB Tryz.underlying105 rfl (by rw [hs];kernel_rfl)]
theorem z8l {w:World} {B:Nat} {a b c d:Value} {T:TypeId} (hb:w.heap[B]?=some (.cells #[a,b,c,d] T (0,0))):w.cell? ⟨B,0,none⟩=some a∧w.cell? ⟨B,1,none⟩=some b∧w.cell? ⟨B,2,none⟩=some c∧w.cell? ⟨B,3,none⟩=some d:=⟨z0a hb rfl,z0a hb rfl,z0a hb rfl,z0a hb rfl⟩
theorem ofree {w:World} {B:Nat} {cs:Array Value} {T:TypeId} (h:w.heap[B]?=some (.cells cs T (0,0))):w.frozen? ⟨B,0,none⟩=false∧w.frozen? ⟨B,1,none⟩=false∧w.frozen? ⟨B,2,none⟩=false∧w.frozen? ⟨B,3,none⟩=false:=⟨z0o 0 h,z0o 1 h,z0o 2 h,z0o 3 h⟩
theorem q1e {w:World} {B:Nat} {a b c d a' b' c' d':Value} {T:TypeId} (h:w.heap[B]?=some (.cells #[a,b,c,d] T (0,0))) :
 ((((w.setCell ⟨B,0,none⟩ a').setCell ⟨B,1,none⟩ b').setCell ⟨B,2,none⟩ c').setCell ⟨B,3,none⟩ d').heap[B]?=some (.cells #[a',b',c',d'] T (0,0)) :=
 z0u 3 d' (z0u 2 c' (z0u 1 b' (z0u 0 a' h)))
theorem q2u {W w:World} {B:Nat} (h:Below W.heap.size W w) (hB:W.heap.size≤B) (a' b' c' d':Value):Below W.heap.size W ((((w.setCell ⟨B,0,none⟩ a').setCell ⟨B,1,none⟩ b').setCell ⟨B,2,none⟩ c').setCell ⟨B,3,none⟩ d') :=
 (((h.setCell hB _).setCell hB _).setCell hB _).setCell hB _
theorem z5t {t:Tc} (h:t.dn.length=0):z2r t=(o0,false):=by
 unfold z2r
 rw [List.length_eq_zero_iff.1 h]
 rfl
theorem z8o {t:Tc} {q:Nat} (h:t.dn.length=q+1):z2r t=if (t.dn.getD q o0).2 < -9223372036854775807 then (o0,false) else (((t.dn.getD q o0).1,-(t.dn.getD q o0).2),true):=by
 unfold z2r
 have e:t.dn.getLast?=some (t.dn.getD q o0):=by
  rw [List.getLast?_eq_getElem?,h]
  simp [List.getD,List.getElem?_eq_getElem (show q<t.dn.length by omega)]
 rw [e]
theorem jlast_any (t:Tv) (W:World) (hM:TvM W t) (hx:∀ o∈t.c.dn,Ook o) (hn:t.n≤100000) :
 Calls Tryz.prog 72 #[.agg #[.int .u32 t.c.id,.int .u32 t.c.sg,.int .u8 t.c.st,.bool t.c.cp,.bool t.c.dd,.slice t.p t.n t.m,.int .i64 t.c.fs,.int .i64 t.c.sz]] W fun e w'=>e=.returned (.tuple #[.agg #[.int .u8 (z2r t.c).1.1.1,.int .u8 (z2r t.c).1.1.2.1,.int .u8 (z2r t.c).1.1.2.2,.int .i64 (z2r t.c).1.2],.bool (z2r t.c).2])∧Below W.heap.size W w':=by
 obtain⟨hb0,hx0,hr0⟩:=ttwo W #[.int .u32 t.c.id,.int .u32 t.c.sg,.int .u8 t.c.st,.bool t.c.cp,.bool t.c.dd,.slice t.p t.n t.m,.int .i64 t.c.fs,.int .i64 t.c.sz] #[.int .u8 0,.int .u8 0,.int .u8 0,.int .i64 0] 46 105
 have HM:Hid (OL _ t.p t.n t.m t.c.dn):=hid (hM.later hb0)
 have HB0:=hid hb0
 have HX:=hid hx0
 have HR:=hid hr0
 obtain⟨z,hz0⟩:∃ z,z2r t.c=z:=⟨_,rfl⟩
 rw [hz0]
 have HZ:=hid hz0
 have hlen:=hM.len
 have hcap:=hM.cap
 obtain⟨X,hX⟩:∃ X,W.heap.size=X:=⟨_,rfl⟩
 have HHX:=hid hX
 rw [hX] at HX HR
 by_cases h0:t.n=0
 · have hq:=h0
   have hz:((t.n:Int)==0)=true:=by simp [h0]
   have hl:=z5t (show t.c.dn.length=0 by rw [hlen,hq])
   have HL:=hid (hz0.symm.trans hl)
   have HQ:=hid hq
   clear hb0 hx0 hr0 hM hl hlen hcap hx HM hz0 h0
   clear hq
   go_enter Tryz.func72,Tryz.ntmps72
   go_upto_region 1 with (fail)
   clear hX
   generalize (W.alloc (.cells #[.int .u32 t.c.id,.int .u32 t.c.sg,.int .u8 t.c.st,.bool t.c.cp,.bool t.c.dd,.slice t.p t.n t.m,.int .i64 t.c.fs,.int .i64 t.c.sz] 46)).alloc (.cells #[.int .u8 0,.int .u8 0,.int .u8 0,.int .i64 0] 105)=V0 at *
   have HO:Hid (W.heap.size≤X+1):=hid (by rw [HHX.out];omega)
   generalize X+1=R at *
   have x5:=z0a (j:=5) HX.out rfl
   obtain⟨r0,r1,r2,r3⟩:=z8l HR.out
   obtain⟨f0,f1,f2,f3⟩:=ofree HR.out
   have HFS:=hid (q1e (a':=.int .u8 0) (b':=.int .u8 0) (c':=.int .u8 0) (d':=.int .i64 0) HR.out)
   have HGS:=hid (q2u HB0.out HO.out (.int .u8 0) (.int .u8 0) (.int .u8 0) (.int .i64 0))
   go_wp2_with fail
   refine bodyPost_ret (v:=.tuple #[.agg #[.int .u8 0,.int .u8 0,.int .u8 0,.int .i64 0],.bool false]) ?_ rfl ⟨by rw [HL.out] <;> rfl,HGS.out⟩
   exact z7w rfl _ _ R _ rfl _ rfl rfl HFS.out
 · obtain⟨q,hq⟩:∃ q,t.n=q+1:=⟨t.n-1,by omega⟩
   clear h0
   have hl:=z8o (show t.c.dn.length=q+1 by rw [hlen,hq])
   have HZL:=hid (hz0.symm.trans hl)
   clear hz0
   have hoq:=ok_at hx (show q<t.c.dn.length by rw [hlen,hq];omega)
   have hqn:q<t.n:=by omega
   have hw:IntKind.i64.wrap ((t.n:Int)-1)=(q:Int):=by
    rw [hq]
    unfold IntKind.wrap;simp [IntKind.signed,IntKind.bits];omega
   have hz:((t.n:Int)==0)=false:=by simp;omega
   have hqi:(q:Int)<t.n:=by omega
   have HQ:=hid hq
   clear hq hlen hl hb0 hx0 hr0 hM hx
   generalize t.p=tp at *
   generalize t.n=tn at *
   obtain⟨b,off,rfl,_,c0,c1,c2,c3⟩:=z9z HM.out hqn
   generalize t.c.dn.getD q o0=o at *
   obtain⟨k,dl⟩:=o
   have hng:¬ dl < -9223372036854775807→IntKind.i64.wrap (-dl) = -dl:=fun h=>by
    have h1:=hoq.2
    unfold In64 at h1
    simp only at h1
    unfold IntKind.wrap;simp [IntKind.signed,IntKind.bits];omega
   have HOQ:=hid hoq
   clear hoq hqn
   go_enter Tryz.func72,Tryz.ntmps72
   go_upto_region 1 with (fail)
   clear hX
   generalize (W.alloc (.cells #[.int .u32 t.c.id,.int .u32 t.c.sg,.int .u8 t.c.st,.bool t.c.cp,.bool t.c.dd,.slice (some ⟨b,off,none⟩) tn t.m,.int .i64 t.c.fs,.int .i64 t.c.sz] 46)).alloc (.cells #[.int .u8 0,.int .u8 0,.int .u8 0,.int .i64 0] 105)=V0 at *
   have HO:Hid (W.heap.size≤X+1):=hid (by rw [HHX.out];omega)
   generalize X+1=R at *
   have x5:=z0a (j:=5) HX.out rfl
   have hq1:(tn:Int)-1=(q:Int):=by have:=HQ.out;omega
   go_upto_region 4 with (fail)
   clear c0 c1 c2 c3 x5 hq1 hw
   have hb1:Below V0.heap.size V0 (V0.alloc (.cells #[.int .u8 k.1,.int .u8 k.2.1,.int .u8 k.2.2,.int .i64 dl] 105)):=(Below.refl _ _).alloc (Nat.le_refl _) _
   have HT:=hid (z0c V0 (.cells #[.int .u8 k.1,.int .u8 k.2.1,.int .u8 k.2.2,.int .i64 dl] 105))
   have HR1:=hid (z0b HR.out hb1)
   have HB1:=hid (HB0.out.trans (hb1.mono HB0.out.size))
   obtain⟨T,hT⟩:∃ T,V0.heap.size=T:=⟨_,rfl⟩
   rw [hT] at HT
   rw [hT]
   clear hb1 hT
   generalize V0.alloc (.cells #[.int .u8 k.1,.int .u8 k.2.1,.int .u8 k.2.2,.int .i64 dl] 105)=V1 at *
   obtain⟨t0,t1,t2,t3⟩:=z8l HT.out
   obtain⟨r0,r1,r2,r3⟩:=z8l HR1.out
   obtain⟨f0,f1,f2,f3⟩:=ofree HR1.out
   by_cases hlt:dl < -9223372036854775807
   · have HE:Hid (z=(o0,false)):=hid (HZL.out.trans (if_pos hlt))
     have hd:(dl == -9223372036854775808)=true:=by
      have h1:=HOQ.out.2
      unfold In64 at h1
      simp only at h1
      simp
      omega
     have HFS:=hid (q1e (a':=.int .u8 0) (b':=.int .u8 0) (c':=.int .u8 0) (d':=.int .i64 0) HR1.out)
     have HGS:=hid (q2u HB1.out HO.out (.int .u8 0) (.int .u8 0) (.int .u8 0) (.int .i64 0))
     clear hlt hng
     go_wp2_with fail
     refine bodyPost_ret (v:=.tuple #[.agg #[.int .u8 0,.int .u8 0,.int .u8 0,.int .i64 0],.bool false]) ?_ rfl ⟨by rw [HE.out] <;> rfl,HGS.out⟩
     exact z7w rfl _ _ R _ rfl _ rfl rfl HFS.out
   · have HE:Hid (z=((k,-dl),true)):=hid (HZL.out.trans (if_neg hlt))
     have hnn:=hng hlt
     have hd:(dl == -9223372036854775808)=false:=by
      simp
      omega
     have HFS:=hid (q1e (a':=.int .u8 k.1) (b':=.int .u8 k.2.1) (c':=.int .u8 k.2.2) (d':=.int .i64 (-dl)) HR1.out)
     have HGS:=hid (q2u HB1.out HO.out (.int .u8 k.1) (.int .u8 k.2.1) (.int .u8 k.2.2) (.int .i64 (-dl)))
     clear hlt hng
     go_wp2_with fail
     refine bodyPost_ret (v:=.tuple #[.agg #[.int .u8 k.1,.int .u8 k.2.1,.int .u8 k.2.2,.int .i64 (-dl)],.bool true]) ?_ rfl ⟨by rw [HE.out] <;> rfl,HGS.out⟩
     exact z7w rfl _ _ R _ rfl _ rfl rfl HFS.out
end Go.Proofs.YtclbkfpbdidaiaaGreatDoor
