import Derived.Test.YtnpjpelbcmgodaaGreatDoorPA16
import Derived.Deep.Cut
namespace Go.Proofs.YtnpjpelbcmgodaaGreatDoor
open Go.Lib (hid)
set_option maxHeartbeats 4000000
open Go.RowKit Go.ChangeShapes Go.WideShapes
set_option linter.unusedVariables false
set_option linter.unusedSimpArgs false
set_option maxRecDepth 10000
theorem z1y {w:World} {B:Nat} {cs:Array Value} {T:TypeId} (h:w.heap[B]?=some (.cells cs T (0,0))):w.frozen? ⟨B,0,none⟩=false∧w.frozen? ⟨B,1,none⟩=false∧w.frozen? ⟨B,2,none⟩=false∧w.frozen? ⟨B,3,none⟩=false∧w.frozen? ⟨B,4,none⟩=false∧w.frozen? ⟨B,5,none⟩=false∧w.frozen? ⟨B,6,none⟩=false∧w.frozen? ⟨B,7,none⟩=false :=
 ⟨z0m 0 h,z0m 1 h,z0m 2 h,z0m 3 h,z0m 4 h,z0m 5 h,z0m 6 h,z0m 7 h⟩
theorem z1d {w:World} {B:Nat} {a b c d e f g h a' b' c' d' e' f' g' h':Value} {T:TypeId} (h:w.heap[B]?=some (.cells #[a,b,c,d,e,f,g,h] T (0,0))) :
 ((((((((w.setCell ⟨B,0,none⟩ a').setCell ⟨B,1,none⟩ b').setCell ⟨B,2,none⟩ c').setCell ⟨B,3,none⟩ d').setCell ⟨B,4,none⟩ e').setCell ⟨B,5,none⟩ f').setCell ⟨B,6,none⟩ g').setCell ⟨B,7,none⟩ h').heap[B]?=some (.cells #[a',b',c',d',e',f',g',h'] T (0,0)) :=
 z0p 7 h' (z0p 6 g' (z0p 5 f' (z0p 4 e' (z0p 3 d' (z0p 2 c' (z0p 1 b' (z0p 0 a' h)))))))
theorem z8j {W w:World} {B:Nat} (h:Below W.heap.size W w) (hB:W.heap.size≤B) (a' b' c' d' e' f' g' h':Value):Below W.heap.size W ((((((((w.setCell ⟨B,0,none⟩ a').setCell ⟨B,1,none⟩ b').setCell ⟨B,2,none⟩ c').setCell ⟨B,3,none⟩ d').setCell ⟨B,4,none⟩ e').setCell ⟨B,5,none⟩ f').setCell ⟨B,6,none⟩ g').setCell ⟨B,7,none⟩ h') :=
 (((((((h.setCell hB _).setCell hB _).setCell hB _).setCell hB _).setCell hB _).setCell hB _).setCell hB _).setCell hB _
theorem z2z {fn:Func} {p u:Tmp} (h:fn.results=#[.cell p 58,.tmp u]) (tmps:Array Value) (W:World) (R:Nat) (cs:Array Value) (hs:cs.size=8) (v:Value) (hp:tmps.getD p undef=.pointer (some ⟨R,0,none⟩)) (hv:tmps.getD u undef=v)
 (hB:W.heap[R]?=some (.cells cs 58 (0,0))):(results fn tmps).run Tryz.prog W=.ok (.tuple #[.agg cs,v]) W:=by
 rw [results_cell_tmp h,hp,hv]
 simp [asAddr,Result.andThen,run_loadVar_row W R 58 58 cs (0,0) _ hB Tryz.underlying58 rfl (by rw [hs];kernel_rfl)]
theorem getT_drop {α:Type} (ix:α→Int) (L:List α) (d:α) (i:Int) (j:Nat) (h:j<L.length):getT ix (L.drop j) i=if ix (L.getD j d)=i then some (L.getD j d) else getT ix (L.drop (j+1)) i:=by
 have e:L.getD j d=L[j]:=by simp [List.getD,List.getElem?_eq_getElem h]
 rw [List.drop_eq_getElem_cons h,e]
 unfold getT
 rw [List.find?_cons]
 by_cases hx:ix L[j]=i
 · simp [hx]
 · simp [hx]
theorem z2t (p:Option Addr) (n c:Nat) (L:List Tv) (i:Int) (W:World) (hL:SlG tce 8 tv0 W p n c L) (hn:n≤100000) :
 Calls Tryz.prog 23 #[.slice p n c,.int .u32 i] W fun e w'=>e=.returned (.tuple #[.agg (tcs ((getT Tv.id L i).getD tv0)),.bool (getT Tv.id L i).isSome])∧Below W.heap.size W w':=by
 have HD:=hid fun j (hj:j<n)=>getT_drop Tv.id L tv0 i j (by rw [hL.len];exact hj)
 have HLen:=hid hL.len
 obtain⟨g,hg⟩:∃ g,getT Tv.id L i=g:=⟨_,rfl⟩
 rw [hg]
 have HGG:=hid hg
 have hcap:=hL.cap
 have hb0:Below W.heap.size W (W.alloc (.cells #[.int .u32 0,.int .u32 0,.int .u8 0,.bool false,.bool false,.slice none 0 0,.int .i64 0,.int .i64 0] 58)):=(Below.refl _ _).alloc (Nat.le_refl _) _
 have HW1:=hid hb0
 have HL:=hid (hL.later hb0)
 have HR:=hid (z0c W (.cells #[.int .u32 0,.int .u32 0,.int .u8 0,.bool false,.bool false,.slice none 0 0,.int .i64 0,.int .i64 0] 58))
 obtain⟨X,hX⟩:∃ X,W.heap.size=X:=⟨_,rfl⟩
 have HXR:Hid (W.heap.size≤X):=hid (by omega)
 rw [hX] at HR
 clear hb0 hL hg
 go_enter Tryz.func23,Tryz.ntmps23
 go_upto_region 1 with (fail)
 clear hX
 generalize W.alloc (.cells #[.int .u32 0,.int .u32 0,.int .u8 0,.bool false,.bool false,.slice none 0 0,.int .i64 0,.int .i64 0] 58)=W1 at *
 go_wp2_with fail
 go_loopw [6] (fun v wr=>∃ j:Nat,j≤n∧v=.int .i64 (j:Int)∧Hid (Below W1.heap.size W1 wr)∧Hid (g=getT Tv.id (L.drop j) i)) (fun v _=>n-(Go.RowKit.intOf v).toNat)
 case atStart=>exact⟨0,Nat.zero_le _,rfl,hid (Below.refl _ _),hid HGG.out.symm⟩
 case round =>
  obtain⟨j,hj,rfl,HB,HG⟩:=hrel
  have HRw:=hid (z0b HR.out HB.out)
  have HBW:=hid (HW1.out.trans (HB.out.mono HW1.out.size))
  obtain⟨r0,r1,r2,r3,r4,r5,r6,r7⟩:=z0g HRw.out
  obtain⟨f0,f1,f2,f3,f4,f5,f6,f7⟩:=z1y HRw.out
  by_cases hlt:j<n
  · have hlt':(j:Int)<n:=by omega
    obtain⟨b,off,rfl,_,c0,c1,c2,c3,c4,c5,c6,c7⟩:=z2i (HL.out.later HB.out) hlt
    have hd:=HD.out j hlt
    generalize L.getD j tv0=x at *
    by_cases hx:Tv.id x=i
    · rw [if_pos hx] at hd
      have hgx:=HG.out.trans hd
      have HGX:=hid hgx
      have hq:(x.c.id==i)=true:=by simpa [Tv.id] using hx
      have HX:=hid hx
      clear hd hx hgx
      have HFS:=hid (z1d (a':=.int .u32 x.c.id) (b':=.int .u32 x.c.sg) (c':=.int .u8 x.c.st) (d':=.bool x.c.cp) (e':=.bool x.c.dd) (f':=.slice x.p x.n x.m) (g':=.int .i64 x.c.fs) (h':=.int .i64 x.c.sz) HRw.out)
      have HGS:=hid (z8j HBW.out HXR.out (.int .u32 x.c.id) (.int .u32 x.c.sg) (.int .u8 x.c.st) (.bool x.c.cp) (.bool x.c.dd) (.slice x.p x.n x.m) (.int .i64 x.c.fs) (.int .i64 x.c.sz))
      go_wp2_with fail
      refine bodyPost_ret (v:=.tuple #[.agg #[.int .u32 x.c.id,.int .u32 x.c.sg,.int .u8 x.c.st,.bool x.c.cp,.bool x.c.dd,.slice x.p x.n x.m,.int .i64 x.c.fs,.int .i64 x.c.sz],.bool true]) ?_ rfl ⟨by rw [HGX.out];rfl,HGS.out⟩
      exact z2z rfl _ _ X _ rfl _ rfl rfl HFS.out
    · rw [if_neg hx] at hd
      have hq:(x.c.id==i)=false:=by simpa [Tv.id] using hx
      have HX:=hid hx
      have HGX:=hid (HG.out.trans hd)
      clear hd hx r0 r1 r2 r3 r4 r5 r6 r7 f0 f1 f2 f3 f4 f5 f6 f7
      go_wp2_with fail
      go_roundw
      case rel=>exact⟨j+1,by omega,by go_num,HB,HGX⟩
      case measure =>
       simp [Go.RowKit.intOf]
       omega
  · have t1:¬ (j:Int)<n:=by omega
    have hgx:g=none:=by rw [HG.out,List.drop_of_length_le (by rw [HLen.out];omega)];rfl
    have HGX:=hid hgx
    clear hgx
    have HFS:=hid (z1d (a':=.int .u32 0) (b':=.int .u32 0) (c':=.int .u8 0) (d':=.bool false) (e':=.bool false) (f':=.slice none 0 0) (g':=.int .i64 0) (h':=.int .i64 0) HRw.out)
    have HGS:=hid (z8j HBW.out HXR.out (.int .u32 0) (.int .u32 0) (.int .u8 0) (.bool false) (.bool false) (.slice none 0 0) (.int .i64 0) (.int .i64 0))
    go_wp2_with fail
    refine bodyPost_ret (v:=.tuple #[.agg #[.int .u32 0,.int .u32 0,.int .u8 0,.bool false,.bool false,.slice none 0 0,.int .i64 0,.int .i64 0],.bool false]) ?_ rfl ⟨by rw [HGX.out];rfl,HGS.out⟩
    exact z2z rfl _ _ X _ rfl _ rfl rfl HFS.out
theorem z5q (p:Option Addr) (n c:Nat) (L:List Tv) (i:Int) (W:World) (hL:SlG tce 8 tv0 W p n c L) (hn:n≤100000) :
 Calls Tryz.prog 24 #[.slice p n c,.int .u32 i] W fun e w'=>e=.returned (.tuple #[.agg (tcs ((getT Tv.sg L i).getD tv0)),.bool (getT Tv.sg L i).isSome])∧Below W.heap.size W w':=by
 have HD:=hid fun j (hj:j<n)=>getT_drop Tv.sg L tv0 i j (by rw [hL.len];exact hj)
 have HLen:=hid hL.len
 obtain⟨g,hg⟩:∃ g,getT Tv.sg L i=g:=⟨_,rfl⟩
 rw [hg]
 have HGG:=hid hg
 have hcap:=hL.cap
 have hb0:Below W.heap.size W (W.alloc (.cells #[.int .u32 0,.int .u32 0,.int .u8 0,.bool false,.bool false,.slice none 0 0,.int .i64 0,.int .i64 0] 58)):=(Below.refl _ _).alloc (Nat.le_refl _) _
 have HW1:=hid hb0
 have HL:=hid (hL.later hb0)
 have HR:=hid (z0c W (.cells #[.int .u32 0,.int .u32 0,.int .u8 0,.bool false,.bool false,.slice none 0 0,.int .i64 0,.int .i64 0] 58))
 obtain⟨X,hX⟩:∃ X,W.heap.size=X:=⟨_,rfl⟩
 have HXR:Hid (W.heap.size≤X):=hid (by omega)
 rw [hX] at HR
 clear hb0 hL hg
 go_enter Tryz.func24,Tryz.ntmps24
 go_upto_region 1 with (fail)
 clear hX
 generalize W.alloc (.cells #[.int .u32 0,.int .u32 0,.int .u8 0,.bool false,.bool false,.slice none 0 0,.int .i64 0,.int .i64 0] 58)=W1 at *
 go_wp2_with fail
 go_loopw [6] (fun v wr=>∃ j:Nat,j≤n∧v=.int .i64 (j:Int)∧Hid (Below W1.heap.size W1 wr)∧Hid (g=getT Tv.sg (L.drop j) i)) (fun v _=>n-(Go.RowKit.intOf v).toNat)
 case atStart=>exact⟨0,Nat.zero_le _,rfl,hid (Below.refl _ _),hid HGG.out.symm⟩
 case round =>
  obtain⟨j,hj,rfl,HB,HG⟩:=hrel
  have HRw:=hid (z0b HR.out HB.out)
  have HBW:=hid (HW1.out.trans (HB.out.mono HW1.out.size))
  obtain⟨r0,r1,r2,r3,r4,r5,r6,r7⟩:=z0g HRw.out
  obtain⟨f0,f1,f2,f3,f4,f5,f6,f7⟩:=z1y HRw.out
  by_cases hlt:j<n
  · have hlt':(j:Int)<n:=by omega
    obtain⟨b,off,rfl,_,c0,c1,c2,c3,c4,c5,c6,c7⟩:=z2i (HL.out.later HB.out) hlt
    have hd:=HD.out j hlt
    generalize L.getD j tv0=x at *
    by_cases hx:Tv.sg x=i
    · rw [if_pos hx] at hd
      have hgx:=HG.out.trans hd
      have HGX:=hid hgx
      have hq:(x.c.sg==i)=true:=by simpa [Tv.sg] using hx
      have HX:=hid hx
      clear hd hx hgx
      have HFS:=hid (z1d (a':=.int .u32 x.c.id) (b':=.int .u32 x.c.sg) (c':=.int .u8 x.c.st) (d':=.bool x.c.cp) (e':=.bool x.c.dd) (f':=.slice x.p x.n x.m) (g':=.int .i64 x.c.fs) (h':=.int .i64 x.c.sz) HRw.out)
      have HGS:=hid (z8j HBW.out HXR.out (.int .u32 x.c.id) (.int .u32 x.c.sg) (.int .u8 x.c.st) (.bool x.c.cp) (.bool x.c.dd) (.slice x.p x.n x.m) (.int .i64 x.c.fs) (.int .i64 x.c.sz))
      go_wp2_with fail
      refine bodyPost_ret (v:=.tuple #[.agg #[.int .u32 x.c.id,.int .u32 x.c.sg,.int .u8 x.c.st,.bool x.c.cp,.bool x.c.dd,.slice x.p x.n x.m,.int .i64 x.c.fs,.int .i64 x.c.sz],.bool true]) ?_ rfl ⟨by rw [HGX.out];rfl,HGS.out⟩
      exact z2z rfl _ _ X _ rfl _ rfl rfl HFS.out
    · rw [if_neg hx] at hd
      have hq:(x.c.sg==i)=false:=by simpa [Tv.sg] using hx
      have HX:=hid hx
      have HGX:=hid (HG.out.trans hd)
      clear hd hx r0 r1 r2 r3 r4 r5 r6 r7 f0 f1 f2 f3 f4 f5 f6 f7
      go_wp2_with fail
      go_roundw
      case rel=>exact⟨j+1,by omega,by go_num,HB,HGX⟩
      case measure =>
       simp [Go.RowKit.intOf]
       omega
  · have t1:¬ (j:Int)<n:=by omega
    have hgx:g=none:=by rw [HG.out,List.drop_of_length_le (by rw [HLen.out];omega)];rfl
    have HGX:=hid hgx
    clear hgx
    have HFS:=hid (z1d (a':=.int .u32 0) (b':=.int .u32 0) (c':=.int .u8 0) (d':=.bool false) (e':=.bool false) (f':=.slice none 0 0) (g':=.int .i64 0) (h':=.int .i64 0) HRw.out)
    have HGS:=hid (z8j HBW.out HXR.out (.int .u32 0) (.int .u32 0) (.int .u8 0) (.bool false) (.bool false) (.slice none 0 0) (.int .i64 0) (.int .i64 0))
    go_wp2_with fail
    refine bodyPost_ret (v:=.tuple #[.agg #[.int .u32 0,.int .u32 0,.int .u8 0,.bool false,.bool false,.slice none 0 0,.int .i64 0,.int .i64 0],.bool false]) ?_ rfl ⟨by rw [HGX.out];rfl,HGS.out⟩
    exact z2z rfl _ _ X _ rfl _ rfl rfl HFS.out
theorem firstC_fold (L:List Tv) (j:Nat) (h:j<L.length) (n0:Int):((L.take (j+1)).map (·.c)).foldl (fun n x=>if x.fs<n then x.fs else n) n0=(fun n=>if (L.getD j tv0).c.fs<n then (L.getD j tv0).c.fs else n) (((L.take j).map (·.c)).foldl (fun n x=>if x.fs<n then x.fs else n) n0):=by
 rw [List.take_add_one,List.map_append,List.foldl_append]
 simp [List.getD,List.getElem?_eq_getElem h]
theorem firstC_all (L:List Tv) (h:0<L.length):z5f (L.map (·.c))=((L.map (·.c)).foldl (fun n x=>if x.fs<n then x.fs else n) (L.getD 0 tv0).c.fs,true):=by
 cases L with
 | nil=>simp at h
 | cons x L=>simp [z5f]
theorem rtfirst_any (p:Option Addr) (n c:Nat) (L:List Tv) (W:World) (hL:SlG tce 8 tv0 W p n c L) (hn:n≤100000) :
 Calls Tryz.prog 35 #[.slice p n c] W fun e w'=>e=.returned (.tuple #[.int .i64 (z5f (L.map (·.c))).1,.bool (z5f (L.map (·.c))).2])∧Below W.heap.size W w':=by
 have hcap:=hL.cap
 by_cases h0:n=0
 · have hl:L=[]:=List.length_eq_zero_iff.1 (by rw [hL.len];exact h0)
   subst hl
   have HN:=hid h0
   have hq:((n:Int)==0)=true:=by simp [h0]
   subst h0
   clear hL
   go_enter Tryz.func35,Tryz.ntmps35
   go_wp2_with fail
   go_ret2
   exact⟨rfl,Below.refl _ _⟩
 · rw [firstC_all L (by rw [hL.len];omega)]
   have hq:((n:Int)==0)=false:=by simp;omega
   have HL:=hid hL
   obtain⟨st,hst⟩:∃ st:Nat→Int,∀ j,st j=((L.take j).map (·.c)).foldl (fun n x=>if x.fs<n then x.fs else n) (L.getD 0 tv0).c.fs:=⟨_,fun _=>rfl⟩
   have HS:=hid fun j (hj:j<n)=>(show st (j+1)=(if (L.getD j tv0).c.fs<st j then (L.getD j tv0).c.fs else st j) by rw [hst,hst];exact firstC_fold L j (by rw [hL.len];exact hj) _)
   have HS0:Hid (st 0=(L.getD 0 tv0).c.fs):=hid (by rw [hst];rfl)
   have HSN:Hid (st n=(L.map (·.c)).foldl (fun n x=>if x.fs<n then x.fs else n) (L.getD 0 tv0).c.fs):=hid (by rw [hst,List.take_of_length_le (by rw [hL.len];exact Nat.le_refl _)])
   rw [← HSN.out]
   obtain⟨b,off,rfl,_,c0,c1,c2,c3,c4,c5,c6,c7⟩:=z2i hL (show 0<n by omega)
   rw [Nat.zero_mul,Nat.add_zero] at c0 c1 c2 c3 c4 c5 c6 c7
   have hn0:(0:Int)<n:=by omega
   rw [← HS0.out] at c6
   have HN:=hid h0
   clear hst hL h0 c0 c1 c2 c3 c4 c5 c7
   go_enter Tryz.func35,Tryz.ntmps35
   go_wp2_with fail
   clear c6
   go_loopw [4,5] (fun v i wr=>∃ j:Nat,j≤n∧i=.int .i64 (j:Int)∧v=.int .i64 (st j)∧Hid (Below W.heap.size W wr)) (fun _ i _=>n-(Go.RowKit.intOf i).toNat)
   case atStart=>exact⟨0,Nat.zero_le _,rfl,rfl,hid (Below.refl _ _)⟩
   case round =>
    obtain⟨j,hj,rfl,rfl,HB⟩:=hrel
    by_cases hlt:j<n
    · have hlt':(j:Int)<n:=by omega
      have HLW:=hid (HL.out.later HB.out)
      obtain⟨b2,off2,hp,_,c0,c1,c2,c3,c4,c5,c6,c7⟩:=z2i HLW.out hlt
      cases hp
      have hsucc:=HS.out j hlt
      generalize L.getD j tv0=x at *
      clear c0 c1 c2 c3 c4 c5 c7
      by_cases hx:x.c.fs<st j
      · rw [if_pos hx] at hsucc
        have HSS:=hid hsucc
        clear hsucc
        go_wp2_with fail
        go_roundw
        case rel=>exact⟨j+1,by omega,by go_num,by rw [HSS.out],HB⟩
        case measure =>
         simp [Go.RowKit.intOf]
         omega
      · rw [if_neg hx] at hsucc
        have HSS:=hid hsucc
        clear hsucc
        go_wp2_with fail
        go_roundw
        case rel=>exact⟨j+1,by omega,by go_num,by rw [HSS.out],HB⟩
        case measure =>
         simp [Go.RowKit.intOf]
         omega
    · obtain rfl:j=n:=by omega
      go_wp2_with fail
      go_ret2
      exact⟨rfl,HB.out⟩
theorem ttwo (W:World) (c0 c1:Array Value) (t0 t1:TypeId):Below W.heap.size W ((W.alloc (.cells c0 t0)).alloc (.cells c1 t1))∧((W.alloc (.cells c0 t0)).alloc (.cells c1 t1)).heap[W.heap.size]?=some (.cells c0 t0 (0,0))∧((W.alloc (.cells c0 t0)).alloc (.cells c1 t1)).heap[W.heap.size+1]?=some (.cells c1 t1 (0,0)):=by
 have h1:=z0c (W.alloc (.cells c0 t0)) (.cells c1 t1)
 have hs:(W.alloc (.cells c0 t0)).heap.size=W.heap.size+1:=by simp
 rw [hs] at h1
 have h0:=z0c W (.cells c0 t0)
 have hb:Below (W.alloc (.cells c0 t0)).heap.size (W.alloc (.cells c0 t0)) ((W.alloc (.cells c0 t0)).alloc (.cells c1 t1)):=(Below.refl _ _).alloc (Nat.le_refl _) _
 exact⟨((Below.refl _ _).alloc (Nat.le_refl _) _).alloc (by omega) _,z0b h0 hb,h1⟩
theorem z7c (a b:Tv) (W:World) (ha:TvM W a) (hb:TvM W b) (hn:a.n≤100000) (hm:b.n≤100000) :
 Calls Tryz.prog 37 #[.agg #[.int .u32 a.c.id,.int .u32 a.c.sg,.int .u8 a.c.st,.bool a.c.cp,.bool a.c.dd,.slice a.p a.n a.m,.int .i64 a.c.fs,.int .i64 a.c.sz],.agg #[.int .u32 b.c.id,.int .u32 b.c.sg,.int .u8 b.c.st,.bool b.c.cp,.bool b.c.dd,.slice b.p b.n b.m,.int .i64 b.c.fs,.int .i64 b.c.sz]] W fun e w'=>e=.returned (.bool (decide (a.c=b.c)))∧Below W.heap.size W w':=by
 obtain⟨hb0,hx0,hy0⟩:=ttwo W #[.int .u32 a.c.id,.int .u32 a.c.sg,.int .u8 a.c.st,.bool a.c.cp,.bool a.c.dd,.slice a.p a.n a.m,.int .i64 a.c.fs,.int .i64 a.c.sz] #[.int .u32 b.c.id,.int .u32 b.c.sg,.int .u8 b.c.st,.bool b.c.cp,.bool b.c.dd,.slice b.p b.n b.m,.int .i64 b.c.fs,.int .i64 b.c.sz] 58 58
 have HS:=hid (rsame_o a.p b.p a.n b.n a.m b.m a.c.dn b.c.dn _ (ha.later hb0) (hb.later hb0) hn hm)
 have HB0:=hid hb0
 have HX:=hid hx0
 have HY:=hid hy0
 have HD:=hid fun (h:a.c=b.c)=>h
 obtain⟨X,hX⟩:∃ X,W.heap.size=X:=⟨_,rfl⟩
 have HHX:=hid hX
 rw [hX] at HX HY
 clear hb0 hx0 hy0 ha hb HD
 go_enter Tryz.func37,Tryz.ntmps37
 go_upto_region 1 with (fail)
 clear hX
 generalize (W.alloc (.cells #[.int .u32 a.c.id,.int .u32 a.c.sg,.int .u8 a.c.st,.bool a.c.cp,.bool a.c.dd,.slice a.p a.n a.m,.int .i64 a.c.fs,.int .i64 a.c.sz] 58)).alloc (.cells #[.int .u32 b.c.id,.int .u32 b.c.sg,.int .u8 b.c.st,.bool b.c.cp,.bool b.c.dd,.slice b.p b.n b.m,.int .i64 b.c.fs,.int .i64 b.c.sz] 58)=V0 at *
 generalize X+1=Y at *
 obtain⟨x0,x1,x2,x3,x4,x5,x6,x7⟩:=z5h HX.out
 obtain⟨y0,y1,y2,y3,y4,y5,y6,y7⟩:=z5h HY.out
 by_cases h0:a.c.id=b.c.id
 · have H0:=hid h0
   have q0:(a.c.id==b.c.id)=true:=by simpa using h0
   clear h0
   by_cases h1:a.c.sg=b.c.sg
   · have H1:=hid h1
     have q1:(a.c.sg==b.c.sg)=true:=by simpa using h1
     clear h1
     by_cases h2:a.c.st=b.c.st
     · have H2:=hid h2
       have q2:(a.c.st==b.c.st)=true:=by simpa using h2
       clear h2
       by_cases h3:a.c.cp=b.c.cp
       · have H3:=hid h3
         have q3:(a.c.cp==b.c.cp)=true:=by simpa using h3
         clear h3
         by_cases h4:a.c.dd=b.c.dd
         · have H4:=hid h4
           have q4:(a.c.dd==b.c.dd)=true:=by simpa using h4
           clear h4
           by_cases h5:a.c.dn=b.c.dn
           · have H5:=hid h5
             clear h5
             by_cases h6:a.c.fs=b.c.fs
             · have H6:=hid h6
               have q6:(a.c.fs==b.c.fs)=true:=by simpa using h6
               clear h6
               by_cases h7:a.c.sz=b.c.sz
               · have H7:=hid h7
                 have q7:(a.c.sz==b.c.sz)=true:=by simpa using h7
                 clear h7
                 have he:a.c=b.c:=by
                  obtain⟨⟨i1,i2,i3,i4,i5,i6,i7,i8⟩,_,_,_⟩:=a
                  obtain⟨⟨j1,j2,j3,j4,j5,j6,j7,j8⟩,_,_,_⟩:=b
                  have k0:=H0.out;have k1:=H1.out;have k2:=H2.out;have k3:=H3.out;have k4:=H4.out;have k5:=H5.out;have k6:=H6.out;have k7:=H7.out
                  simp only at k0 k1 k2 k3 k4 k5 k6 k7
                  subst k0 k1 k2 k3 k4 k5 k6 k7
                  rfl
                 have HE:=hid he
                 clear he
                 go_wp2_with fail
                 refine HS.out.mono ?_
                 rintro e1 w1 ⟨rfl,hb1⟩
                 have HB1:=hid (HB0.out.trans (hb1.mono HB0.out.size))
                 have HX1:=hid (z0b HX.out hb1)
                 have HY1:=hid (z0b HY.out hb1)
                 clear hb1 HS x0 x1 x2 x3 x4 x5 x6 x7 y0 y1 y2 y3 y4 y5 y6 y7
                 obtain⟨x0,x1,x2,x3,x4,x5,x6,x7⟩:=z5h HX1.out
                 obtain⟨y0,y1,y2,y3,y4,y5,y6,y7⟩:=z5h HY1.out
                 rw [decide_eq_true H5.out]
                 go_wp2_with fail
                 go_ret
                 exact⟨by rw [decide_eq_true HE.out];rfl,HB1.out⟩
               · have HN:Hid (a.c≠b.c):=hid fun e=>h7 (by rw [e])
                 have q7:(a.c.sz==b.c.sz)=false:=by simpa using h7
                 have HH:=hid h7
                 clear h7
                 go_wp2_with fail
                 refine HS.out.mono ?_
                 rintro e1 w1 ⟨rfl,hb1⟩
                 have HB1:=hid (HB0.out.trans (hb1.mono HB0.out.size))
                 have HX1:=hid (z0b HX.out hb1)
                 have HY1:=hid (z0b HY.out hb1)
                 clear hb1 HS x0 x1 x2 x3 x4 x5 x6 x7 y0 y1 y2 y3 y4 y5 y6 y7
                 obtain⟨x0,x1,x2,x3,x4,x5,x6,x7⟩:=z5h HX1.out
                 obtain⟨y0,y1,y2,y3,y4,y5,y6,y7⟩:=z5h HY1.out
                 rw [decide_eq_true H5.out]
                 go_wp2_with fail
                 go_ret
                 exact⟨by rw [decide_eq_false HN.out];rfl,HB1.out⟩
             · have HN:Hid (a.c≠b.c):=hid fun e=>h6 (by rw [e])
               have q6:(a.c.fs==b.c.fs)=false:=by simpa using h6
               have HH:=hid h6
               clear h6
               go_wp2_with fail
               refine HS.out.mono ?_
               rintro e1 w1 ⟨rfl,hb1⟩
               have HB1:=hid (HB0.out.trans (hb1.mono HB0.out.size))
               have HX1:=hid (z0b HX.out hb1)
               have HY1:=hid (z0b HY.out hb1)
               clear hb1 HS x0 x1 x2 x3 x4 x5 x6 x7 y0 y1 y2 y3 y4 y5 y6 y7
               obtain⟨x0,x1,x2,x3,x4,x5,x6,x7⟩:=z5h HX1.out
               obtain⟨y0,y1,y2,y3,y4,y5,y6,y7⟩:=z5h HY1.out
               rw [decide_eq_true H5.out]
               go_wp2_with fail
               go_ret
               exact⟨by rw [decide_eq_false HN.out];rfl,HB1.out⟩
           · have HN:Hid (a.c≠b.c):=hid fun e=>h5 (by rw [e])
             have HH:=hid h5
             clear h5
             go_wp2_with fail
             refine HS.out.mono ?_
             rintro e1 w1 ⟨rfl,hb1⟩
             have HB1:=hid (HB0.out.trans (hb1.mono HB0.out.size))
             have HX1:=hid (z0b HX.out hb1)
             have HY1:=hid (z0b HY.out hb1)
             clear hb1 HS x0 x1 x2 x3 x4 x5 x6 x7 y0 y1 y2 y3 y4 y5 y6 y7
             obtain⟨x0,x1,x2,x3,x4,x5,x6,x7⟩:=z5h HX1.out
             obtain⟨y0,y1,y2,y3,y4,y5,y6,y7⟩:=z5h HY1.out
             rw [decide_eq_false HH.out]
             go_wp2_with fail
             go_ret
             exact⟨by rw [decide_eq_false HN.out];rfl,HB1.out⟩
         · have HN:Hid (a.c≠b.c):=hid fun e=>h4 (by rw [e])
           have q4:(a.c.dd==b.c.dd)=false:=by simpa using h4
           have HH:=hid h4
           clear h4
           go_wp2_with fail
           go_ret
           exact⟨by rw [decide_eq_false HN.out];rfl,HB0.out⟩
       · have HN:Hid (a.c≠b.c):=hid fun e=>h3 (by rw [e])
         have q3:(a.c.cp==b.c.cp)=false:=by simpa using h3
         have HH:=hid h3
         clear h3
         go_wp2_with fail
         go_ret
         exact⟨by rw [decide_eq_false HN.out];rfl,HB0.out⟩
     · have HN:Hid (a.c≠b.c):=hid fun e=>h2 (by rw [e])
       have q2:(a.c.st==b.c.st)=false:=by simpa using h2
       have HH:=hid h2
       clear h2
       go_wp2_with fail
       go_ret
       exact⟨by rw [decide_eq_false HN.out];rfl,HB0.out⟩
   · have HN:Hid (a.c≠b.c):=hid fun e=>h1 (by rw [e])
     have q1:(a.c.sg==b.c.sg)=false:=by simpa using h1
     have HH:=hid h1
     clear h1
     go_wp2_with fail
     go_ret
     exact⟨by rw [decide_eq_false HN.out];rfl,HB0.out⟩
 · have HN:Hid (a.c≠b.c):=hid fun e=>h0 (by rw [e])
   have q0:(a.c.id==b.c.id)=false:=by simpa using h0
   have HH:=hid h0
   clear h0
   go_wp2_with fail
   go_ret
   exact⟨by rw [decide_eq_false HN.out];rfl,HB0.out⟩
theorem results_cell_1 {fn:Func} {p:Tmp} {ty:TypeId} (h:fn.results=#[.cell p ty]) (tmps:Array Value) (P:Program) (w:World) :
 (results fn tmps).run P w=((asAddr (tmps.getD p undef)).run P w).andThen fun a w₁=>(loadVar ty a).run P w₁:=by
 simp only [results,h]
 simp [Sem.run_bind,Result.andThen]
theorem z2n {fn:Func} {p:Tmp} (h:fn.results=#[.cell p 58]) (tmps:Array Value) (W:World) (R:Nat) (cs:Array Value) (hs:cs.size=8) (hp:tmps.getD p undef=.pointer (some ⟨R,0,none⟩))
 (hB:W.heap[R]?=some (.cells cs 58 (0,0))):(results fn tmps).run Tryz.prog W=.ok (.agg cs) W:=by
 rw [results_cell_1 h,hp]
 simp [asAddr,Result.andThen,run_loadVar_row W R 58 58 cs (0,0) _ hB Tryz.underlying58 rfl (by rw [hs];kernel_rfl)]
theorem z9v (W:World) (c0 c1 c2:Array Value) (t0 t1 t2:TypeId) :
 Below W.heap.size W (((W.alloc (.cells c0 t0)).alloc (.cells c1 t1)).alloc (.cells c2 t2))∧(((W.alloc (.cells c0 t0)).alloc (.cells c1 t1)).alloc (.cells c2 t2)).heap[W.heap.size]?=some (.cells c0 t0 (0,0)) ∧
 (((W.alloc (.cells c0 t0)).alloc (.cells c1 t1)).alloc (.cells c2 t2)).heap[W.heap.size+1]?=some (.cells c1 t1 (0,0))∧(((W.alloc (.cells c0 t0)).alloc (.cells c1 t1)).alloc (.cells c2 t2)).heap[W.heap.size+2]?=some (.cells c2 t2 (0,0)):=by
 have s1:(W.alloc (.cells c0 t0)).heap.size=W.heap.size+1:=by simp
 have s2:((W.alloc (.cells c0 t0)).alloc (.cells c1 t1)).heap.size=W.heap.size+2:=by simp
 have h0:=z0c W (.cells c0 t0)
 have h1:=z0c (W.alloc (.cells c0 t0)) (.cells c1 t1)
 have h2:=z0c ((W.alloc (.cells c0 t0)).alloc (.cells c1 t1)) (.cells c2 t2)
 rw [s1] at h1
 rw [s2] at h2
 have b1:Below (W.alloc (.cells c0 t0)).heap.size (W.alloc (.cells c0 t0)) ((W.alloc (.cells c0 t0)).alloc (.cells c1 t1)):=(Below.refl _ _).alloc (Nat.le_refl _) _
 have b2:Below ((W.alloc (.cells c0 t0)).alloc (.cells c1 t1)).heap.size ((W.alloc (.cells c0 t0)).alloc (.cells c1 t1)) (((W.alloc (.cells c0 t0)).alloc (.cells c1 t1)).alloc (.cells c2 t2)):=(Below.refl _ _).alloc (Nat.le_refl _) _
 exact⟨(((Below.refl _ _).alloc (Nat.le_refl _) _).alloc (by omega) _).alloc (by omega) _,z0b (z0b h0 b1) b2,z0b h1 b2,h2⟩
theorem fill_end {V0 w:World} {v:Value} {L:List O} {N:Nat} (h:z9s V0 w v L N):∃ r n d,v=.slice r n d∧Hid (SlG oc 4 o0 w r n d L)∧Hid (Below V0.heap.size V0 w)∧Hid (∀ a,r=some a→V0.heap.size≤a.block):=by
 obtain⟨r,d,he,hs,hb,hr⟩:=h.gives z5j (by decide)
 cases he
 exact⟨r,_,d,rfl,hid hs,hid hb,hid hr⟩
def GivesTv (W:World) (c:Tc) (e:Ending) (w':World):Prop:=∃ r n d,e=.returned (.agg (tcs ⟨c,r,n,d⟩))∧OL w' r n d c.dn∧Below W.heap.size W w'∧∀ a,r=some a→W.heap.size≤a.block
theorem made_stays {V0 w w':World} {X R:Nat} {r:Option Addr} {n d:Nat} {L:List O} (hs:SlG oc 4 o0 w r n d L) (hr:∀ a,r=some a→V0.heap.size≤a.block) (hx:X<V0.heap.size) (hR:R<V0.heap.size) (hc:Chg (fun k=>k=X∨k=R) w w'):SlG oc 4 o0 w' r n d L :=
 hs.turn hc.size fun _ a ha hlt=>hc.block a.block hlt fun e=>by
  have:=hr a ha
  rcases e with e | e <;> omega
theorem z4a (t:Tv) (o:O) (W:World) (hM:TvM W t) (hn:t.n≤10000) :
 Calls Tryz.prog 27 #[.agg #[.int .u32 t.c.id,.int .u32 t.c.sg,.int .u8 t.c.st,.bool t.c.cp,.bool t.c.dd,.slice t.p t.n t.m,.int .i64 t.c.fs,.int .i64 t.c.sz],.agg #[.int .u8 o.1.1,.int .u8 o.1.2.1,.int .u8 o.1.2.2,.int .i64 o.2]] W (GivesTv W { t.c with dn:=t.c.dn ++ [o] }):=by
 obtain⟨hb0,hx0,ho0,hr0⟩:=z9v W #[.int .u32 t.c.id,.int .u32 t.c.sg,.int .u8 t.c.st,.bool t.c.cp,.bool t.c.dd,.slice t.p t.n t.m,.int .i64 t.c.fs,.int .i64 t.c.sz] #[.int .u8 o.1.1,.int .u8 o.1.2.1,.int .u8 o.1.2.2,.int .i64 o.2] #[.int .u32 0,.int .u32 0,.int .u8 0,.bool false,.bool false,.slice none 0 0,.int .i64 0,.int .i64 0] 58 71 58
 have HM:=hid (hM.later hb0)
 have HLN:=hid hM.len
 have HB0:=hid hb0
 have HX:=hid hx0
 have HO:=hid ho0
 have HR:=hid hr0
 have HLT:Hid (W.heap.size≤W.heap.size):=hid (Nat.le_refl _)
 obtain⟨X,hX⟩:∃ X,W.heap.size=X:=⟨_,rfl⟩
 rw [hX] at HX HO HR
 have HWX:Hid (W.heap.size=X):=hid hX
 clear hb0 hx0 ho0 hr0 hM
 go_enter Tryz.func27,Tryz.ntmps27
 go_upto_region 1 with (fail)
 clear hX
 generalize ((W.alloc (.cells #[.int .u32 t.c.id,.int .u32 t.c.sg,.int .u8 t.c.st,.bool t.c.cp,.bool t.c.dd,.slice t.p t.n t.m,.int .i64 t.c.fs,.int .i64 t.c.sz] 58)).alloc (.cells #[.int .u8 o.1.1,.int .u8 o.1.2.1,.int .u8 o.1.2.2,.int .i64 o.2] 71)).alloc (.cells #[.int .u32 0,.int .u32 0,.int .u8 0,.bool false,.bool false,.slice none 0 0,.int .i64 0,.int .i64 0] 58)=V0 at *
 have HXL:=hid (z0k HX.out)
 have HRL:=hid (z0k HR.out)
 have HNE:Hid (X≠X+2∧X+1≠X+2∧X≠X+1):=hid ⟨by omega,by omega,by omega⟩
 have HRX:Hid (X≤X+2):=hid (by omega)
 generalize X+2=R at *
 generalize X+1=Y at *
 have x5:=z0a (j:=5) HX.out rfl
 have HF0:Hid (z9s V0 V0 (.slice none 0 0) [] 0):=hid (FillG.nil V0)
 go_upto_region 3 with (at_builtin;refine wpList_append_fill rfl _ _ rfl _ [] 0 rfl HF0.out t.p t.n t.m t.c.dn rfl HM.out (by omega) ?_;intro p2 n2 c2 w2 h2)
 rw [List.nil_append] at h2
 have HF2:=hid h2
 have HLE:Hid (t.c.dn.length≤10000):=hid (by rw [HLN.out];exact hn)
 clear h2 x5 HF0
 have y0:=z0a (j:=0) (z0b HO.out HF2.out.below) rfl
 have y1:=z0a (j:=1) (z0b HO.out HF2.out.below) rfl
 have y2:=z0a (j:=2) (z0b HO.out HF2.out.below) rfl
 have y3:=z0a (j:=3) (z0b HO.out HF2.out.below) rfl
 have hle:=HLE.out
 have hsz:=HF2.out.below.size
 go_upto_region 4 with (at_builtin;refine wpList_append_o rfl _ _ rfl V0.heap.size _ t.c.dn.length t.c.dn rfl (HF2.out.own.alloc _) (by omega) o w2.heap.size rfl (z9n w2 o) (by simp;omega) ?_;intro v3 w3 h3 h4)
 obtain⟨r,nn,d,rfl,HS,HB3,HRN⟩:=fill_end (HF2.out.step _ h3 h4)
 clear y0 y1 y2 y3 hle hsz h3 h4 HF2
 have HX3:=hid (z0b HX.out HB3.out)
 have HR3:=hid (z0b HR.out HB3.out)
 have f5:=z0m 5 HX3.out
 have z5:=z0a (j:=5) HX3.out rfl
 have hc5:Chg (fun k=>k=X∨k=R) w3 (w3.setCell ⟨X,5,none⟩ (.slice r nn d)):=(Chg.refl (fun k=>k=X∨k=R) w3).setCell ⟨X,5,none⟩ _ fun _=>.inl rfl
 have hx5:(w3.setCell ⟨X,5,none⟩ (.slice r nn d)).heap[X]?=some (.cells #[.int .u32 t.c.id,.int .u32 t.c.sg,.int .u8 t.c.st,.bool t.c.cp,.bool t.c.dd,.slice r nn d,.int .i64 t.c.fs,.int .i64 t.c.sz] 58 (0,0)):=z0p 5 _ HX3.out
 have hr5:(w3.setCell ⟨X,5,none⟩ (.slice r nn d)).heap[R]?=some (.cells #[.int .u32 0,.int .u32 0,.int .u8 0,.bool false,.bool false,.slice none 0 0,.int .i64 0,.int .i64 0] 58 (0,0)):=(((Chg.refl (fun k=>k=X) w3).setCell ⟨X,5,none⟩ _ fun _=>rfl).block R (z0k HR3.out) (fun e=>HNE.out.1 e.symm)).trans HR3.out
 have HC5:=hid hc5
 have HX5:=hid hx5
 have HR5:=hid hr5
 clear hc5 hx5 hr5
 go_upto_region 5 with (fail)
 clear f5 z5
 generalize w3.setCell ⟨X,5,none⟩ (.slice r nn d)=W5 at *
 obtain⟨x0,x1,x2,x3,x4,x5,x6,x7⟩:=z0g HX5.out
 obtain⟨r0,r1,r2,r3,r4,r5,r6,r7⟩:=z0g HR5.out
 obtain⟨f0,f1,f2,f3,f4,f5,f6,f7⟩:=z1y HR5.out
 have HFS:=hid (z1d (a':=.int .u32 t.c.id) (b':=.int .u32 t.c.sg) (c':=.int .u8 t.c.st) (d':=.bool t.c.cp) (e':=.bool t.c.dd) (f':=.slice r nn d) (g':=.int .i64 t.c.fs) (h':=.int .i64 t.c.sz) HR5.out)
 have hc6:Chg (fun k=>k=X∨k=R) W5 ((((((((W5.setCell ⟨R,0,none⟩ (.int .u32 t.c.id)).setCell ⟨R,1,none⟩ (.int .u32 t.c.sg)).setCell ⟨R,2,none⟩ (.int .u8 t.c.st)).setCell ⟨R,3,none⟩ (.bool t.c.cp)).setCell ⟨R,4,none⟩ (.bool t.c.dd)).setCell ⟨R,5,none⟩ (.slice r nn d)).setCell ⟨R,6,none⟩ (.int .i64 t.c.fs)).setCell ⟨R,7,none⟩ (.int .i64 t.c.sz)):=(((((((((Chg.refl (fun k=>k=X∨k=R) W5).setCell ⟨R,0,none⟩ _ fun _=>.inr rfl).setCell ⟨R,1,none⟩ _ fun _=>.inr rfl).setCell ⟨R,2,none⟩ _ fun _=>.inr rfl).setCell ⟨R,3,none⟩ _ fun _=>.inr rfl).setCell ⟨R,4,none⟩ _ fun _=>.inr rfl).setCell ⟨R,5,none⟩ _ fun _=>.inr rfl).setCell ⟨R,6,none⟩ _ fun _=>.inr rfl).setCell ⟨R,7,none⟩ _ fun _=>.inr rfl)
 have HALL:=hid (HC5.out.trans hc6 (fun _ _ h=>h))
 have HBW:Hid (Below W.heap.size W ((((((((W5.setCell ⟨R,0,none⟩ (.int .u32 t.c.id)).setCell ⟨R,1,none⟩ (.int .u32 t.c.sg)).setCell ⟨R,2,none⟩ (.int .u8 t.c.st)).setCell ⟨R,3,none⟩ (.bool t.c.cp)).setCell ⟨R,4,none⟩ (.bool t.c.dd)).setCell ⟨R,5,none⟩ (.slice r nn d)).setCell ⟨R,6,none⟩ (.int .i64 t.c.fs)).setCell ⟨R,7,none⟩ (.int .i64 t.c.sz))):=hid (HALL.out.below (HB0.out.trans (HB3.out.mono HB0.out.size)) (Nat.le_trans HB0.out.size HB3.out.size) (fun k hk=>by have h1:=HWX.out;have h2:=HNE.out;have h3:=HRX.out;rcases hk with rfl | rfl <;> omega))
 clear hc6
 go_wp2_with fail
 refine bodyPost_ret (v:=.agg #[.int .u32 t.c.id,.int .u32 t.c.sg,.int .u8 t.c.st,.bool t.c.cp,.bool t.c.dd,.slice r nn d,.int .i64 t.c.fs,.int .i64 t.c.sz]) ?_ rfl ⟨r,nn,d,rfl,made_stays HS.out HRN.out HXL.out HRL.out HALL.out,HBW.out,fun a ha=>Nat.le_trans HB0.out.size (HRN.out a ha)⟩
 exact z2n rfl _ _ R _ rfl rfl HFS.out
theorem z2j (t:Tv) (W:World) (hM:TvM W t) (hn:t.n≤10000) :
 Calls Tryz.prog 28 #[.agg #[.int .u32 t.c.id,.int .u32 t.c.sg,.int .u8 t.c.st,.bool t.c.cp,.bool t.c.dd,.slice t.p t.n t.m,.int .i64 t.c.fs,.int .i64 t.c.sz]] W (GivesTv W { t.c with dn:=t.c.dn.dropLast,dd:=true }):=by
 obtain⟨hb0,hx0,hr0⟩:=ttwo W #[.int .u32 t.c.id,.int .u32 t.c.sg,.int .u8 t.c.st,.bool t.c.cp,.bool t.c.dd,.slice t.p t.n t.m,.int .i64 t.c.fs,.int .i64 t.c.sz] #[.int .u32 0,.int .u32 0,.int .u8 0,.bool false,.bool false,.slice none 0 0,.int .i64 0,.int .i64 0] 58 58
 have HM:Hid (OL _ t.p t.n t.m t.c.dn):=hid (hM.later hb0)
 have HLN:=hid hM.len
 have HB0:=hid hb0
 have HX:=hid hx0
 have HR:=hid hr0
 obtain⟨X,hX⟩:∃ X,W.heap.size=X:=⟨_,rfl⟩
 rw [hX] at HX HR
 have HWX:Hid (W.heap.size=X):=hid hX
 have HST:=hid fun j (hj:j<t.n)=>(show t.c.dn.take (j+1)=t.c.dn.take j ++ [t.c.dn.getD j o0] by rw [List.take_add_one,List.getElem?_eq_getElem (by rw [hM.len];exact hj)];simp [List.getD,List.getElem?_eq_getElem (show j<t.c.dn.length by rw [hM.len];exact hj)])
 have HDL:Hid (t.c.dn.take (t.n-1)=t.c.dn.dropLast):=hid (by rw [List.dropLast_eq_take,hM.len])
 have hcap:=hM.cap
 have hw:IntKind.i64.wrap ((t.n:Int)-1)=(t.n:Int)-1:=by
  unfold IntKind.wrap;simp [IntKind.signed,IntKind.bits];omega
 clear hb0 hx0 hr0 hM
 generalize t.p=tp at *
 go_enter Tryz.func28,Tryz.ntmps28
 go_upto_region 1 with (fail)
 clear hX
 generalize (W.alloc (.cells #[.int .u32 t.c.id,.int .u32 t.c.sg,.int .u8 t.c.st,.bool t.c.cp,.bool t.c.dd,.slice tp t.n t.m,.int .i64 t.c.fs,.int .i64 t.c.sz] 58)).alloc (.cells #[.int .u32 0,.int .u32 0,.int .u8 0,.bool false,.bool false,.slice none 0 0,.int .i64 0,.int .i64 0] 58)=V0 at *
 have HXL:=hid (z0k HX.out)
 have HRL:=hid (z0k HR.out)
 have HNE:Hid (X≠X+1):=hid (by omega)
 have HRX:Hid (X≤X+1):=hid (by omega)
 generalize X+1=R at *
 go_wp2_with fail
 go_loopw [3,4] (fun v i wr=>∃ j:Nat,j≤t.n-1∧i=.int .i64 (j:Int)∧Hid (z9s V0 wr v (t.c.dn.take j) j)) (fun _ i _=>t.n-(Go.RowKit.intOf i).toNat)
 case atStart=>exact⟨0,Nat.zero_le _,rfl,hid (FillG.nil V0)⟩
 case round =>
  obtain⟨j,hj,rfl,HF⟩:=hrel
  have x5:=z0a (j:=5) (z0b HX.out HF.out.below) rfl
  by_cases hlt:(j:Int)<(t.n:Int)-1
  · have hjn:(j:Int)<t.n:=by omega
    obtain⟨b,off,rfl,_,c0,c1,c2,c3⟩:=z6m (HM.out.later HF.out.below) (show j<t.n by omega)
    have hst:=HST.out j (by omega)
    generalize t.c.dn.getD j o0=o at *
    have hsz:=HF.out.below.size
    have hmost:=HF.out.most
    have HSS:=hid hst
    clear hst
    go_wp2_with (at_builtin;refine wpList_append_o rfl _ _ rfl V0.heap.size _ (t.c.dn.take j).length (t.c.dn.take j) rfl (HF.out.own.alloc _) (by omega) o wr.heap.size rfl (z9n wr o) (by simp;omega) ?_;intro v2 w2 h1 h2)
    have HF2:=hid (HF.out.step _ h1 h2)
    clear h1 h2 hsz hmost c0 c1 c2 c3 x5 HF
    go_wp2_with fail
    go_roundw
    case rel=>exact⟨j+1,by omega,by go_num,hid (by rw [HSS.out];exact HF2.out)⟩
    case measure =>
     simp [Go.RowKit.intOf]
     omega
  · have hjn:j=t.n-1:=by omega
    have hdl:t.c.dn.take j=t.c.dn.dropLast:=by rw [hjn];exact HDL.out
    rw [hdl] at HF
    clear hdl hjn
    generalize t.c.dn.dropLast=D at *
    obtain⟨r,nn,d,rfl,HS,HB3,HRN⟩:=fill_end HF.out
    clear HF
    have HX3:=hid (z0b HX.out HB3.out)
    have HR3:=hid (z0b HR.out HB3.out)
    have g4:=z0m 4 HX3.out
    have z4:=z0a (j:=4) HX3.out rfl
    have g5:=z0m 5 HX3.out
    have hx5:((wr.setCell ⟨X,5,none⟩ (.slice r nn d)).setCell ⟨X,4,none⟩ (.bool true)).heap[X]?=some (.cells #[.int .u32 t.c.id,.int .u32 t.c.sg,.int .u8 t.c.st,.bool t.c.cp,.bool true,.slice r nn d,.int .i64 t.c.fs,.int .i64 t.c.sz] 58 (0,0)):=z0p 4 _ (z0p 5 _ HX3.out)
    have g4b:=z0m 4 (z0p 5 (.slice r nn d) HX3.out)
    have hc1:Chg (fun k=>k=X) wr ((wr.setCell ⟨X,5,none⟩ (.slice r nn d)).setCell ⟨X,4,none⟩ (.bool true)):=((Chg.refl (fun k=>k=X) wr).setCell ⟨X,5,none⟩ _ fun _=>rfl).setCell ⟨X,4,none⟩ _ fun _=>rfl
    have hc5:Chg (fun k=>k=X∨k=R) wr ((wr.setCell ⟨X,5,none⟩ (.slice r nn d)).setCell ⟨X,4,none⟩ (.bool true)):=((Chg.refl (fun k=>k=X∨k=R) wr).setCell ⟨X,5,none⟩ _ fun _=>.inl rfl).setCell ⟨X,4,none⟩ _ fun _=>.inl rfl
    have hr5:=(hc1.block R (z0k HR3.out) (fun e=>HNE.out e.symm)).trans HR3.out
    have HC5:=hid hc5
    have HX5:=hid hx5
    have HR5:=hid hr5
    clear hc5 hx5 hr5 hc1
    go_upto_region 8 with (fail)
    clear g4 g5 g4b x5 z4
    generalize (wr.setCell ⟨X,5,none⟩ (.slice r nn d)).setCell ⟨X,4,none⟩ (.bool true)=W5 at *
    obtain⟨x0,x1,x2,x3,x4,x5,x6,x7⟩:=z0g HX5.out
    obtain⟨r0,r1,r2,r3,r4,r5,r6,r7⟩:=z0g HR5.out
    obtain⟨f0,f1,f2,f3,f4,f5,f6,f7⟩:=z1y HR5.out
    have HFS:=hid (z1d (a':=.int .u32 t.c.id) (b':=.int .u32 t.c.sg) (c':=.int .u8 t.c.st) (d':=.bool t.c.cp) (e':=.bool true) (f':=.slice r nn d) (g':=.int .i64 t.c.fs) (h':=.int .i64 t.c.sz) HR5.out)
    have hc6:Chg (fun k=>k=X∨k=R) W5 ((((((((W5.setCell ⟨R,0,none⟩ (.int .u32 t.c.id)).setCell ⟨R,1,none⟩ (.int .u32 t.c.sg)).setCell ⟨R,2,none⟩ (.int .u8 t.c.st)).setCell ⟨R,3,none⟩ (.bool t.c.cp)).setCell ⟨R,4,none⟩ (.bool true)).setCell ⟨R,5,none⟩ (.slice r nn d)).setCell ⟨R,6,none⟩ (.int .i64 t.c.fs)).setCell ⟨R,7,none⟩ (.int .i64 t.c.sz)):=(((((((((Chg.refl (fun k=>k=X∨k=R) W5).setCell ⟨R,0,none⟩ _ fun _=>.inr rfl).setCell ⟨R,1,none⟩ _ fun _=>.inr rfl).setCell ⟨R,2,none⟩ _ fun _=>.inr rfl).setCell ⟨R,3,none⟩ _ fun _=>.inr rfl).setCell ⟨R,4,none⟩ _ fun _=>.inr rfl).setCell ⟨R,5,none⟩ _ fun _=>.inr rfl).setCell ⟨R,6,none⟩ _ fun _=>.inr rfl).setCell ⟨R,7,none⟩ _ fun _=>.inr rfl)
    have HALL:=hid (HC5.out.trans hc6 (fun _ _ h=>h))
    have HBW:Hid (Below W.heap.size W ((((((((W5.setCell ⟨R,0,none⟩ (.int .u32 t.c.id)).setCell ⟨R,1,none⟩ (.int .u32 t.c.sg)).setCell ⟨R,2,none⟩ (.int .u8 t.c.st)).setCell ⟨R,3,none⟩ (.bool t.c.cp)).setCell ⟨R,4,none⟩ (.bool true)).setCell ⟨R,5,none⟩ (.slice r nn d)).setCell ⟨R,6,none⟩ (.int .i64 t.c.fs)).setCell ⟨R,7,none⟩ (.int .i64 t.c.sz))):=hid (HALL.out.below (HB0.out.trans (HB3.out.mono HB0.out.size)) (Nat.le_trans HB0.out.size HB3.out.size) (fun k hk=>by have h1:=HWX.out;have h3:=HRX.out;rcases hk with rfl | rfl <;> omega))
    clear hc6
    go_wp2_with fail
    refine bodyPost_ret (v:=.agg #[.int .u32 t.c.id,.int .u32 t.c.sg,.int .u8 t.c.st,.bool t.c.cp,.bool true,.slice r nn d,.int .i64 t.c.fs,.int .i64 t.c.sz]) ?_ rfl ⟨r,nn,d,rfl,made_stays HS.out HRN.out HXL.out HRL.out HALL.out,HBW.out,fun a ha=>Nat.le_trans HB0.out.size (HRN.out a ha)⟩
    exact z2n rfl _ _ R _ rfl rfl HFS.out
theorem q0n {w:World} {base k n:Nat} {T:TypeId} {v:Value} {xs:List Value} (h:w.ownsRow base T k v n xs) {b:Nat} (hb:v.ownBlock=some b):∃ cs,w.heap[b]?=some (.cells cs T (0,0)):=by
 rcases h.2 with hn | ⟨g,cap,cur,rfl,h1,h2,h3⟩
 · rw [hn.1] at hb
   cases hb
 · cases hb
   exact⟨_,h2⟩
structure InR (w0 w2 wr:World) (v:Value) (Lx L:List Tv) (j:Nat):Prop where
 fill:q0v w2 wr v Lx j
 is:Lx.map (·.c)=(L.take j).map (·.c)
 each:∀ t∈Lx,TvM wr t
 free:∀ t∈Lx,0<t.n→∀ a,t.p=some a→w2.heap.size≤a.block∧∃ cs,wr.heap[a.block]?=some (.cells cs 71 (0,0))
 apart:∀ i j,i<Lx.length→j<Lx.length→i≠j→0<(Lx.getD i tv0).n→0<(Lx.getD j tv0).n→∀ a b,(Lx.getD i tv0).p=some a→(Lx.getD j tv0).p=some b→a.block≠b.block
 low:Below w0.heap.size w0 w2
theorem InR.below {w0 w2 wr:World} {v:Value} {Lx L:List Tv} {j:Nat} (h:InR w0 w2 wr v Lx L j):Below w0.heap.size w0 wr:=h.low.trans (h.fill.below.mono h.low.size)
theorem InR.start {w0 w2:World} (h:Below w0.heap.size w0 w2) (L:List Tv):InR w0 w2 w2 (.slice none 0 0) [] L 0 :=
 ⟨FillG.nil w2,rfl,(fun t ht=>by cases ht),(fun t ht=>by cases ht),(fun i j hi=>by cases hi),h⟩
theorem InR.later {w0 w2 wr w':World} {v:Value} {Lx L:List Tv} {j:Nat} (h:InR w0 w2 wr v Lx L j) (hb:Below wr.heap.size wr w'):InR w0 w2 w' v Lx L j :=
 ⟨h.fill.later hb,h.is,fun t ht=>(h.each t ht).later hb,fun t ht h0 a ha=>by
  obtain⟨h1,cs,h2⟩:=h.free t ht h0 a ha
  exact⟨h1,cs,z0b h2 hb⟩,h.apart,h.low⟩
theorem z7l {L:List Tv} {t:Tv} {i:Nat} (h:i<L.length):(L ++ [t]).getD i tv0=L.getD i tv0:=by
 simp [List.getD,List.getElem?_append_left h]
theorem getD_app_r {L:List Tv} {t:Tv}:(L ++ [t]).getD L.length tv0=t:=by
 simp [List.getD]
theorem InR.step {w0 w2 wr w3 w5:World} {v v':Value} {Lx L:List Tv} {j:Nat} (h:InR w0 w2 wr v Lx L j) (hj:j<L.length) (hb:Below wr.heap.size wr w3) (t:Tv) (ht:TvM w3 t) (hc:t.c=(L.getD j tv0).c)
 (hf:0<t.n→∀ a,t.p=some a→wr.heap.size≤a.block∧∃ cs,w3.heap[a.block]?=some (.cells cs 71 (0,0))) (o:Obj)
 (h1:w5.ownsRow w2.heap.size 58 8 v' (Lx.length+1) (z0u tce (Lx ++ [t]))) (h2:(w3.alloc o).grownBy w5 v.ownBlock):InR w0 w2 w5 v' (Lx ++ [t]) L (j+1):=by
 have h3:=h.later hb
 have hba:Below w3.heap.size w3 (w3.alloc o):=(Below.refl _ _).alloc (Nat.le_refl _) _
 have hch:=Chg.of_grown h2
 have hsz:=Nat.le_trans hba.size hch.size
 have hty:∀ b cs,v.ownBlock=some b→w3.heap[b]?=some (.cells cs 71 (0,0))→False:=fun b cs e1 e2=>by
  obtain⟨ds,e3⟩:=q0n h3.fill.own e1
  rw [e2] at e3
  injection e3 with e3
  injection e3 with _ e4 _
  revert e4
  decide
 have hkeep:∀ u:Tv,TvM w3 u→(0<u.n→∀ a,u.p=some a→∃ cs,w3.heap[a.block]?=some (.cells cs 71 (0,0)))→TvM w5 u∧(0<u.n→∀ a,u.p=some a→∃ cs,w5.heap[a.block]?=some (.cells cs 71 (0,0))):=fun u hu hfu=>by
  have hk:0<u.n→∀ a,u.p=some a→w5.heap[a.block]?=w3.heap[a.block]?:=fun h0 a ha=>by
   obtain⟨cs,e1⟩:=hfu h0 a ha
   have hlt:=z0k e1
   rw [hch.block a.block (Nat.lt_of_lt_of_le hlt hba.size) (fun e=>hty _ cs e e1)]
   exact hba.block a.block hlt
  exact⟨SlG.turn hu hsz fun h0 a ha _=>hk h0 a ha,fun h0 a ha=>by
   obtain⟨cs,e1⟩:=hfu h0 a ha
   exact⟨cs,(hk h0 a ha).trans e1⟩⟩
 have hold:∀ u∈Lx,0<u.n→∀ a,u.p=some a→a.block<wr.heap.size:=fun u hu h0 a ha=>by
  obtain⟨_,cs,e1⟩:=h.free u hu h0 a ha
  exact z0k e1
 refine⟨h3.fill.step o h1 h2,?_,fun u hu=>?_,fun u hu h0 a ha=>?_,fun i k hi hk hik hn1 hn2 a b ha hbk=>?_,?_⟩
 · rw [List.map_append,h.is,List.take_add_one,List.getElem?_eq_getElem hj,Option.toList_some,List.map_append,List.map_singleton,List.map_singleton,hc,List.getD,List.getElem?_eq_getElem hj,Option.getD_some]
 · rcases List.mem_append.1 hu with e | e
   · exact (hkeep u (h3.each u e) fun h0 a ha=>(h3.free u e h0 a ha).2).1
   · rw [List.mem_singleton.1 e]
     exact (hkeep t ht fun h0 a ha=>(hf h0 a ha).2).1
 · rcases List.mem_append.1 hu with e | e
   · exact⟨(h3.free u e h0 a ha).1,(hkeep u (h3.each u e) fun h0 a ha=>(h3.free u e h0 a ha).2).2 h0 a ha⟩
   · rw [List.mem_singleton.1 e] at h0 ha
     have hs:=h.fill.below.size
     exact⟨Nat.le_trans hs (hf h0 a ha).1,(hkeep t ht fun h0 a ha=>(hf h0 a ha).2).2 h0 a ha⟩
 · rw [List.length_append,List.length_singleton] at hi hk
   have hmem:∀ i,i<Lx.length→Lx.getD i tv0∈Lx:=fun i hi=>by
    rw [List.getD,List.getElem?_eq_getElem hi]
    exact List.getElem_mem _
   rcases Nat.lt_or_ge i Lx.length with h1i | h1i
   · rw [z7l h1i] at hn1 ha
     rcases Nat.lt_or_ge k Lx.length with h1k | h1k
     · rw [z7l h1k] at hn2 hbk
       exact h.apart i k h1i h1k hik hn1 hn2 a b ha hbk
     · obtain rfl:k=Lx.length:=by omega
       rw [getD_app_r] at hn2 hbk
       have g1:=hold _ (hmem i h1i) hn1 a ha
       have g2:=(hf hn2 b hbk).1
       omega
   · obtain rfl:i=Lx.length:=by omega
     rw [getD_app_r] at hn1 ha
     have h1k:k<Lx.length:=by omega
     rw [z7l h1k] at hn2 hbk
     have g1:=hold _ (hmem k h1k) hn2 b hbk
     have g2:=(hf hn1 a ha).1
     omega
 · exact h.low
theorem z3z {fn:Func} {p u:Tmp} (h:fn.results=#[.cell p 71,.tmp u]) (tmps:Array Value) (W:World) (R:Nat) (cs:Array Value) (hs:cs.size=4) (v:Value) (hp:tmps.getD p undef=.pointer (some ⟨R,0,none⟩)) (hv:tmps.getD u undef=v)
 (hB:W.heap[R]?=some (.cells cs 71 (0,0))):(results fn tmps).run Tryz.prog W=.ok (.tuple #[.agg cs,v]) W:=by
 rw [results_cell_tmp h,hp,hv]
 simp [asAddr,Result.andThen,run_loadVar_row W R 71 71 cs (0,0) _ hB Tryz.underlying71 rfl (by rw [hs];kernel_rfl)]
theorem z5b {w:World} {B:Nat} {a b c d:Value} {T:TypeId} (hb:w.heap[B]?=some (.cells #[a,b,c,d] T (0,0))):w.cell? ⟨B,0,none⟩=some a∧w.cell? ⟨B,1,none⟩=some b∧w.cell? ⟨B,2,none⟩=some c∧w.cell? ⟨B,3,none⟩=some d:=⟨z0a hb rfl,z0a hb rfl,z0a hb rfl,z0a hb rfl⟩
theorem q0o {w:World} {B:Nat} {cs:Array Value} {T:TypeId} (h:w.heap[B]?=some (.cells cs T (0,0))):w.frozen? ⟨B,0,none⟩=false∧w.frozen? ⟨B,1,none⟩=false∧w.frozen? ⟨B,2,none⟩=false∧w.frozen? ⟨B,3,none⟩=false:=⟨z0m 0 h,z0m 1 h,z0m 2 h,z0m 3 h⟩
theorem z7f {w:World} {B:Nat} {a b c d a' b' c' d':Value} {T:TypeId} (h:w.heap[B]?=some (.cells #[a,b,c,d] T (0,0))) :
 ((((w.setCell ⟨B,0,none⟩ a').setCell ⟨B,1,none⟩ b').setCell ⟨B,2,none⟩ c').setCell ⟨B,3,none⟩ d').heap[B]?=some (.cells #[a',b',c',d'] T (0,0)) :=
 z0p 3 d' (z0p 2 c' (z0p 1 b' (z0p 0 a' h)))
theorem q0f {W w:World} {B:Nat} (h:Below W.heap.size W w) (hB:W.heap.size≤B) (a' b' c' d':Value):Below W.heap.size W ((((w.setCell ⟨B,0,none⟩ a').setCell ⟨B,1,none⟩ b').setCell ⟨B,2,none⟩ c').setCell ⟨B,3,none⟩ d') :=
 (((h.setCell hB _).setCell hB _).setCell hB _).setCell hB _
theorem z8d {t:Tc} (h:t.dn.length=0):z1v t=(o0,false):=by
 unfold z1v
 rw [List.length_eq_zero_iff.1 h]
 rfl
theorem lastC_at {t:Tc} {q:Nat} (h:t.dn.length=q+1):z1v t=if (t.dn.getD q o0).2 < -9223372036854775807 then (o0,false) else (((t.dn.getD q o0).1,-(t.dn.getD q o0).2),true):=by
 unfold z1v
 have e:t.dn.getLast?=some (t.dn.getD q o0):=by
  rw [List.getLast?_eq_getElem?,h]
  simp [List.getD,List.getElem?_eq_getElem (show q<t.dn.length by omega)]
 rw [e]
theorem z4o (t:Tv) (W:World) (hM:TvM W t) (hx:∀ o∈t.c.dn,Ook o) (hn:t.n≤100000) :
 Calls Tryz.prog 26 #[.agg #[.int .u32 t.c.id,.int .u32 t.c.sg,.int .u8 t.c.st,.bool t.c.cp,.bool t.c.dd,.slice t.p t.n t.m,.int .i64 t.c.fs,.int .i64 t.c.sz]] W fun e w'=>e=.returned (.tuple #[.agg #[.int .u8 (z1v t.c).1.1.1,.int .u8 (z1v t.c).1.1.2.1,.int .u8 (z1v t.c).1.1.2.2,.int .i64 (z1v t.c).1.2],.bool (z1v t.c).2])∧Below W.heap.size W w':=by
 obtain⟨hb0,hx0,hr0⟩:=ttwo W #[.int .u32 t.c.id,.int .u32 t.c.sg,.int .u8 t.c.st,.bool t.c.cp,.bool t.c.dd,.slice t.p t.n t.m,.int .i64 t.c.fs,.int .i64 t.c.sz] #[.int .u8 0,.int .u8 0,.int .u8 0,.int .i64 0] 58 71
 have HM:Hid (OL _ t.p t.n t.m t.c.dn):=hid (hM.later hb0)
 have HB0:=hid hb0
 have HX:=hid hx0
 have HR:=hid hr0
 obtain⟨z,hz0⟩:∃ z,z1v t.c=z:=⟨_,rfl⟩
 rw [hz0]
 have HZ:=hid hz0
 have hlen:=hM.len
 have hcap:=hM.cap
 obtain⟨X,hX⟩:∃ X,W.heap.size=X:=⟨_,rfl⟩
 have HHX:=hid hX
 rw [hX] at HX HR
 by_cases h0:t.n=0
 · have hq:=h0
   have hz:((t.n:Int)==0)=true:=by simp [h0]
   have hl:=z8d (show t.c.dn.length=0 by rw [hlen,hq])
   have HL:=hid (hz0.symm.trans hl)
   have HQ:=hid hq
   clear hb0 hx0 hr0 hM hl hlen hcap hx HM hz0 h0
   clear hq
   go_enter Tryz.func26,Tryz.ntmps26
   go_upto_region 1 with (fail)
   clear hX
   generalize (W.alloc (.cells #[.int .u32 t.c.id,.int .u32 t.c.sg,.int .u8 t.c.st,.bool t.c.cp,.bool t.c.dd,.slice t.p t.n t.m,.int .i64 t.c.fs,.int .i64 t.c.sz] 58)).alloc (.cells #[.int .u8 0,.int .u8 0,.int .u8 0,.int .i64 0] 71)=V0 at *
   have HO:Hid (W.heap.size≤X+1):=hid (by rw [HHX.out];omega)
   generalize X+1=R at *
   have x5:=z0a (j:=5) HX.out rfl
   obtain⟨r0,r1,r2,r3⟩:=z5b HR.out
   obtain⟨f0,f1,f2,f3⟩:=q0o HR.out
   have HFS:=hid (z7f (a':=.int .u8 0) (b':=.int .u8 0) (c':=.int .u8 0) (d':=.int .i64 0) HR.out)
   have HGS:=hid (q0f HB0.out HO.out (.int .u8 0) (.int .u8 0) (.int .u8 0) (.int .i64 0))
   go_wp2_with fail
   refine bodyPost_ret (v:=.tuple #[.agg #[.int .u8 0,.int .u8 0,.int .u8 0,.int .i64 0],.bool false]) ?_ rfl ⟨by rw [HL.out] <;> rfl,HGS.out⟩
   exact z3z rfl _ _ R _ rfl _ rfl rfl HFS.out
 · obtain⟨q,hq⟩:∃ q,t.n=q+1:=⟨t.n-1,by omega⟩
   clear h0
   have hl:=lastC_at (show t.c.dn.length=q+1 by rw [hlen,hq])
   have HZL:=hid (hz0.symm.trans hl)
   clear hz0
   have hoq:=ok_at hx (show q<t.c.dn.length by rw [hlen,hq];omega)
   have hqn:q<t.n:=by omega
   have hw:IntKind.i64.wrap ((t.n:Int)-1)=(q:Int):=by
    rw [hq]
    unfold IntKind.wrap;simp [IntKind.signed,IntKind.bits];omega
   have hz:((t.n:Int)==0)=false:=by simp;omega
   have hqi:(q:Int)<t.n:=by omega
   have HQ:=hid hq
   clear hq hlen hl hb0 hx0 hr0 hM hx
   generalize t.p=tp at *
   generalize t.n=tn at *
   obtain⟨b,off,rfl,_,c0,c1,c2,c3⟩:=z6m HM.out hqn
   generalize t.c.dn.getD q o0=o at *
   obtain⟨k,dl⟩:=o
   have hng:¬ dl < -9223372036854775807→IntKind.i64.wrap (-dl) = -dl:=fun h=>by
    have h1:=hoq.2
    unfold In64 at h1
    simp only at h1
    unfold IntKind.wrap;simp [IntKind.signed,IntKind.bits];omega
   have HOQ:=hid hoq
   clear hoq hqn
   go_enter Tryz.func26,Tryz.ntmps26
   go_upto_region 1 with (fail)
   clear hX
   generalize (W.alloc (.cells #[.int .u32 t.c.id,.int .u32 t.c.sg,.int .u8 t.c.st,.bool t.c.cp,.bool t.c.dd,.slice (some ⟨b,off,none⟩) tn t.m,.int .i64 t.c.fs,.int .i64 t.c.sz] 58)).alloc (.cells #[.int .u8 0,.int .u8 0,.int .u8 0,.int .i64 0] 71)=V0 at *
   have HO:Hid (W.heap.size≤X+1):=hid (by rw [HHX.out];omega)
   generalize X+1=R at *
   have x5:=z0a (j:=5) HX.out rfl
   by_cases hlt:dl < -9223372036854775807
   · have HE:Hid (z=(o0,false)):=hid (HZL.out.trans (if_pos hlt))
     have HLT:=hid hlt
     have hd:decide (dl < -9223372036854775807)=true:=decide_eq_true hlt
     obtain⟨r0,r1,r2,r3⟩:=z5b HR.out
     obtain⟨f0,f1,f2,f3⟩:=q0o HR.out
     have HFS:=hid (z7f (a':=.int .u8 0) (b':=.int .u8 0) (c':=.int .u8 0) (d':=.int .i64 0) HR.out)
     have HGS:=hid (q0f HB0.out HO.out (.int .u8 0) (.int .u8 0) (.int .u8 0) (.int .i64 0))
     go_wp2_with fail
     refine bodyPost_ret (v:=.tuple #[.agg #[.int .u8 0,.int .u8 0,.int .u8 0,.int .i64 0],.bool false]) ?_ rfl ⟨by rw [HE.out] <;> rfl,HGS.out⟩
     exact z3z rfl _ _ R _ rfl _ rfl rfl HFS.out
   · have HE:Hid (z=((k,-dl),true)):=hid (HZL.out.trans (if_neg hlt))
     have hnn:=hng hlt
     have HLT:=hid hlt
     have hd:decide (dl < -9223372036854775807)=false:=decide_eq_false hlt
     have HRD:Hid (V0.drew.heap[R]?=some (.cells #[.int .u8 0,.int .u8 0,.int .u8 0,.int .i64 0] 71 (0,0))):=hid HR.out
     have HBD0:=hid (z0h HB0.out 1)
     have HBD:Hid (Below W.heap.size W V0.drew):=hid HBD0.out
     clear HBD0 hng
     go_wp2_with fail
     go_still_tail 16,(by kernel_rfl)
     repeat still_step
     change wpList _ _ _ _ _ V0.drew
     clear c0 c1 c2 c3 x5
     generalize V0.drew=V1 at *
     obtain⟨r0,r1,r2,r3⟩:=z5b HRD.out
     obtain⟨f0,f1,f2,f3⟩:=q0o HRD.out
     have HFS:=hid (z7f (a':=.int .u8 k.1) (b':=.int .u8 k.2.1) (c':=.int .u8 k.2.2) (d':=.int .i64 (-dl)) HRD.out)
     have HGS:=hid (q0f HBD.out HO.out (.int .u8 k.1) (.int .u8 k.2.1) (.int .u8 k.2.2) (.int .i64 (-dl)))
     go_wp2_with fail
     refine bodyPost_ret (v:=.tuple #[.agg #[.int .u8 k.1,.int .u8 k.2.1,.int .u8 k.2.2,.int .i64 (-dl)],.bool true]) ?_ rfl ⟨by rw [HE.out] <;> rfl,HGS.out⟩
     exact z3z rfl _ _ R _ rfl _ rfl rfl HFS.out
theorem witho_take {α:Type} (ix:α→Int) (L:List α) (i:Int) (d:α) (j:Nat) (h:j<L.length):z1x ix (L.take (j+1)) i=if ix (L.getD j d)=i then z1x ix (L.take j) i else z1x ix (L.take j) i ++ [L.getD j d]:=by
 unfold z1x
 rw [List.take_add_one,List.filter_append,List.getElem?_eq_getElem h]
 have e:L.getD j d=L[j]:=by simp [List.getD,List.getElem?_eq_getElem h]
 rw [e]
 by_cases hx:ix L[j]=i
 · simp [hx]
 · simp [hx]
theorem z3q (p:Option Addr) (n c:Nat) (L:List Tv) (i:Int) (W:World) (hL:SlG tce 8 tv0 W p n c L) (hn:n≤100000) :
 Calls Tryz.prog 29 #[.slice p n c,.int .u32 i] W (GivesG tce 8 tv0 W (z1x Tv.id L i)):=by
 have HL:=hid hL
 obtain⟨st,hst⟩:∃ st:Nat→List Tv,∀ j,st j=z1x Tv.id (L.take j) i:=⟨_,fun _=>rfl⟩
 have HS:=hid fun j (hj:j<n)=>(show st (j+1)=if (L.getD j tv0).c.id=i then st j else st j ++ [L.getD j tv0] by rw [hst,hst];exact witho_take Tv.id L i tv0 j (by rw [hL.len];exact hj))
 have HS0:Hid (st 0=[]):=hid (by rw [hst];rfl)
 have HSN:Hid (st n=z1x Tv.id L i):=hid (by rw [hst,List.take_of_length_le (by rw [hL.len];exact Nat.le_refl _)])
 have hcap:=hL.cap
 clear hst hL
 go_enter Tryz.func29,Tryz.ntmps29
 go_wp2_with fail
 go_loopw [5,6] (fun v i wr=>∃ j:Nat,j≤n∧i=.int .i64 (j:Int)∧Hid (q0v W wr v (st j) j)) (fun _ i _=>n-(Go.RowKit.intOf i).toNat)
 case atStart=>exact⟨0,Nat.zero_le _,rfl,hid (by rw [HS0.out];exact FillG.nil W)⟩
 case round =>
  obtain⟨j,hj,rfl,HF⟩:=hrel
  by_cases hlt:j<n
  · have hlt':(j:Int)<n:=by omega
    obtain⟨b,off,rfl,_,c0,c1,c2,c3,c4,c5,c6,c7⟩:=z2i (HL.out.later HF.out.below) hlt
    have hsucc:=HS.out j hlt
    generalize L.getD j tv0=x at *
    generalize st j=out at *
    by_cases hx:x.c.id=i
    · have hst:st (j+1)=out:=by rw [hsucc,if_pos hx]
      have HST:=hid hst
      have hne:(x.c.id != i)=false:=by simp [hx]
      have HX:=hid hx
      clear hst hsucc hx
      go_wp2_with fail
      go_roundw
      case rel=>exact⟨j+1,by omega,by go_num,hid (by rw [HST.out];exact HF.out.mono (by omega))⟩
      case measure =>
       simp [Go.RowKit.intOf]
       omega
    · have hst:st (j+1)=out ++ [x]:=by rw [hsucc,if_neg hx]
      have HST:=hid hst
      have hne:(x.c.id != i)=true:=by simp [hx]
      have HX:=hid hx
      clear hst hsucc hx
      have hsz:=HF.out.below.size
      have hmost:=HF.out.most
      go_wp2_with (at_builtin;refine z1o rfl _ _ rfl W.heap.size _ (out).length (out) rfl (HF.out.own.alloc _) (by omega) x wr.heap.size rfl (z6a wr x) (by simp;omega) ?_;intro v2 w2 h1 h2)
      have HF2:=hid (HF.out.step _ h1 h2)
      clear h1 h2 hsz hmost
      clear c0 c1 c2 c3 c4 c5 c6 c7 HF
      go_wp2_with fail
      go_roundw
      case rel=>exact⟨j+1,by omega,by go_num,hid (by rw [HST.out];exact HF2.out)⟩
      case measure =>
       simp [Go.RowKit.intOf]
       omega
  · obtain rfl:j=n:=by omega
    rw [HSN.out] at HF
    go_wp2_with fail
    go_ret
    exact HF.out.gives z7w (by decide)
theorem atb {W w:World} {a:Addr} {v:Value} (hb:Below W.heap.size W w) (h:W.cell? a=some v):w.cell? a=some v:=(hb.cell (World.block_lt_of_cell? _ _ h)).trans h
def stI (t:Tv) (st:Bool × List Tv) (x:Tv):Bool × List Tv :=
 let s1:=if (!st.1 && decide (t.c.id<x.c.id))=true then (true,st.2 ++ [t]) else st
 (s1.1,s1.2 ++ [x])
def insL (L:List Tv) (t:Tv):List Tv:=if (L.foldl (stI t) (false,[])).1=true then (L.foldl (stI t) (false,[])).2 else (L.foldl (stI t) (false,[])).2 ++ [t]
theorem foldI_done (t:Tv):∀ (L out:List Tv),L.foldl (stI t) (true,out)=(true,out++L)
 | [],out=>by simp
 | x::L,out=>by
  rw [List.foldl_cons]
  have h:stI t (true,out) x=(true,out ++ [x]):=by simp [stI]
  rw [h,foldI_done t L]
  simp
theorem foldI_put (t:Tv):∀ (L out:List Tv),(if (L.foldl (stI t) (false,out)).1=true then (L.foldl (stI t) (false,out)).2 else (L.foldl (stI t) (false,out)).2 ++ [t])=out++insT Tv.id L t
 | [],out=>by simp [insT]
 | x::L,out=>by
  rw [List.foldl_cons,insT]
  by_cases hx:t.c.id<x.c.id
  · have h:stI t (false,out) x=(true,(out ++ [t]) ++ [x]):=by simp [stI,hx]
    rw [h,foldI_done,if_pos (show Tv.id t<Tv.id x from hx)]
    simp
  · have h:stI t (false,out) x=(false,out ++ [x]):=by simp [stI,hx]
    rw [h,foldI_put t L (out ++ [x]),if_neg (show ¬ Tv.id t<Tv.id x from hx)]
    simp
theorem insL_ins (L:List Tv) (t:Tv):insL L t=insT Tv.id L t:=by
 have:=foldI_put t L []
 simpa [insL] using this
theorem takeI_fold (t:Tv) (L:List Tv) (j:Nat) (h:j<L.length):(L.take (j+1)).foldl (stI t) (false,[])=stI t ((L.take j).foldl (stI t) (false,[])) (L.getD j tv0):=by
 rw [List.take_add_one,List.foldl_append]
 simp [List.getD,List.getElem?_eq_getElem h]
theorem GivesG.up19 {α:Type} {enc:α→List Value} {k:Nat} {d:α} {W W1 w':World} {L:List α} {e:Ending} (h:GivesG enc k d W1 L e w') (hb:Below W.heap.size W W1):GivesG enc k d W L e w':=by
 obtain⟨p,c,he,hs,hb2,hp⟩:=h
 exact⟨p,c,he,hs,hb.trans (hb2.mono hb.size),fun a ha=>Nat.le_trans hb.size (hp a ha)⟩
set_option maxRecDepth 100000 in
theorem z3r (p:Option Addr) (n c:Nat) (L:List Tv) (t:Tv) (W:World) (hL:SlG tce 8 tv0 W p n c L) (hn:n≤10000) :
 Calls Tryz.prog 21 #[.slice p n c,.agg #[.int .u32 t.c.id,.int .u32 t.c.sg,.int .u8 t.c.st,.bool t.c.cp,.bool t.c.dd,.slice t.p t.n t.m,.int .i64 t.c.fs,.int .i64 t.c.sz]] W (GivesG tce 8 tv0 W (z1q Tv.id L t)):=by
 have hb0:Below W.heap.size W (W.alloc (.cells #[.int .u32 t.c.id,.int .u32 t.c.sg,.int .u8 t.c.st,.bool t.c.cp,.bool t.c.dd,.slice t.p t.n t.m,.int .i64 t.c.fs,.int .i64 t.c.sz] 58)):=(Below.refl _ _).alloc (Nat.le_refl _) _
 have HWO:=hid (z3q p n c L t.c.id _ (hL.later hb0) (by omega))
 have HB0:=hid hb0
 have HX0:=hid (z0c W (.cells #[.int .u32 t.c.id,.int .u32 t.c.sg,.int .u8 t.c.st,.bool t.c.cp,.bool t.c.dd,.slice t.p t.n t.m,.int .i64 t.c.fs,.int .i64 t.c.sz] 58))
 have HLN:=hid (show (z1x Tv.id L t.c.id).length≤10000 from Nat.le_trans (z8b L _) (by rw [hL.len];exact hn))
 obtain⟨X,hX⟩:∃ X,W.heap.size=X:=⟨_,rfl⟩
 have HHX:=hid hX
 rw [hX] at HX0
 unfold z1q
 rw [← insL_ins]
 have e0:Tv.id t=t.c.id:=rfl
 rw [e0]
 clear hb0 hL e0
 go_enter Tryz.func21,Tryz.ntmps21
 go_upto_region 1 with (fail)
 clear hX
 generalize W.alloc (.cells #[.int .u32 t.c.id,.int .u32 t.c.sg,.int .u8 t.c.st,.bool t.c.cp,.bool t.c.dd,.slice t.p t.n t.m,.int .i64 t.c.fs,.int .i64 t.c.sz] 58)=W1 at *
 have x0:=z0a (j:=0) HX0.out rfl
 go_wp2_with fail
 clear x0
 refine HWO.out.mono ?_
 rintro e1 W2 ⟨p1,c1,rfl,hL1,hb1,_⟩
 generalize hM:z1x Tv.id L t.c.id=M at *
 clear hM
 obtain⟨m,hm⟩:∃ m,M.length=m:=⟨_,rfl⟩
 have HMM:=hid hm
 rw [hm] at hL1 HLN
 have HL:=hid hL1
 have HB2:=hid (HB0.out.trans (hb1.mono HB0.out.size))
 have HXX:=hid (z0b HX0.out hb1)
 have HN:=HLN.out
 obtain⟨st,hst⟩:∃ st:Nat→Bool × List Tv,∀ j,st j=(M.take j).foldl (stI t) (false,[]):=⟨_,fun _=>rfl⟩
 have HS:=hid fun j (hj:j<m)=>(show st (j+1)=stI t (st j) (M.getD j tv0) by rw [hst,hst];exact takeI_fold t M j (by rw [hm];exact hj))
 have HS0:Hid (st 0=(false,[])):=hid (by rw [hst];rfl)
 have HSN:Hid (insL M t=if (st m).1=true then (st m).2 else (st m).2 ++ [t]):=hid (by rw [hst,List.take_of_length_le (by rw [hm];exact Nat.le_refl _)];rfl)
 rw [hm]
 clear hst hm hb1 hL1 HB0 HX0 HWO HLN
 obtain⟨xx0,xx1,xx2,xx3,xx4,xx5,xx6,xx7⟩:=z5h HXX.out
 have X0:=hid xx0
 have X1:=hid xx1
 have X2:=hid xx2
 have X3:=hid xx3
 have X4:=hid xx4
 have X5:=hid xx5
 have X6:=hid xx6
 have X7:=hid xx7
 clear xx0 xx1 xx2 xx3 xx4 xx5 xx6 xx7
 go_wp2_with fail
 go_loopw [5,6,7] (fun u d i wr=>∃ j:Nat,j≤m∧i=.int .i64 (j:Int)∧d=.bool (st j).1∧Hid (q0v W2 wr u (st j).2 (2*j))) (fun _ _ i _=>m-(Go.RowKit.intOf i).toNat)
 case atStart=>exact⟨0,Nat.zero_le _,rfl,by rw [HS0.out],hid (by rw [HS0.out];exact⟨World.ownsRow_nil _ _ _ _,Below.refl _ _,Nat.le_refl _⟩)⟩
 case round =>
  obtain⟨j,hj,rfl,rfl,HF⟩:=hrel
  by_cases hlt:j<m
  · have hlt':(j:Int)<m:=by omega
    obtain⟨b,off,rfl,_,cc0,cc1,cc2,cc3,cc4,cc5,cc6,cc7⟩:=z2i HL.out hlt
    have hsucc:=HS.out j hlt
    generalize M.getD j tv0=x at *
    have C0:=hid (atb (Below.refl _ _) cc0)
    have C1:=hid (atb (Below.refl _ _) cc1)
    have C2:=hid (atb (Below.refl _ _) cc2)
    have C3:=hid (atb (Below.refl _ _) cc3)
    have C4:=hid (atb (Below.refl _ _) cc4)
    have C5:=hid (atb (Below.refl _ _) cc5)
    have C6:=hid (atb (Below.refl _ _) cc6)
    have C7:=hid (atb (Below.refl _ _) cc7)
    clear cc0 cc1 cc2 cc3 cc4 cc5 cc6 cc7
    generalize st j=sj at *
    obtain⟨d,out⟩:=sj
    dsimp only at HF ⊢
    cases d with
    | true =>
     have hst:st (j+1)=(true,out ++ [x]):=by rw [hsucc];simp [stI]
     have HST:=hid hst
     clear hst hsucc
     have c0:=atb HF.out.below C0.out
     have c1:=atb HF.out.below C1.out
     have c2:=atb HF.out.below C2.out
     have c3:=atb HF.out.below C3.out
     have c4:=atb HF.out.below C4.out
     have c5:=atb HF.out.below C5.out
     have c6:=atb HF.out.below C6.out
     have c7:=atb HF.out.below C7.out
     have x0:=atb HF.out.below X0.out
     have x1:=atb HF.out.below X1.out
     have x2:=atb HF.out.below X2.out
     have x3:=atb HF.out.below X3.out
     have x4:=atb HF.out.below X4.out
     have x5:=atb HF.out.below X5.out
     have x6:=atb HF.out.below X6.out
     have x7:=atb HF.out.below X7.out
     have cc0:=fun p:After _=>z0l p c0
     have xx0:=fun p:After _=>z0l p x0
     go_wp2_with fail
     refine z1g (by kernel_rfl) (by kernel_rfl) ?_
     repeat (go_big_quiet_step (fail))
     refine wpQuiet_nil ?_
     intro w1 hw'
     obtain⟨⟨wq,h6⟩,hw''⟩:=hw'
     subst hw''
     have HF1:=hid (HF.out.later h6)
     clear cc0 xx0
     clear c0 c1 c2 c3 c4 c5 c6 c7 x0 x1 x2 x3 x4 x5 x6 x7
     clear h6 HF
     have c0:=atb HF1.out.below C0.out
     have c1:=atb HF1.out.below C1.out
     have c2:=atb HF1.out.below C2.out
     have c3:=atb HF1.out.below C3.out
     have c4:=atb HF1.out.below C4.out
     have c5:=atb HF1.out.below C5.out
     have c6:=atb HF1.out.below C6.out
     have c7:=atb HF1.out.below C7.out
     have x0:=atb HF1.out.below X0.out
     have x1:=atb HF1.out.below X1.out
     have x2:=atb HF1.out.below X2.out
     have x3:=atb HF1.out.below X3.out
     have x4:=atb HF1.out.below X4.out
     have x5:=atb HF1.out.below X5.out
     have x6:=atb HF1.out.below X6.out
     have x7:=atb HF1.out.below X7.out
     have hsz:=HF1.out.below.size
     have hmost:=HF1.out.most
     go_wp2_with (at_builtin;refine z1o rfl _ _ rfl W2.heap.size _ (out).length (out) rfl (HF1.out.own.alloc _) (by omega) x w1.heap.size rfl (z6a w1 x) (by simp;omega) ?_;intro v2 u2 h1 h2)
     have HF2:=hid (HF1.out.step _ h1 h2)
     clear h1 h2 hsz hmost
     clear c0 c1 c2 c3 c4 c5 c6 c7 x0 x1 x2 x3 x4 x5 x6 x7
     clear HF1
     go_wp2_with fail
     go_roundw
     case rel=>exact⟨j+1,by omega,by go_num,by rw [HST.out],hid (by rw [HST.out];exact HF2.out.mono (by omega))⟩
     case measure =>
      simp [Go.RowKit.intOf]
      omega
    | false =>
     by_cases hx:t.c.id<x.c.id
     · skip
       have hst:st (j+1)=(true,(out ++ [t]) ++ [x]):=by rw [hsucc];simp [stI,hx]
       have HST:=hid hst
       clear hst hsucc
       have c0:=atb HF.out.below C0.out
       have c1:=atb HF.out.below C1.out
       have c2:=atb HF.out.below C2.out
       have c3:=atb HF.out.below C3.out
       have c4:=atb HF.out.below C4.out
       have c5:=atb HF.out.below C5.out
       have c6:=atb HF.out.below C6.out
       have c7:=atb HF.out.below C7.out
       have x0:=atb HF.out.below X0.out
       have x1:=atb HF.out.below X1.out
       have x2:=atb HF.out.below X2.out
       have x3:=atb HF.out.below X3.out
       have x4:=atb HF.out.below X4.out
       have x5:=atb HF.out.below X5.out
       have x6:=atb HF.out.below X6.out
       have x7:=atb HF.out.below X7.out
       have cc0:=fun p:After _=>z0l p c0
       have xx0:=fun p:After _=>z0l p x0
       have hg:decide (t.c.id<x.c.id)=true:=by simp [hx]
       have HX:=hid hx
       clear hx
       go_wp2_with fail
       refine z1g (by kernel_rfl) (by kernel_rfl) ?_
       repeat (go_big_quiet_step (fail))
       refine wpQuiet_nil ?_
       intro w1 hw'
       obtain⟨⟨wq,h6⟩,hw''⟩:=hw'
       subst hw''
       have HF1:=hid (HF.out.later h6)
       clear cc0 xx0
       clear c0 c1 c2 c3 c4 c5 c6 c7 x0 x1 x2 x3 x4 x5 x6 x7
       clear h6 HF
       have c0:=atb HF1.out.below C0.out
       have c1:=atb HF1.out.below C1.out
       have c2:=atb HF1.out.below C2.out
       have c3:=atb HF1.out.below C3.out
       have c4:=atb HF1.out.below C4.out
       have c5:=atb HF1.out.below C5.out
       have c6:=atb HF1.out.below C6.out
       have c7:=atb HF1.out.below C7.out
       have x0:=atb HF1.out.below X0.out
       have x1:=atb HF1.out.below X1.out
       have x2:=atb HF1.out.below X2.out
       have x3:=atb HF1.out.below X3.out
       have x4:=atb HF1.out.below X4.out
       have x5:=atb HF1.out.below X5.out
       have x6:=atb HF1.out.below X6.out
       have x7:=atb HF1.out.below X7.out
       have hsz:=HF1.out.below.size
       have hmost:=HF1.out.most
       go_wp2_with (first | (at_builtin;refine z1o rfl _ _ rfl W2.heap.size _ out.length out rfl (HF1.out.own.alloc _) (by omega) t w1.heap.size rfl (z6a w1 t) (by simp;omega) ?_;intro v2 u2 h1 h2;have HF2:=hid (HF1.out.step _ h1 h2);have d0:=atb HF2.out.below C0.out;have d1:=atb HF2.out.below C1.out;have d2:=atb HF2.out.below C2.out;have d3:=atb HF2.out.below C3.out;have d4:=atb HF2.out.below C4.out;have d5:=atb HF2.out.below C5.out;have d6:=atb HF2.out.below C6.out;have d7:=atb HF2.out.below C7.out;have hsz2:=HF2.out.below.size;have hmost2:=HF2.out.most;clear h1 h2) | (at_builtin;refine z1o rfl _ _ rfl W2.heap.size _ (out ++ [t]).length (out ++ [t]) rfl (HF2.out.own.alloc _) (by omega) x u2.heap.size rfl (z6a u2 x) (by simp;omega) ?_;intro v3 u3 h3 h4))
       have HF3:=hid (HF2.out.step _ h3 h4)
       clear h3 h4 hsz hmost hsz2 hmost2 d0 d1 d2 d3 d4 d5 d6 d7
       clear c0 c1 c2 c3 c4 c5 c6 c7 x0 x1 x2 x3 x4 x5 x6 x7
       clear HF1 HF2
       go_wp2_with fail
       go_roundw
       case rel=>exact⟨j+1,by omega,by go_num,by rw [HST.out],hid (by rw [HST.out];exact HF3.out.mono (by omega))⟩
       case measure =>
        simp [Go.RowKit.intOf]
        omega
     · skip
       have hst:st (j+1)=(false,out ++ [x]):=by rw [hsucc];simp [stI,hx]
       have HST:=hid hst
       clear hst hsucc
       have c0:=atb HF.out.below C0.out
       have c1:=atb HF.out.below C1.out
       have c2:=atb HF.out.below C2.out
       have c3:=atb HF.out.below C3.out
       have c4:=atb HF.out.below C4.out
       have c5:=atb HF.out.below C5.out
       have c6:=atb HF.out.below C6.out
       have c7:=atb HF.out.below C7.out
       have x0:=atb HF.out.below X0.out
       have x1:=atb HF.out.below X1.out
       have x2:=atb HF.out.below X2.out
       have x3:=atb HF.out.below X3.out
       have x4:=atb HF.out.below X4.out
       have x5:=atb HF.out.below X5.out
       have x6:=atb HF.out.below X6.out
       have x7:=atb HF.out.below X7.out
       have cc0:=fun p:After _=>z0l p c0
       have xx0:=fun p:After _=>z0l p x0
       have hg:decide (t.c.id<x.c.id)=false:=by simp [hx]
       have HX:=hid hx
       clear hx
       go_wp2_with fail
       refine z1g (by kernel_rfl) (by kernel_rfl) ?_
       repeat (go_big_quiet_step (fail))
       refine wpQuiet_nil ?_
       intro w1 hw'
       obtain⟨⟨wq,h6⟩,hw''⟩:=hw'
       subst hw''
       have HF1:=hid (HF.out.later h6)
       clear cc0 xx0
       clear c0 c1 c2 c3 c4 c5 c6 c7 x0 x1 x2 x3 x4 x5 x6 x7
       clear h6 HF
       have c0:=atb HF1.out.below C0.out
       have c1:=atb HF1.out.below C1.out
       have c2:=atb HF1.out.below C2.out
       have c3:=atb HF1.out.below C3.out
       have c4:=atb HF1.out.below C4.out
       have c5:=atb HF1.out.below C5.out
       have c6:=atb HF1.out.below C6.out
       have c7:=atb HF1.out.below C7.out
       have x0:=atb HF1.out.below X0.out
       have x1:=atb HF1.out.below X1.out
       have x2:=atb HF1.out.below X2.out
       have x3:=atb HF1.out.below X3.out
       have x4:=atb HF1.out.below X4.out
       have x5:=atb HF1.out.below X5.out
       have x6:=atb HF1.out.below X6.out
       have x7:=atb HF1.out.below X7.out
       have hsz:=HF1.out.below.size
       have hmost:=HF1.out.most
       go_wp2_with (at_builtin;refine z1o rfl _ _ rfl W2.heap.size _ (out).length (out) rfl (HF1.out.own.alloc _) (by omega) x w1.heap.size rfl (z6a w1 x) (by simp;omega) ?_;intro v2 u2 h1 h2)
       have HF2:=hid (HF1.out.step _ h1 h2)
       clear h1 h2 hsz hmost
       clear c0 c1 c2 c3 c4 c5 c6 c7 x0 x1 x2 x3 x4 x5 x6 x7
       clear HF1
       go_wp2_with fail
       go_roundw
       case rel=>exact⟨j+1,by omega,by go_num,by rw [HST.out],hid (by rw [HST.out];exact HF2.out.mono (by omega))⟩
       case measure =>
        simp [Go.RowKit.intOf]
        omega
  · obtain rfl:j=m:=by omega
    have x0:=atb HF.out.below X0.out
    have x1:=atb HF.out.below X1.out
    have x2:=atb HF.out.below X2.out
    have x3:=atb HF.out.below X3.out
    have x4:=atb HF.out.below X4.out
    have x5:=atb HF.out.below X5.out
    have x6:=atb HF.out.below X6.out
    have x7:=atb HF.out.below X7.out
    generalize st j=sj at *
    obtain⟨d,out⟩:=sj
    dsimp only at HF ⊢
    cases d with
    | true =>
     have hw:insL M t=out:=HSN.out
     have HWW:=hid hw
     clear hw
     go_wp2_with fail
     go_ret
     rw [HWW.out]
     exact (HF.out.gives z7w (by decide)).up19 HB2.out
    | false =>
     have hw:insL M t=out ++ [t]:=HSN.out
     have HWW:=hid hw
     clear hw
     have hsz:=HF.out.below.size
     have hmost:=HF.out.most
     go_wp2_with (at_builtin;refine z1o rfl _ _ rfl W2.heap.size _ (out).length (out) rfl (HF.out.own.alloc _) (by omega) t wr.heap.size rfl (z6a wr t) (by simp;omega) ?_;intro v2 w2 h1 h2)
     have HF2:=hid (HF.out.step _ h1 h2)
     clear h1 h2 hsz hmost
     go_wp2_with fail
     go_ret
     rw [HWW.out]
     exact (HF2.out.gives z7w (by decide)).up19 HB2.out
theorem newT_take {α:Type} (ix:α→Int) (L:List α) (d:α) (j:Nat) (h:j<L.length):newT ix (L.take (j+1))=z1q ix (newT ix (L.take j)) (L.getD j d):=by
 unfold newT
 rw [List.take_add_one,List.foldl_append]
 simp [List.getD,List.getElem?_eq_getElem h]
theorem rtnew_any (p:Option Addr) (n c:Nat) (L:List Tv) (W:World) (hL:SlG tce 8 tv0 W p n c L) (hn:n≤1000) :
 Calls Tryz.prog 9 #[.slice p n c] W (GivesG tce 8 tv0 W (newT Tv.id L)):=by
 have HL:=hid hL
 obtain⟨st,hst⟩:∃ st:Nat→List Tv,∀ j,st j=newT Tv.id (L.take j):=⟨_,fun _=>rfl⟩
 have HS:=hid fun j (hj:j<n)=>(show st (j+1)=z1q Tv.id (st j) (L.getD j tv0) by rw [hst,hst];exact newT_take Tv.id L tv0 j (by rw [hL.len];exact hj))
 have HS0:Hid (st 0=[]):=hid (by rw [hst];rfl)
 have HSN:Hid (st n=newT Tv.id L):=hid (by rw [hst,List.take_of_length_le (by rw [hL.len];exact Nat.le_refl _)])
 have HLE:=hid fun j (hj:j≤n)=>(show (st j).length≤j by rw [hst];have:=len_newT (ix:=Tv.id) (L.take j);rw [List.length_take] at this;omega)
 have hcap:=hL.cap
 clear hst hL
 go_enter Tryz.func9,Tryz.ntmps9
 go_wp2_with fail
 go_loopw [3,4] (fun v i wr=>∃ (j:Nat) (r:Option Addr) (d:Nat),j≤n∧i=.int .i64 (j:Int)∧v=.slice r (st j).length d∧Hid (SlG tce 8 tv0 wr r (st j).length d (st j))∧Hid (Below W.heap.size W wr)∧Hid (∀ a,r=some a→W.heap.size≤a.block)) (fun _ i _=>n-(Go.RowKit.intOf i).toNat)
 case atStart=>exact⟨0,none,0,Nat.zero_le _,rfl,by rw [HS0.out];rfl,hid (by rw [HS0.out];exact SlG.empty _),hid (Below.refl _ _),hid (fun a ha=>by cases ha)⟩
 case round =>
  obtain⟨j,r,d,hj,rfl,rfl,HF,HB,HR⟩:=hrel
  by_cases hlt:j<n
  · have hlt':(j:Int)<n:=by omega
    obtain⟨b,off,rfl,_,c0,c1,c2,c3,c4,c5,c6,c7⟩:=z2i (HL.out.later HB.out) hlt
    have hsucc:=HS.out j hlt
    have hle:=HLE.out j hj
    generalize L.getD j tv0=x at *
    generalize st j=S at *
    have HW:=hid (z3r r S.length d S x wr HF.out (by omega))
    rw [← hsucc] at HW
    clear hsucc hle
    go_wp2_with fail
    clear c0 c1 c2 c3 c4 c5 c6 c7
    refine HW.out.mono ?_
    rintro e1 w1 ⟨r1,d1,rfl,hs1,hb1,hr1⟩
    have HF1:=hid hs1
    have HR1:=hid (fun a ha=>Nat.le_trans HB.out.size (hr1 a ha))
    have HB1:=hid (HB.out.trans (hb1.mono HB.out.size))
    clear hs1 hb1 hr1 HW
    go_wp2_with fail
    go_roundw
    case rel=>exact⟨j+1,r1,d1,by omega,by go_num,rfl,HF1,HB1,HR1⟩
    case measure =>
     simp [Go.RowKit.intOf]
     omega
  · obtain rfl:j=n:=by omega
    rw [HSN.out] at HF
    rw [HSN.out]
    go_wp2_with fail
    go_ret
    exact⟨r,d,rfl,HF.out,HB.out,HR.out⟩
theorem jlast_any (t:Tv) (W:World) (hM:TvM W t) (hx:∀ o∈t.c.dn,Ook o) (hn:t.n≤100000) :
 Calls Tryz.prog 83 #[.agg #[.int .u32 t.c.id,.int .u32 t.c.sg,.int .u8 t.c.st,.bool t.c.cp,.bool t.c.dd,.slice t.p t.n t.m,.int .i64 t.c.fs,.int .i64 t.c.sz]] W fun e w'=>e=.returned (.tuple #[.agg #[.int .u8 (z1v t.c).1.1.1,.int .u8 (z1v t.c).1.1.2.1,.int .u8 (z1v t.c).1.1.2.2,.int .i64 (z1v t.c).1.2],.bool (z1v t.c).2])∧Below W.heap.size W w':=by
 obtain⟨hb0,hx0,hr0⟩:=ttwo W #[.int .u32 t.c.id,.int .u32 t.c.sg,.int .u8 t.c.st,.bool t.c.cp,.bool t.c.dd,.slice t.p t.n t.m,.int .i64 t.c.fs,.int .i64 t.c.sz] #[.int .u8 0,.int .u8 0,.int .u8 0,.int .i64 0] 58 71
 have HM:Hid (OL _ t.p t.n t.m t.c.dn):=hid (hM.later hb0)
 have HB0:=hid hb0
 have HX:=hid hx0
 have HR:=hid hr0
 obtain⟨z,hz0⟩:∃ z,z1v t.c=z:=⟨_,rfl⟩
 rw [hz0]
 have HZ:=hid hz0
 have hlen:=hM.len
 have hcap:=hM.cap
 obtain⟨X,hX⟩:∃ X,W.heap.size=X:=⟨_,rfl⟩
 have HHX:=hid hX
 rw [hX] at HX HR
 by_cases h0:t.n=0
 · have hq:=h0
   have hz:((t.n:Int)==0)=true:=by simp [h0]
   have hl:=z8d (show t.c.dn.length=0 by rw [hlen,hq])
   have HL:=hid (hz0.symm.trans hl)
   have HQ:=hid hq
   clear hb0 hx0 hr0 hM hl hlen hcap hx HM hz0 h0
   clear hq
   go_enter Tryz.func83,Tryz.ntmps83
   go_upto_region 1 with (fail)
   clear hX
   generalize (W.alloc (.cells #[.int .u32 t.c.id,.int .u32 t.c.sg,.int .u8 t.c.st,.bool t.c.cp,.bool t.c.dd,.slice t.p t.n t.m,.int .i64 t.c.fs,.int .i64 t.c.sz] 58)).alloc (.cells #[.int .u8 0,.int .u8 0,.int .u8 0,.int .i64 0] 71)=V0 at *
   have HO:Hid (W.heap.size≤X+1):=hid (by rw [HHX.out];omega)
   generalize X+1=R at *
   have x5:=z0a (j:=5) HX.out rfl
   obtain⟨r0,r1,r2,r3⟩:=z5b HR.out
   obtain⟨f0,f1,f2,f3⟩:=q0o HR.out
   have HFS:=hid (z7f (a':=.int .u8 0) (b':=.int .u8 0) (c':=.int .u8 0) (d':=.int .i64 0) HR.out)
   have HGS:=hid (q0f HB0.out HO.out (.int .u8 0) (.int .u8 0) (.int .u8 0) (.int .i64 0))
   go_wp2_with fail
   refine bodyPost_ret (v:=.tuple #[.agg #[.int .u8 0,.int .u8 0,.int .u8 0,.int .i64 0],.bool false]) ?_ rfl ⟨by rw [HL.out] <;> rfl,HGS.out⟩
   exact z3z rfl _ _ R _ rfl _ rfl rfl HFS.out
 · obtain⟨q,hq⟩:∃ q,t.n=q+1:=⟨t.n-1,by omega⟩
   clear h0
   have hl:=lastC_at (show t.c.dn.length=q+1 by rw [hlen,hq])
   have HZL:=hid (hz0.symm.trans hl)
   clear hz0
   have hoq:=ok_at hx (show q<t.c.dn.length by rw [hlen,hq];omega)
   have hqn:q<t.n:=by omega
   have hw:IntKind.i64.wrap ((t.n:Int)-1)=(q:Int):=by
    rw [hq]
    unfold IntKind.wrap;simp [IntKind.signed,IntKind.bits];omega
   have hz:((t.n:Int)==0)=false:=by simp;omega
   have hqi:(q:Int)<t.n:=by omega
   have HQ:=hid hq
   clear hq hlen hl hb0 hx0 hr0 hM hx
   generalize t.p=tp at *
   generalize t.n=tn at *
   obtain⟨b,off,rfl,_,c0,c1,c2,c3⟩:=z6m HM.out hqn
   generalize t.c.dn.getD q o0=o at *
   obtain⟨k,dl⟩:=o
   have hng:¬ dl < -9223372036854775807→IntKind.i64.wrap (-dl) = -dl:=fun h=>by
    have h1:=hoq.2
    unfold In64 at h1
    simp only at h1
    unfold IntKind.wrap;simp [IntKind.signed,IntKind.bits];omega
   have HOQ:=hid hoq
   clear hoq hqn
   go_enter Tryz.func83,Tryz.ntmps83
   go_upto_region 1 with (fail)
   clear hX
   generalize (W.alloc (.cells #[.int .u32 t.c.id,.int .u32 t.c.sg,.int .u8 t.c.st,.bool t.c.cp,.bool t.c.dd,.slice (some ⟨b,off,none⟩) tn t.m,.int .i64 t.c.fs,.int .i64 t.c.sz] 58)).alloc (.cells #[.int .u8 0,.int .u8 0,.int .u8 0,.int .i64 0] 71)=V0 at *
   have HO:Hid (W.heap.size≤X+1):=hid (by rw [HHX.out];omega)
   generalize X+1=R at *
   have x5:=z0a (j:=5) HX.out rfl
   have hq1:(tn:Int)-1=(q:Int):=by have:=HQ.out;omega
   go_upto_region 4 with (fail)
   clear c0 c1 c2 c3 x5 hq1 hw
   have hb1:Below V0.heap.size V0 (V0.alloc (.cells #[.int .u8 k.1,.int .u8 k.2.1,.int .u8 k.2.2,.int .i64 dl] 71)):=(Below.refl _ _).alloc (Nat.le_refl _) _
   have HT:=hid (z0c V0 (.cells #[.int .u8 k.1,.int .u8 k.2.1,.int .u8 k.2.2,.int .i64 dl] 71))
   have HR1:=hid (z0b HR.out hb1)
   have HB1:=hid (HB0.out.trans (hb1.mono HB0.out.size))
   obtain⟨T,hT⟩:∃ T,V0.heap.size=T:=⟨_,rfl⟩
   rw [hT] at HT
   rw [hT]
   clear hb1 hT
   generalize V0.alloc (.cells #[.int .u8 k.1,.int .u8 k.2.1,.int .u8 k.2.2,.int .i64 dl] 71)=V1 at *
   obtain⟨t0,t1,t2,t3⟩:=z5b HT.out
   obtain⟨r0,r1,r2,r3⟩:=z5b HR1.out
   obtain⟨f0,f1,f2,f3⟩:=q0o HR1.out
   by_cases hlt:dl < -9223372036854775807
   · have HE:Hid (z=(o0,false)):=hid (HZL.out.trans (if_pos hlt))
     have hd:(dl == -9223372036854775808)=true:=by
      have h1:=HOQ.out.2
      unfold In64 at h1
      simp only at h1
      simp
      omega
     have HFS:=hid (z7f (a':=.int .u8 0) (b':=.int .u8 0) (c':=.int .u8 0) (d':=.int .i64 0) HR1.out)
     have HGS:=hid (q0f HB1.out HO.out (.int .u8 0) (.int .u8 0) (.int .u8 0) (.int .i64 0))
     clear hlt hng
     go_wp2_with fail
     refine bodyPost_ret (v:=.tuple #[.agg #[.int .u8 0,.int .u8 0,.int .u8 0,.int .i64 0],.bool false]) ?_ rfl ⟨by rw [HE.out] <;> rfl,HGS.out⟩
     exact z3z rfl _ _ R _ rfl _ rfl rfl HFS.out
   · have HE:Hid (z=((k,-dl),true)):=hid (HZL.out.trans (if_neg hlt))
     have hnn:=hng hlt
     have hd:(dl == -9223372036854775808)=false:=by
      simp
      omega
     have HFS:=hid (z7f (a':=.int .u8 k.1) (b':=.int .u8 k.2.1) (c':=.int .u8 k.2.2) (d':=.int .i64 (-dl)) HR1.out)
     have HGS:=hid (q0f HB1.out HO.out (.int .u8 k.1) (.int .u8 k.2.1) (.int .u8 k.2.2) (.int .i64 (-dl)))
     clear hlt hng
     go_wp2_with fail
     refine bodyPost_ret (v:=.tuple #[.agg #[.int .u8 k.1,.int .u8 k.2.1,.int .u8 k.2.2,.int .i64 (-dl)],.bool true]) ?_ rfl ⟨by rw [HE.out] <;> rfl,HGS.out⟩
     exact z3z rfl _ _ R _ rfl _ rfl rfl HFS.out
end Go.Proofs.YtnpjpelbcmgodaaGreatDoor
