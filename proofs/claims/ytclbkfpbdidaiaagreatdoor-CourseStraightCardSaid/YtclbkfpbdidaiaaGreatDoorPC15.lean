import Derived.Test.YtclbkfpbdidaiaaGreatDoorPC14
import Derived.Lib.Walk
import Derived.Lib.AppendZerosOnto
namespace Go.Proofs.YtclbkfpbdidaiaaGreatDoor
open Go.Lib (hid)
open Go.RowKit Go.ChangeShapes Go.WideShapes
set_option linter.unusedVariables false
set_option maxRecDepth 10000
theorem num_wr (B:Nat) (v:Value) (most:Int) (S:St) (x:Nat) (size:Int) (w:World) (h:Wr w B v most S) (h0:0≤most) (h9:most≤9223372036854775807) (hl:S.2.length≤900000) :
 Calls Tryz.prog 99 #[.pointer (some ⟨B,0,none⟩),.int .u64 (x:Int),.int .i64 size] w (Wrot w B v most (numW most S x size)):=by
 by_cases hs:1≤size∧size≤8
 · obtain⟨n,rfl⟩:∃ n:Nat,size=(n:Int):=⟨size.toNat,by omega⟩
   unfold numW
   rw [Int.toNat_natCast]
   by_cases hx:x<256 ^ n
   · rw [if_pos ⟨hs.1,hs.2,hx⟩]
     exact num_wr_good B v most S x n w h h0 h9 hl (by omega) (by omega) hx
   · rw [if_neg fun hh=>hx hh.2.2]
     exact num_wr_big B v most S x n w h (by omega) (by omega) hx
 · rw [numW_bad _ _ _ _ fun hh=>hs ⟨hh.1,hh.2.1⟩]
   exact num_wr_size B v most S x size w h (by rw [fit,decide_eq_false_iff_not];exact hs)
theorem sl_one (x:Nat) (hx:x<256) (w:World):Sl (w.alloc (.cells #[.int .u8 (x:Int)] 5)) (some ⟨w.heap.size,0,none⟩) 1 1 [x] :=
 ⟨rfl,Nat.le_refl _,(fun h=>by cases h),(fun y hy=>by simp at hy;omega),fun _=>⟨_,0,rfl,fun j hj=>by
  match j,hj with
  | 0,_=>simp⟩⟩
theorem sl_two (x y:Nat) (hx:x<256) (hy:y<256) (w:World):Sl (w.alloc (.cells #[.int .u8 (x:Int),.int .u8 (y:Int)] 5)) (some ⟨w.heap.size,0,none⟩) 2 2 [x,y] :=
 ⟨rfl,Nat.le_refl _,(fun h=>by cases h),(fun z hz=>by simp at hz;omega),fun _=>⟨_,0,rfl,fun j hj=>by
  match j,hj with
  | 0,_=>simp
  | 1,_=>simp⟩⟩
def bit (b:Bool):Nat:=if b then 1 else 0
theorem bool_wr (B:Nat) (v:Value) (most:Int) (S:St) (b:Bool) (w:World) (h:Wr w B v most S) (h0:0≤most) (h9:most≤9223372036854775807) (hl:S.2.length≤900000) :
 Calls Tryz.prog 100 #[.pointer (some ⟨B,0,none⟩),.bool b] w (Wrot w B v most (rawW most S [bit b])):=by
 cases b with
 | true =>
  have HC:Hid (Chg (fun _=>False) w (w.alloc (.cells #[.int .u8 1] 5))):=hid ((Chg.refl _ _).alloc _)
  have HW:=hid (h.chg HC.out (fun h=>h) fun _ _ h=>h)
  have HR:=hid (z8v B v most S _ HW.out _ _ _ _ (sl_one 1 (by omega) w) h0 h9 (by omega))
  clear h
  go_enter Tryz.func100,Tryz.ntmps100
  go_wp2_with fail
  refine HR.out.mono ?_
  rintro e w' ⟨rfl,hw⟩
  have HX:=hid hw
  clear hw
  go_wp2_with fail
  go_end0
  exact⟨rfl,HX.out.before HC.out⟩
 | false =>
  have HC:Hid (Chg (fun _=>False) w (w.alloc (.cells #[.int .u8 0] 5))):=hid ((Chg.refl _ _).alloc _)
  have HW:=hid (h.chg HC.out (fun h=>h) fun _ _ h=>h)
  have HR:=hid (z8v B v most S _ HW.out _ _ _ _ (sl_one 0 (by omega) w) h0 h9 (by omega))
  clear h
  go_enter Tryz.func100,Tryz.ntmps100
  go_wp2_with fail
  refine HR.out.mono ?_
  rintro e w' ⟨rfl,hw⟩
  have HX:=hid hw
  clear hw
  go_wp2_with fail
  go_end0
  exact⟨rfl,HX.out.before HC.out⟩
theorem grow_nil (n:Nat) (w:World) (h0:0<n) (hn:n≤1000000) :
 Calls Tryz.prog 146 #[.slice none 0 0,.int .i64 n] w (q2m w 0 []):=by
 obtain⟨i0,hi,hz0,hz1,hz2⟩:=info_parts info_u8
 have h1:¬ ((n:Int)<0):=by omega
 have h4:(n:Int) > 0:=by omega
 have hrz:∀ ty,(Builtin.append_ #[96,3] ty #[.slice none 0 0,.int .i64 (n:Int)]).run Tryz.prog w =
  .ok (.slice (some ⟨w.heap.size,0,none⟩) n (grownCap w n 0 5)) (w.drew.alloc (.cells (#[]++Builtin.zeroCells (Value.int .u8 0).cells n++Builtin.zeroCells (Value.int .u8 0).cells (grownCap w n 0 5-n)) 5)):=fun ty=>by
  have h:=Lib.run_append_grow_zeros w 96 3 ty 5 i0 (.int .u8 0) .i64 .i64 Tryz.underlying96 Tryz.underlying3 hi hz0 none 0 0 [] (run_firstCells_none w.drew i0.size 0 0 0) n h0 (by rw [hz1];omega) (by omega) (by omega) (by rw [hz2];omega) (growslice_fits (by omega) (by rw [hz2];omega))
  simpa using h
 have hge:n≤grownCap w n 0 5:=grownCap_ge w _ _ _
 have hle:grownCap w n 0 5≤maxLen:=grownCap_le_maxLen w n 0 _ (by unfold maxLen;omega)
 generalize grownCap w n 0 5=G at *
 have hG63:G≤9223372036854775807:=hle
 have HR:Hid (Row (w.drew.alloc (.cells (#[]++Builtin.zeroCells (Value.int .u8 0).cells n++Builtin.zeroCells (Value.int .u8 0).cells (G-n)) 5)) (.slice (some ⟨w.heap.size,0,none⟩) 0 G) 0 []) :=
  hid ⟨rfl,(fun x h=>by cases h),World.ownsRow_made w.drew _ G (Nat.zero_le _) hle (by simp [size_zeroCells,Value.cells];omega)⟩
 have HB:Hid (Below w.heap.size w (w.drew.alloc (.cells (#[]++Builtin.zeroCells (Value.int .u8 0).cells n++Builtin.zeroCells (Value.int .u8 0).cells (G-n)) 5))):=hid ((Below.refl _ _).drew.alloc (Nat.le_refl _) _)
 generalize #[]++Builtin.zeroCells (Value.int .u8 0).cells n++Builtin.zeroCells (Value.int .u8 0).cells (G-n)=C at *
 go_enter Tryz.func146,Tryz.ntmps146
 go_wp2_with (at_builtin;refine Lib.wpList_append_run _ rfl _ _ _ _ rfl _ _ rfl rfl _ _ (hrz _) ?_)
 all_goals (go_ret;exact⟨_,rfl,HR.out,HB.out,fun k hk=>by simp [Value.ownBlock] at hk;omega⟩)
theorem concat_any (g:Nat) (p q:Option Addr) (m c:Nat) (K M:List Nat) (w:World) (hc0:w.cell? ⟨g,0,none⟩=some (.slice p 2 2)) (hc1:w.cell? ⟨g,1,none⟩=some (.slice q m c)) (hp:Sl w p 2 2 K) (hq:Sl w q m c M) (hm:m≤900000) :
 Calls Tryz.prog 131 #[.slice (some ⟨g,0,none⟩) 2 2] w (q2m w (2+m) (K++M)):=by
 have HP:=hid hp
 have HQ:=hid hq
 have hg:g<w.heap.size:=World.block_lt_of_cell? w ⟨g,0,none⟩ hc0
 clear hp hq
 have hG:=grow_nil (2+m) w (by omega) (by omega)
 rw [Int.natCast_add] at hG
 have HG:=hid hG
 have hL:∀ j:Nat,j<3→(if j=0 then [] else if j=1 then K else K++M).length≤900002:=by
  intro j hj
  split
  · simp
  · split
    · rw [HP.out.len];omega
    · rw [List.length_append,HP.out.len,HQ.out.len];omega
 have HL:=hid hL
 clear hG hL
 go_enter Tryz.func131,Tryz.ntmps131
 go_wp2_with fail
 go_loop [3,11] (fun s i=>(s=.int .i64 0∧i=.int .i64 0)∨(s=.int .i64 2∧i=.int .i64 1)∨(s=.int .i64 ((2+m:Nat):Int)∧i=.int .i64 2)) (fun _ i=>2-(intOf i).toNat)
 case atStart=>exact .inl ⟨rfl,rfl⟩
 case round =>
  rcases hrel with ⟨rfl,rfl⟩ | ⟨rfl,rfl⟩ | ⟨rfl,rfl⟩
  · go_wp2_with fail
    go_round
    case rel=>exact .inr (.inl ⟨rfl,rfl⟩)
    case measure=>simp [intOf]
  · go_wp2_with fail
    go_round
    case rel=>exact .inr (.inr ⟨by go_num,rfl⟩)
    case measure=>simp [intOf]
  · go_wp2_with fail
    refine HG.out.mono ?_
    rintro e w1 ⟨v1,rfl,hr,hb,ho⟩
    have HR:=hid hr
    have HB:=hid hb
    have HO:=hid ho
    obtain⟨pa,ca,rfl,_⟩:=hr.sl
    clear hr hb ho
    go_wp2_with fail
    go_loopw [6,27] (fun v i wr=>∃ (j:Nat) (n:Nat) (pa:Option Addr) (ca:Nat),(j=0∨j=1∨j=2)∧i=.int .i64 j∧v=.slice pa n ca∧Row wr v n (if j=0 then [] else if j=1 then K else K++M)∧(∀ k,v.ownBlock=some k→w.heap.size≤k)∧Below w.heap.size w wr) (fun _ i _=>2-(intOf i).toNat)
    case atStart=>exact⟨0,0,pa,ca,.inl rfl,rfl,rfl,HR.out,HO.out,HB.out⟩
    case round =>
     obtain⟨j,n,pa,ca,hj,rfl,rfl,hr,ho,hb⟩:=hrel
     have HR2:=hid hr
     have HO2:=hid ho
     have HB2:=hid hb
     have hd0:wr.cell? ⟨g,0,none⟩=some (.slice p 2 2):=by rw [hb.cell (p:=⟨g,0,none⟩) hg];exact hc0
     have hd1:wr.cell? ⟨g,1,none⟩=some (.slice q m c):=by rw [hb.cell (p:=⟨g,1,none⟩) hg];exact hc1
     have HP2:=hid (HP.out.later hb)
     have HQ2:=hid (HQ.out.later hb)
     clear hr ho hb hc0 hc1
     rcases hj with rfl | rfl | rfl
     · go_wp2_with (at_builtin;refine z2j rfl _ _ rfl _ _ [] rfl HR2.out _ _ _ K rfl HP2.out (by have:=HR2.out.len;simp at this;omega) ?_)
       intro v' w' hr hc hk
       have hlen:=HR2.out.len
       obtain rfl:n=0:=by simpa using hlen.symm
       obtain⟨p',c',rfl,_⟩:=hr.sl
       have HN:Hid (Row w' (.slice p' (0+2) c') (0+2) K∧(∀ k,(Value.slice p' (0+2) c').ownBlock=some k→w.heap.size≤k)∧Below w.heap.size w w'):=hid ⟨hr,fun k hk'=>by
        rcases hk k hk' with h | h
        · exact HO2.out k h
        · exact Nat.le_trans HB2.out.size h,hc.below HB2.out HB2.out.size HO2.out⟩
       clear hr hc hk hlen
       go_wp2_with fail
       go_roundw
       case rel=>exact⟨1,_,p',c',.inr (.inl rfl),by go_num,rfl,HN.out.1,HN.out.2.1,HN.out.2.2⟩
       case measure=>simp [intOf]
     · have HR3:Hid (Row wr (.slice pa n ca) n K):=hid (by simpa using HR2.out)
       clear HR2
       go_wp2_with (at_builtin;refine z2j rfl _ _ rfl _ _ K rfl HR3.out _ _ _ M rfl HQ2.out (by have:=HR3.out.len;have:=HP.out.len;omega) ?_)
       intro v' w' hr hc hk
       have hlen:=HR3.out.len
       have hlen2:=HP.out.len
       obtain rfl:n=2:=by omega
       obtain⟨p',c',rfl,_⟩:=hr.sl
       have HN:Hid (Row w' (.slice p' (2+m) c') (2+m) (K++M)∧(∀ k,(Value.slice p' (2+m) c').ownBlock=some k→w.heap.size≤k)∧Below w.heap.size w w'):=hid ⟨hr,fun k hk'=>by
        rcases hk k hk' with h | h
        · exact HO2.out k h
        · exact Nat.le_trans HB2.out.size h,hc.below HB2.out HB2.out.size HO2.out⟩
       clear hr hc hk hlen hlen2
       go_wp2_with fail
       go_roundw
       case rel=>exact⟨2,_,p',c',.inr (.inr rfl),by go_num,rfl,by simpa using HN.out.1,HN.out.2.1,HN.out.2.2⟩
       case measure=>simp [intOf]
     · have HR3:Hid (Row wr (.slice pa n ca) n (K++M)):=hid (by simpa using HR2.out)
       have hlen:=HR3.out.len
       have hlen2:=HP.out.len
       have hlen3:=HQ.out.len
       rw [List.length_append] at hlen
       obtain rfl:n=2+m:=by omega
       clear HR2 hlen hlen2 hlen3
       go_wp2_with fail
       go_ret
       exact⟨_,rfl,HR3.out,HB2.out,HO2.out⟩
theorem le_two (n:Nat) (h:n<65536):le n 2=[n % 256,n / 256]:=by
 simp only [le]
 rw [Nat.mod_eq_of_lt (show n / 256<256 by omega)]
theorem two_rows (p:Option Addr) (n c:Nat) (M:List Nat) (w:World) (hm:Sl w p n c M) (hn:n<65536) (W:World) (hW:W=(w.alloc (.cells #[.int .u8 ((n:Int) % 256),.int .u8 ((n:Int) / 256)] 5)).alloc (.cells #[.slice (some ⟨w.heap.size,0,none⟩) 2 2,.slice p n c] 96)) :
 Below w.heap.size w W∧Sl W (some ⟨w.heap.size,0,none⟩) 2 2 (le n 2)∧Sl W p n c M∧W.cell? ⟨w.heap.size+1,0,none⟩=some (.slice (some ⟨w.heap.size,0,none⟩) 2 2)∧W.cell? ⟨w.heap.size+1,1,none⟩=some (.slice p n c):=by
 have h1:=sl_two (n % 256) (n / 256) (by omega) (by omega) w
 rw [← le_two n hn,show (((n % 256:Nat):Int))=(n:Int) % 256 by omega,show (((n / 256:Nat):Int))=(n:Int) / 256 by omega] at h1
 have hb1:Below w.heap.size w (w.alloc (.cells #[.int .u8 ((n:Int) % 256),.int .u8 ((n:Int) / 256)] 5)):=(Below.refl _ _).alloc (Nat.le_refl _) _
 have hs:(w.alloc (.cells #[.int .u8 ((n:Int) % 256),.int .u8 ((n:Int) / 256)] 5)).heap.size=w.heap.size+1:=by simp
 generalize w.alloc (.cells #[.int .u8 ((n:Int) % 256),.int .u8 ((n:Int) / 256)] 5)=w1 at *
 have hb2:Below w1.heap.size w1 W:=by rw [hW];exact (Below.refl _ _).alloc (Nat.le_refl _) _
 have hblk:W.heap[w.heap.size+1]?=some (.cells #[.slice (some ⟨w.heap.size,0,none⟩) 2 2,.slice p n c] 96 (0,0)):=by rw [hW,← hs];exact heap_alloc_new w1 _
 have hb:Below w.heap.size w W:=hb1.trans (hb2.mono (by omega))
 exact⟨hb,h1.later hb2,hm.later hb,z2l hblk rfl,z2l hblk rfl⟩
theorem bytes_wr (B:Nat) (v:Value) (most:Int) (S:St) (p:Option Addr) (n c:Nat) (M:List Nat) (w:World) (h:Wr w B v most S) (hm:Sl w p n c M) (h0:0≤most) (h9:most≤9223372036854775807) (hl:S.2.length≤400000) (hn:n≤400000) :
 Calls Tryz.prog 104 #[.pointer (some ⟨B,0,none⟩),.slice p n c] w (Wrot w B v most (q1t most S M)):=by
 have hlen:=hm.len
 unfold q1t
 rw [hlen]
 by_cases hbig:65535<n
 · rw [if_pos hbig]
   have HN:=hid (q0a B v most S 7 w h)
   clear h hm hlen
   go_enter Tryz.func104,Tryz.ntmps104
   go_wp2_with fail
   refine HN.out.mono ?_
   rintro e w' ⟨rfl,hw⟩
   have HW:=hid hw
   clear hw
   go_wp2_with fail
   refine bodyPost_ret (results_none rfl _ _ _) rfl ?_
   exact⟨rfl,HW.out⟩
 · rw [if_neg hbig]
   have H:=hid h
   obtain⟨W,hW⟩:∃ W,W=(w.alloc (.cells #[.int .u8 ((n:Int) % 256),.int .u8 ((n:Int) / 256)] 5)).alloc (.cells #[.slice (some ⟨w.heap.size,0,none⟩) 2 2,.slice p n c] 96):=⟨_,rfl⟩
   obtain⟨hb,h1,h2,h3,h4⟩:=two_rows p n c M w hm (by omega) W hW
   have HC:=hid (concat_any _ _ p n c _ M W h3 h4 h1 h2 (by omega))
   have HB:=hid hb
   have HWW:=hid hW
   clear h hm hb h1 h2 h3 h4 hW
   rw [HWW.out] at HC
   go_enter Tryz.func104,Tryz.ntmps104
   go_wp2_with fail
   refine HC.out.mono ?_
   rintro e w1 ⟨v1,rfl,hr,hb,ho⟩
   rw [← HWW.out] at hb
   obtain⟨p1,c1,rfl,_,hs,_⟩:=hr.sl
   have hc:Chg (fun _=>False) w w1:=(Chg.of_below HB.out).trans (Chg.of_below (S:=fun _=>False) hb) fun _ _ h=>h
   have hl2:S.2.length+(2+n)≤1000000:=by omega
   have HR:=hid (z8v B v most S w1 (H.out.chg hc (fun h=>h) fun _ _ h=>h) p1 (2+n) c1 (le n 2++M) hs h0 h9 hl2)
   have HD:=hid hc
   clear hr hb ho hs hc hl2
   go_wp2_with fail
   refine HR.out.mono ?_
   rintro e w' ⟨rfl,hw⟩
   have HX:=hid hw
   clear hw
   go_wp2_with fail
   go_end0
   exact⟨rfl,HX.out.before HD.out⟩
theorem wrap_sgn (x:Nat) (hx:x<18446744073709551616):IntKind.u64.wrap (sgn x)=(x:Int):=by
 unfold sgn
 split
 · simp [IntKind.wrap,IntKind.bits,IntKind.signed];omega
 · simp [IntKind.wrap,IntKind.bits,IntKind.signed];omega
theorem int_wr (B:Nat) (v:Value) (most:Int) (S:St) (x:Nat) (w:World) (h:Wr w B v most S) (hx:x<18446744073709551616) (h0:0≤most) (h9:most≤9223372036854775807) (hl:S.2.length≤900000) :
 Calls Tryz.prog 102 #[.pointer (some ⟨B,0,none⟩),.int .i64 (sgn x)] w (Wrot w B v most (numW most S x 8)):=by
 have HN:=hid (num_wr B v most S x 8 w h h0 h9 hl)
 have HS:=hid (wrap_sgn x hx)
 clear h
 go_enter Tryz.func102,Tryz.ntmps102
 go_wp2_with fail
 rw [HS.out]
 refine HN.out.mono ?_
 rintro e w' ⟨rfl,hw⟩
 have HX:=hid hw
 clear hw
 go_wp2_with fail
 go_end0
 exact⟨rfl,HX.out⟩
end Go.Proofs.YtclbkfpbdidaiaaGreatDoor
