import Derived.Test.YtclbkfpbdidaiaaGreatDoorPC13
import Derived.WalkSpells
namespace Go.Proofs.YtclbkfpbdidaiaaGreatDoor
open Go.Lib (hid)
open Go.RowKit Go.ChangeShapes Go.WideShapes
set_option linter.unusedVariables false
set_option maxRecDepth 10000
theorem note_first (B:Nat) (x:Int) (w:World) (hc:w.cell? ⟨B,0,none⟩=some (.int .i64 0)) (hf:w.frozen? ⟨B,0,none⟩=false) :
 Calls Tryz.prog 126 #[.pointer (some ⟨B,0,none⟩),.int .i64 x] w fun e w'=>e=.returned (.tuple #[])∧w'=w.setCell ⟨B,0,none⟩ (.int .i64 x):=by
 go_enter Tryz.func126,Tryz.ntmps126
 go_wp2_with fail
 go_end0
 exact⟨rfl,rfl⟩
theorem note_more (B:Nat) (y x:Int) (w:World) (hc:w.cell? ⟨B,0,none⟩=some (.int .i64 y)) (hy:(y==0)=false) :
 Calls Tryz.prog 126 #[.pointer (some ⟨B,0,none⟩),.int .i64 x] w fun e w'=>e=.returned (.tuple #[])∧w=w':=by
 have hy':¬ y=0:=by simpa using hy
 go_enter Tryz.func126,Tryz.ntmps126
 go_wp2_with fail
 go_end0
 exact⟨rfl,rfl⟩
def fit (x:Int):Bool:=decide (1≤x∧x≤8)
theorem z8t (x:Int) (w:World) :
 Calls Tryz.prog 125 #[.int .i64 x] w fun e w'=>e=.returned (.bool (fit x))∧w=w':=by
 by_cases h1:1≤x
 · by_cases h2:x≤8
   · have hF:fit x=true:=by simp [fit,h1,h2]
     rw [hF]
     go_enter Tryz.func125,Tryz.ntmps125
     go_wp2_with fail
     go_ret
     exact⟨rfl,rfl⟩
   · have hF:fit x=false:=by simp [fit,h2]
     rw [hF]
     go_enter Tryz.func125,Tryz.ntmps125
     go_wp2_with fail
     go_ret
     exact⟨rfl,rfl⟩
 · have hF:fit x=false:=by simp [fit,h1]
   rw [hF]
   go_enter Tryz.func125,Tryz.ntmps125
   go_wp2_with fail
   go_ret
   exact⟨rfl,rfl⟩
def q2m (w:World) (n:Nat) (L:List Nat) (e:Ending) (w':World):Prop:=∃ v,e=.returned v∧Row w' v n L∧Below w.heap.size w w'∧∀ k,v.ownBlock=some k→w.heap.size≤k
theorem own_none (w:World):Row (w.alloc (.cells #[] 5)) (.slice (some ⟨w.heap.size,0,none⟩) 0 0) 0 [] :=
 ⟨rfl,(fun x h=>by cases h),World.ownsRow_lit w #[] 0 (Nat.zero_le _) (Nat.zero_le _) rfl⟩
theorem clone_any (p:Option Addr) (n c:Nat) (L:List Nat) (w:World) (hS:Sl w p n c L) (hn:n≤100000) :
 Calls Tryz.prog 132 #[.slice p n c] w (q2m w n L):=by
 have HS:=hid hS
 have HO:=hid (own_none w)
 have HS1:Hid (Sl (w.alloc (.cells #[] 5)) p n c L):=hid (hS.later ((Below.refl _ _).alloc (Nat.le_refl _) _))
 have q:=fun (w:World) (a:Option Addr) (n c n' c':Nat)=>Lib.run_eql_slice_nil w 96 5 a n c n' c' Tryz.underlying96
 clear hS
 cases p with
 | none =>
  have hc:=HS.out.nil rfl
  have hn0:=HS.out.cap
  obtain rfl:n=0:=by omega
  have hl:=HS.out.len
  obtain rfl:L=[]:=List.eq_nil_of_length_eq_zero hl
  clear hl hn0 hc
  go_enter Tryz.func132,Tryz.ntmps132
  go_wp2_with fail
  go_ret
  exact⟨_,rfl,Row.nil _,Below.refl _ _,fun k hk=>by cases hk⟩
 | some a =>
  go_enter Tryz.func132,Tryz.ntmps132
  go_wp2_with (at_builtin;refine z2j rfl _ _ rfl _ _ [] rfl HO.out _ _ _ L rfl HS1.out (by omega) ?_)
  intro v' w' hr hc hk
  have HR:=hid hr
  have HC:=hid hc
  have HK:=hid hk
  clear hr hc hk
  go_wp2_with fail
  go_ret
  refine⟨_,rfl,by simpa using HR.out,?_,fun k hv=>?_⟩
  · exact HC.out.below ((Below.refl _ _).alloc (Nat.le_refl _) _) (by simp) fun k hk=>by simp [Value.ownBlock] at hk;omega
  · rcases HK.out k hv with h | h
    · simp [Value.ownBlock] at h;omega
    · exact Nat.le_trans (by simp) h
theorem Wr.c0 {w:World} {B:Nat} {v:Value} {most:Int} {S:St} (h:Wr w B v most S):w.cell? ⟨B,0,none⟩=some (.int .i64 S.1):=z2l h.blk rfl
theorem Wr.c1 {w:World} {B:Nat} {v:Value} {most:Int} {S:St} (h:Wr w B v most S):w.cell? ⟨B,1,none⟩=some (.int .i64 most):=z2l h.blk rfl
theorem Wr.c2 {w:World} {B:Nat} {v:Value} {most:Int} {S:St} (h:Wr w B v most S):w.cell? ⟨B,2,none⟩=some v:=z2l h.blk rfl
theorem Wr.free {w:World} {B:Nat} {v:Value} {most:Int} {S:St} (h:Wr w B v most S) (j:Nat):w.frozen? ⟨B,j,none⟩=false:=free_of_block j h.blk
theorem Wr.drewN {w:World} {B:Nat} {v:Value} {most:Int} {S:St} (h:Wr w B v most S) (q:Nat):Wr (w.drewN q) B v most S:=⟨h.blk,h.row.keep fun _ _=>rfl,h.ne⟩
structure Wrote (w:World) (B:Nat) (v:Value) (most:Int) (S:St) (w':World):Prop where
 wr:∃ v',Wr w' B v' most S∧∀ k,v'.ownBlock=some k→v.ownBlock=some k∨w.heap.size≤k
 chg:Chg (fun k=>k=B∨v.ownBlock=some k) w w'
theorem Wrote.same {w:World} {B:Nat} {v:Value} {most:Int} {S:St} (h:Wr w B v most S):Wrote w B v most S w:=⟨⟨v,h,fun k hk=>.inl hk⟩,Chg.refl _ _⟩
def Wrot (w:World) (B:Nat) (v:Value) (most:Int) (S:St) (e:Ending) (w':World):Prop:=e=.returned (.tuple #[])∧Wrote w B v most S w'
theorem Wr.fault {w:World} {B:Nat} {v:Value} {most:Int} {S:St} (h:Wr w B v most S) (x:Int):Wrote w B v most (x,S.2) (w.setCell ⟨B,0,none⟩ (.int .i64 x)) :=
 ⟨⟨v,⟨block_set 0 _ h.blk,h.row.keep fun k hk=>Below.heap_setCell _ _ _ _ fun e=>h.ne (by rw [hk,e]),h.ne⟩,fun k hk=>.inl hk⟩,(Chg.refl _ _).setCell _ _ fun _=>.inl rfl⟩
theorem Wrote.before {a b c:World} {B:Nat} {v:Value} {most:Int} {S:St} (hc:Chg (fun _=>False) a b) (h:Wrote b B v most S c):Wrote a B v most S c:=by
 obtain⟨v',h1,h2⟩:=h.wr
 refine⟨⟨v',h1,fun k hk=>?_⟩,(hc.mono (T:=fun k=>k=B∨v.ownBlock=some k) fun _ _ h=>h.elim).trans h.chg fun _ _ h=>h⟩
 rcases h2 k hk with h | h
 · exact .inl h
 · exact .inr (Nat.le_trans hc.size h)
theorem q0a (B:Nat) (v:Value) (most:Int) (S:St) (x:Int) (w:World) (h:Wr w B v most S) :
 Calls Tryz.prog 126 #[.pointer (some ⟨B,0,none⟩),.int .i64 x] w (Wrot w B v most (bad x S)):=by
 obtain⟨y,L⟩:=S
 by_cases hy:y=0
 · subst hy
   refine (note_first B x w h.c0 (h.free 0)).mono ?_
   rintro e w' ⟨rfl,rfl⟩
   exact⟨rfl,h.fault x⟩
 · have hb:bad x (y,L)=(y,L):=if_neg hy
   rw [hb]
   refine (note_more B y x w h.c0 (by simpa using hy)).mono ?_
   rintro e w' ⟨rfl,rfl⟩
   exact⟨rfl,Wrote.same h⟩
theorem new_any (m:Int) (w:World) :
 Calls Tryz.prog 98 #[.int .i64 m] w fun e w'=>e=.returned (.pointer (some ⟨w.heap.size,0,none⟩))∧w'=w.alloc (.cells #[.int .i64 0,.int .i64 (if m<0 then 0 else m),.slice none 0 0] 158):=by
 go_enter Tryz.func98,Tryz.ntmps98
 go_wp2_with fail
 all_goals (go_ret;exact⟨rfl,rfl⟩)
theorem new_wr (w:World) (m:Int):Wr (w.alloc (.cells #[.int .i64 0,.int .i64 m,.slice none 0 0] 158)) w.heap.size (.slice none 0 0) m (0,[]) :=
 ⟨heap_alloc_new w _,Row.nil _,fun h=>by cases h⟩
theorem raw_full (B:Nat) (v:Value) (most x:Int) (L:List Nat) (w:World) (h:Wr w B v most (x,L)) (hx:(x==0)=false) (p:Option Addr) (m c:Nat) :
 Calls Tryz.prog 101 #[.pointer (some ⟨B,0,none⟩),.slice p m c] w fun e w'=>e=.returned (.tuple #[])∧w=w':=by
 have h0:w.cell? ⟨B,0,none⟩=some (.int .i64 x):=h.c0
 have hx':(x != 0)=true:=by simpa using hx
 clear h
 go_enter Tryz.func101,Tryz.ntmps101
 go_wp2_with fail
 refine bodyPost_ret (results_none rfl _ _ _) rfl ?_
 exact⟨rfl,rfl⟩
theorem raw_long (B:Nat) (v:Value) (most:Int) (L:List Nat) (w:World) (h:Wr w B v most (0,L)) (p:Option Addr) (m c:Nat) (h0:0≤most) (h9:most≤9223372036854775807) (hl:L.length≤1000000) (hm:m≤1000000) (hlong:most<(L.length:Int)+(m:Int)) :
 Calls Tryz.prog 101 #[.pointer (some ⟨B,0,none⟩),.slice p m c] w (Wrot w B v most (7,L)):=by
 have H:=hid h
 have c0:w.cell? ⟨B,0,none⟩=some (.int .i64 0):=h.c0
 have c1:=h.c1
 have c2:=h.c2
 obtain⟨pv,cv,rfl,_⟩:=h.row.sl
 clear h
 replace c2:w.cell? ⟨B,2,none⟩=some (.slice pv L.length cv):=c2
 have H2:Hid (∀ q,Calls Tryz.prog 126 #[.pointer (some ⟨B,0,none⟩),.int .i64 7] (w.drewN q) (Wrot (w.drewN q) B (.slice pv L.length cv) most (7,L))):=hid fun q=>q0a B _ most (0,L) 7 _ (H.out.drewN q)
 generalize hn:L.length=n at *
 have HN:=hid hn
 clear hn
 have e1:IntKind.i64.wrap (most-(n:Int))=most-(n:Int):=IntWalk.i64_in _ (by omega)
 have e2:most-(n:Int)<(m:Int):=by omega
 go_enter Tryz.func101,Tryz.ntmps101
 go_wp2_with fail
 go_quiet (fail)
 go_wp2_with fail
 refine (H2.out _).mono ?_
 rintro e w1 ⟨rfl,hw⟩
 have HW:=hid hw
 clear hw
 go_wp2_with fail
 refine bodyPost_ret (results_none rfl _ _ _) rfl ?_
 exact⟨rfl,HW.out.before ((Chg.refl _ _).drewN _)⟩
theorem Wr.push {w w':World} {B:Nat} {v v':Value} {most:Int} {L M:List Nat} {n q:Nat} (h:Wr w B v most (0,L)) (hr:Row w' v' n (L++M)) (hc:Chg (fun k=>v.ownBlock=some k) (w.drewN q) w')
 (hk:∀ k,v'.ownBlock=some k→v.ownBlock=some k∨w.heap.size≤k):w'.frozen? ⟨B,2,none⟩=false∧w'.cell? ⟨B,2,none⟩=some v∧Wrote w B v most (0,L++M) (w'.setCell ⟨B,2,none⟩ v'):=by
 have hb:w'.heap[B]?=some (.cells #[.int .i64 0,.int .i64 most,v] 158 (0,0)):=by
  rw [hc.block B h.lt h.ne,World.heap_drewN];exact h.blk
 have hne:v'.ownBlock≠some B:=fun e=>by
  rcases hk B e with h' | h'
  · exact h.ne h'
  · have:=h.lt;omega
 refine⟨free_of_block 2 hb,z2l hb rfl,⟨v',⟨block_set 2 v' hb,?_,hne⟩,hk⟩,?_⟩
 · have:=hr.len
   subst this
   exact hr.keep fun k hk'=>Below.heap_setCell _ _ _ _ fun e=>hne (by rw [hk',e])
 · exact (((Chg.refl (fun _=>False) w).drewN q).mono (T:=fun k=>k=B∨v.ownBlock=some k) fun _ _ h=>h.elim).trans ((hc.mono (T:=fun k=>k=B∨v.ownBlock=some k) fun _ _ h=>.inr h).setCell _ _ fun _=>.inl rfl) fun _ _ h=>h
theorem raw_good (B:Nat) (v:Value) (most:Int) (L:List Nat) (w:World) (h:Wr w B v most (0,L)) (p:Option Addr) (m c:Nat) (M:List Nat) (hs:Sl w p m c M) (h0:0≤most) (h9:most≤9223372036854775807) (hl:L.length+m≤1000000) (hlong:(L.length:Int)+(m:Int)≤most) :
 Calls Tryz.prog 101 #[.pointer (some ⟨B,0,none⟩),.slice p m c] w (Wrot w B v most (0,L++M)):=by
 have H:=hid h
 have c0:w.cell? ⟨B,0,none⟩=some (.int .i64 0):=h.c0
 have c1:=h.c1
 have c2:=h.c2
 obtain⟨pv,cv,hv,_⟩:=h.row.sl
 subst hv
 have HR:Hid (∀ q,Row (w.drewN q) (.slice pv L.length cv) L.length L):=hid fun q=>(h.drewN q).row
 have HS:Hid (∀ q,Sl (w.drewN q) p m c M):=hid fun q=>hs.keep fun _ _ _=>rfl
 clear h hs
 replace c2:w.cell? ⟨B,2,none⟩=some (.slice pv L.length cv):=c2
 generalize hn:L.length=n at *
 have HN:=hid hn
 clear hn
 have e1:IntKind.i64.wrap (most-(n:Int))=most-(n:Int):=IntWalk.i64_in _ (by omega)
 have e2:¬ (most-(n:Int)<(m:Int)):=by omega
 go_enter Tryz.func101,Tryz.ntmps101
 go_wp2_with fail
 go_quiet (fail)
 clear e1
 go_wp2_with (at_builtin;refine z2j rfl _ _ rfl _ _ L rfl (HR.out _) _ _ _ M rfl (HS.out _) (by omega) ?_)
 intro v' w' hr hc hk
 obtain⟨hf,hcell,hw⟩:=H.out.push hr hc hk
 obtain⟨p',c',rfl,_⟩:=hr.sl
 have HW:=hid hw
 clear hr hc hk hw
 go_wp2_with fail
 go_end0
 exact⟨rfl,HW.out⟩
theorem z8v (B:Nat) (v:Value) (most:Int) (S:St) (w:World) (h:Wr w B v most S) (p:Option Addr) (m c:Nat) (M:List Nat) (hs:Sl w p m c M) (h0:0≤most) (h9:most≤9223372036854775807) (hl:S.2.length+m≤1000000) :
 Calls Tryz.prog 101 #[.pointer (some ⟨B,0,none⟩),.slice p m c] w (Wrot w B v most (rawW most S M)):=by
 obtain⟨x,L⟩:=S
 replace hl:L.length+m≤1000000:=hl
 have hM:=hs.len
 unfold rawW
 by_cases hx:x=0
 · subst hx
   rw [if_pos rfl]
   by_cases hlong:most<(L.length:Int)+(m:Int)
   · rw [if_pos (by rw [hM];exact hlong)]
     exact raw_long B v most L w h p m c h0 h9 (by omega) (by omega) hlong
   · rw [if_neg (by rw [hM];exact hlong)]
     exact raw_good B v most L w h p m c M hs h0 h9 hl (by omega)
 · rw [if_neg (show ¬ (x,L).1=0 from hx)]
   refine (raw_full B v most x L w h (by simpa using hx) p m c).mono ?_
   rintro e w' ⟨rfl,rfl⟩
   exact⟨rfl,Wrote.same h⟩
def Doned (w:World) (S:St) (e:Ending) (w':World):Prop:=Below w.heap.size w w'∧if S.1=0 then ∃ v,e=.returned (.tuple #[v,.int .i64 0])∧Row w' v S.2.length S.2∧∀ k,v.ownBlock=some k→w.heap.size≤k else e=.returned (.tuple #[.slice none 0 0,.int .i64 S.1])
theorem done_any (B:Nat) (v:Value) (most:Int) (S:St) (w:World) (h:Wr w B v most S) (hl:S.2.length≤100000) :
 Calls Tryz.prog 105 #[.pointer (some ⟨B,0,none⟩)] w (Doned w S):=by
 obtain⟨x,L⟩:=S
 have c0:w.cell? ⟨B,0,none⟩=some (.int .i64 x):=h.c0
 have c2:=h.c2
 obtain⟨p,c,rfl,_,hs,_⟩:=h.row.sl
 have HC:=hid (clone_any p _ c _ w hs hl)
 clear h hs hl
 by_cases hx:x=0
 · subst hx
   go_enter Tryz.func105,Tryz.ntmps105
   go_wp2_with fail
   refine HC.out.mono ?_
   rintro e w1 ⟨v,rfl,h1,h2,h3⟩
   have HB:=hid h2
   have HV:Hid (∃ v',v'=v∧Row w1 v' L.length L∧∀ k,v'.ownBlock=some k→w.heap.size≤k):=hid ⟨v,rfl,h1,h3⟩
   clear h1 h2 h3
   go_wp2_with fail
   go_ret2
   obtain⟨v',rfl,h1,h2⟩:=HV.out
   refine⟨HB.out,?_⟩
   rw [if_pos rfl]
   exact⟨_,rfl,h1,h2⟩
 · have hx1:(x==0)=false:=by simpa using hx
   have hx2:(x != 0)=true:=by simpa using hx
   go_enter Tryz.func105,Tryz.ntmps105
   go_wp2_with fail
   go_quiet (fail)
   go_wp2_with fail
   go_ret2
   refine⟨z0e (Below.refl _ _) _,?_⟩
   rw [if_neg (show ¬ (x,L).1=0 from hx)]
   rfl
theorem numW_bad (most:Int) (S:St) (x:Nat) (size:Int) (h:¬ (1≤size∧size≤8∧x<256 ^ size.toNat)):numW most S x size=bad 1 S:=if_neg h
theorem num_wr_size (B:Nat) (v:Value) (most:Int) (S:St) (x:Nat) (size:Int) (w:World) (h:Wr w B v most S) (hs:fit size=false) :
 Calls Tryz.prog 99 #[.pointer (some ⟨B,0,none⟩),.int .u64 (x:Int),.int .i64 size] w (Wrot w B v most (bad 1 S)):=by
 have HN:=hid (q0a B v most S 1 w h)
 clear h
 go_enter Tryz.func99,Tryz.ntmps99
 go_wp2_with fail
 refine (z8t size _).mono ?_
 rw [hs]
 rintro e w' ⟨rfl,rfl⟩
 go_wp2_with fail
 refine HN.out.mono ?_
 rintro e w' ⟨rfl,hw⟩
 have HW:=hid hw
 clear hw
 go_wp2_with fail
 refine bodyPost_ret (results_none rfl _ _ _) rfl ?_
 exact⟨rfl,HW.out⟩
theorem shr_big (x n:Nat) (h:¬ x<256 ^ n):((x:Int) / 2 ^ (8*n)==0)=false∧((x:Int) / 2 ^ (8*n) != 0)=true:=by
 have e:(x:Int) / 2 ^ (8*n)=((x / 256 ^ n:Nat):Int):=by rw [q1d];simp
 have:0<x / 256 ^ n:=Nat.div_pos (by omega) (Nat.pow_pos (by omega))
 rw [e]
 generalize x / 256 ^ n=y at this ⊢
 constructor
 · simp;omega
 · simp;omega
theorem shr_small (x n:Nat) (h:x<256 ^ n):(x:Int) / 2 ^ (8*n)=0:=by
 have e:(x:Int) / 2 ^ (8*n)=((x / 256 ^ n:Nat):Int):=by rw [q1d];simp
 rw [e,Nat.div_eq_of_lt h]
 rfl
theorem num_wr_big (B:Nat) (v:Value) (most:Int) (S:St) (x n:Nat) (w:World) (h:Wr w B v most S) (h1:1≤n) (h8:n≤8) (hx:¬ x<256 ^ n) :
 Calls Tryz.prog 99 #[.pointer (some ⟨B,0,none⟩),.int .u64 (x:Int),.int .i64 n] w (Wrot w B v most (bad 1 S)):=by
 have HN:=hid (q0a B v most S 1 w h)
 have hs:fit (n:Int)=true:=by rw [fit,decide_eq_true_iff];omega
 obtain⟨hb1,hb2⟩:=shr_big x n hx
 clear h
 go_enter Tryz.func99,Tryz.ntmps99
 go_wp2_with fail
 refine (z8t _ _).mono ?_
 rw [hs]
 rintro e w' ⟨rfl,rfl⟩
 go_wp2_with fail
 refine HN.out.mono ?_
 rintro e w' ⟨rfl,hw⟩
 have HW:=hid hw
 clear hw
 go_wp2_with fail
 refine bodyPost_ret (results_none rfl _ _ _) rfl ?_
 exact⟨rfl,HW.out⟩
def part (x j k:Nat):Value:=.int .u8 ((if k<j then x / 256 ^ k % 256 else 0:Nat):Int)
theorem part_start (x:Nat) (w:World):(w.alloc (.cells #[.int .u8 0,.int .u8 0,.int .u8 0,.int .u8 0,.int .u8 0,.int .u8 0,.int .u8 0,.int .u8 0] 161)).rowIs w.heap.size 161 8 (part x 0) :=
 World.rowIs_alloc w #[.int .u8 0,.int .u8 0,.int .u8 0,.int .u8 0,.int .u8 0,.int .u8 0,.int .u8 0,.int .u8 0] _ (part x 0) fun i hi=>by
  replace hi:i<8:=hi
  match i,hi with
  | 0,_=>rfl
  | 1,_=>rfl
  | 2,_=>rfl
  | 3,_=>rfl
  | 4,_=>rfl
  | 5,_=>rfl
  | 6,_=>rfl
  | 7,_=>rfl
theorem part_next (x j:Nat) (w:World) (A:Nat) (h:w.rowIs A 161 8 (part x j)) (y:Int) (hy:y=((x / 256 ^ j % 256:Nat):Int)):(w.setCell ⟨A,j,none⟩ (.int .u8 y)).rowIs A 161 8 (part x (j+1)):=by
 refine (h.set j _).congr fun k hk=>?_
 subst hy
 show (if k=j then _ else part x j k)=part x (j+1) k
 unfold part
 by_cases e:k=j
 · subst e;rw [if_pos rfl,if_pos (by omega)]
 · rw [if_neg e]
   by_cases hlt:k<j
   · rw [if_pos hlt,if_pos (by omega)]
   · rw [if_neg hlt,if_neg (by omega)]
theorem part_byte (x j:Nat):(x:Int) / 2 ^ (8*j) % 256=((x / 256 ^ j % 256:Nat):Int):=by rw [q1d];simp
theorem part_sl (x n:Nat) (w:World) (A:Nat) (hn:n≤8) (h:w.rowIs A 161 8 (part x 8)):Sl w (some ⟨A,0,none⟩) n 8 (le x n):=by
 refine⟨z0t n x,hn,(fun h=>by cases h),le_lt n x,fun _=>⟨A,0,rfl,fun j hj=>?_⟩⟩
 rw [Nat.zero_add,h.cell (by omega),le_get n x j hj]
 unfold part
 rw [if_pos (by omega)]
theorem num_wr_good (B:Nat) (v:Value) (most:Int) (S:St) (x n:Nat) (w:World) (h:Wr w B v most S) (h0:0≤most) (h9:most≤9223372036854775807) (hl:S.2.length≤900000) (h1:1≤n) (h8:n≤8) (hx:x<256 ^ n) :
 Calls Tryz.prog 99 #[.pointer (some ⟨B,0,none⟩),.int .u64 (x:Int),.int .i64 n] w (Wrot w B v most (rawW most S (le x n))):=by
 have H:=hid h
 have hs:fit (n:Int)=true:=by rw [fit,decide_eq_true_iff];omega
 have hb1:=shr_small x n hx
 clear h
 go_enter Tryz.func99,Tryz.ntmps99
 go_wp2_with fail
 refine (z8t _ _).mono ?_
 rw [hs]
 rintro e w' ⟨rfl,rfl⟩
 go_wp2_with fail
 clear hb1
 have HP:=hid (part_start x w)
 have HB:Hid (Below w.heap.size w (w.alloc (.cells #[.int .u8 0,.int .u8 0,.int .u8 0,.int .u8 0,.int .u8 0,.int .u8 0,.int .u8 0,.int .u8 0] 161))):=hid ((Below.refl _ _).alloc (Nat.le_refl _) _)
 go_loopw [24] (fun i wr=>∃ j:Nat,j≤8∧i=.int .i64 j∧wr.rowIs w.heap.size 161 8 (part x j)∧Below w.heap.size w wr) (fun i _=>8-(intOf i).toNat)
 case atStart=>exact⟨0,by omega,rfl,HP.out,HB.out⟩
 case round =>
  obtain⟨j,hj,rfl,hp,hb⟩:=hrel
  clear HP HB
  have HP:=hid hp
  have HB:=hid hb
  by_cases hlt:j<8
  · have hc:=hp.cell hlt
    have hf:=hp.frozen j
    clear hp hb
    have hk0:(0:Int)≤8*(j:Int):=by omega
    generalize hA:w.heap.size=A at *
    have HA:=hid hA
    clear hA
    generalize part x j j=y0 at *
    go_wp2_with fail
    go_roundw
    case rel=>exact⟨j+1,by omega,by go_num,part_next x j _ A HP.out _ (part_byte x j),HB.out.setCell (Nat.le_refl _) _⟩
    case measure=>simp [intOf];omega
  · obtain rfl:j=8:=by omega
    clear hp hb
    have HS:=hid (part_sl x n _ _ h8 HP.out)
    have HC:Hid (Chg (fun _=>False) w wr):=hid (Chg.of_below HB.out)
    have HW:Hid (Wr wr B v most S):=hid (H.out.chg HC.out (fun h=>h) fun _ _ h=>h)
    have h8':(n:Int)≤8:=by omega
    go_wp2_with fail
    refine (z8v B v most S _ HW.out _ _ _ _ HS.out h0 h9 (by omega)).mono ?_
    rintro e w' ⟨rfl,hw⟩
    have HR:=hid hw
    clear hw
    go_wp2_with fail
    go_end0
    exact⟨rfl,HR.out.before HC.out⟩
def From (q p:Option Addr):Prop:=∀ a,q=some a→∃ a',p=some a'∧a.block=a'.block
def sgn (x:Nat):Int:=if x<9223372036854775808 then (x:Int) else (x:Int)-18446744073709551616
end Go.Proofs.YtclbkfpbdidaiaaGreatDoor
