import Derived.Test.YtfdgnniicjdjdaaGreatDoorPS21
import Derived.WalkSpells
namespace Go.Proofs.YtfdgnniicjdjdaaGreatDoor
open Go.Lib (hid)
open Go.RowKit Go.ChangeShapes Go.WideShapes
set_option linter.unusedVariables false
set_option maxRecDepth 10000
theorem z6p (B:Nat) (x:Int) (w:World) (hc:w.cell? ⟨B,0,none⟩=some (.int .i64 0)) (hf:w.frozen? ⟨B,0,none⟩=false) :
 Calls Tryz.prog 153 #[.pointer (some ⟨B,0,none⟩),.int .i64 x] w fun e w'=>e=.returned (.tuple #[])∧w'=w.setCell ⟨B,0,none⟩ (.int .i64 x):=by
 go_enter Tryz.func153,Tryz.ntmps153
 go_wp2_with fail
 go_end0
 exact⟨rfl,rfl⟩
theorem z7o (B:Nat) (y x:Int) (w:World) (hc:w.cell? ⟨B,0,none⟩=some (.int .i64 y)) (hy:(y==0)=false) :
 Calls Tryz.prog 153 #[.pointer (some ⟨B,0,none⟩),.int .i64 x] w fun e w'=>e=.returned (.tuple #[])∧w=w':=by
 have hy':¬ y=0:=by simpa using hy
 go_enter Tryz.func153,Tryz.ntmps153
 go_wp2_with fail
 go_end0
 exact⟨rfl,rfl⟩
def fit (x:Int):Bool:=decide (1≤x∧x≤8)
theorem z5k (x:Int) (w:World) :
 Calls Tryz.prog 152 #[.int .i64 x] w fun e w'=>e=.returned (.bool (fit x))∧w=w':=by
 by_cases h1:1≤x
 · by_cases h2:x≤8
   · have hF:fit x=true:=by simp [fit,h1,h2]
     rw [hF]
     go_enter Tryz.func152,Tryz.ntmps152
     go_wp2_with fail
     go_ret
     exact⟨rfl,rfl⟩
   · have hF:fit x=false:=by simp [fit,h2]
     rw [hF]
     go_enter Tryz.func152,Tryz.ntmps152
     go_wp2_with fail
     go_ret
     exact⟨rfl,rfl⟩
 · have hF:fit x=false:=by simp [fit,h1]
   rw [hF]
   go_enter Tryz.func152,Tryz.ntmps152
   go_wp2_with fail
   go_ret
   exact⟨rfl,rfl⟩
def q2g (w:World) (n:Nat) (L:List Nat) (e:Ending) (w':World):Prop:=∃ v,e=.returned v∧Row w' v n L∧Below w.heap.size w w'∧∀ k,v.ownBlock=some k→w.heap.size≤k
theorem own_none (w:World):Row (w.alloc (.cells #[] 5)) (.slice (some ⟨w.heap.size,0,none⟩) 0 0) 0 [] :=
 ⟨rfl,(fun x h=>by cases h),World.ownsRow_lit w #[] 0 (Nat.zero_le _) (Nat.zero_le _) rfl⟩
theorem z6i (p:Option Addr) (n c:Nat) (L:List Nat) (w:World) (hS:Sl w p n c L) (hn:n≤100000) :
 Calls Tryz.prog 70 #[.slice p n c] w (q2g w n L):=by
 have HS:=hid hS
 have HO:=hid (own_none w)
 have HS1:Hid (Sl (w.alloc (.cells #[] 5)) p n c L):=hid (hS.later ((Below.refl _ _).alloc (Nat.le_refl _) _))
 have q:=fun (w:World) (a:Option Addr) (n c n' c':Nat)=>Lib.run_eql_slice_nil w 33 5 a n c n' c' Tryz.underlying33
 clear hS
 cases p with
 | none =>
  have hc:=HS.out.nil rfl
  have hn0:=HS.out.cap
  obtain rfl:n=0:=by omega
  have hl:=HS.out.len
  obtain rfl:L=[]:=List.eq_nil_of_length_eq_zero hl
  clear hl hn0 hc
  go_enter Tryz.func70,Tryz.ntmps70
  go_wp2_with fail
  go_ret
  exact⟨_,rfl,Row.nil _,Below.refl _ _,fun k hk=>by cases hk⟩
 | some a =>
  go_enter Tryz.func70,Tryz.ntmps70
  go_wp2_with (at_builtin;refine z2w rfl _ _ rfl _ _ [] rfl HO.out _ _ _ L rfl HS1.out (by omega) ?_)
  intro v' w' hr hc hk
  have HR:=hid hr
  have HC:=hid hc
  have HK:=hid hk
  clear hr hc hk
  go_wp2_with fail
  go_ret
  refine⟨_,rfl,by simpa using HR.out,?_,fun k hv=>?_⟩
  · exact HC.out.below ((Below.refl _ _).alloc (Nat.le_refl _) _) (by simp) fun k hk=>by simp [Value.ownBlock] at hk;omega
  · rcases HK.out k hv with h | h
    · simp [Value.ownBlock] at h;omega
    · exact Nat.le_trans (by simp) h
theorem Wr.c0 {w:World} {B:Nat} {v:Value} {most:Int} {S:St} (h:Wr w B v most S):w.cell? ⟨B,0,none⟩=some (.int .i64 S.1):=z1y h.blk rfl
theorem Wr.c1 {w:World} {B:Nat} {v:Value} {most:Int} {S:St} (h:Wr w B v most S):w.cell? ⟨B,1,none⟩=some (.int .i64 most):=z1y h.blk rfl
theorem Wr.c2 {w:World} {B:Nat} {v:Value} {most:Int} {S:St} (h:Wr w B v most S):w.cell? ⟨B,2,none⟩=some v:=z1y h.blk rfl
theorem Wr.free {w:World} {B:Nat} {v:Value} {most:Int} {S:St} (h:Wr w B v most S) (j:Nat):w.frozen? ⟨B,j,none⟩=false:=z5x j h.blk
theorem Wr.drewN {w:World} {B:Nat} {v:Value} {most:Int} {S:St} (h:Wr w B v most S) (q:Nat):Wr (w.drewN q) B v most S:=⟨h.blk,h.row.keep fun _ _=>rfl,h.ne⟩
structure Wrote (w:World) (B:Nat) (v:Value) (most:Int) (S:St) (w':World):Prop where
 wr:∃ v',Wr w' B v' most S∧∀ k,v'.ownBlock=some k→v.ownBlock=some k∨w.heap.size≤k
 chg:Chg (fun k=>k=B∨v.ownBlock=some k) w w'
theorem Wrote.same {w:World} {B:Nat} {v:Value} {most:Int} {S:St} (h:Wr w B v most S):Wrote w B v most S w:=⟨⟨v,h,fun k hk=>.inl hk⟩,Chg.refl _ _⟩
def Wrot (w:World) (B:Nat) (v:Value) (most:Int) (S:St) (e:Ending) (w':World):Prop:=e=.returned (.tuple #[])∧Wrote w B v most S w'
theorem Wr.fault {w:World} {B:Nat} {v:Value} {most:Int} {S:St} (h:Wr w B v most S) (x:Int):Wrote w B v most (x,S.2) (w.setCell ⟨B,0,none⟩ (.int .i64 x)) :=
 ⟨⟨v,⟨z6j 0 _ h.blk,h.row.keep fun k hk=>Below.heap_setCell _ _ _ _ fun e=>h.ne (by rw [hk,e]),h.ne⟩,fun k hk=>.inl hk⟩,(Chg.refl _ _).setCell _ _ fun _=>.inl rfl⟩
theorem Wrote.before {a b c:World} {B:Nat} {v:Value} {most:Int} {S:St} (hc:Chg (fun _=>False) a b) (h:Wrote b B v most S c):Wrote a B v most S c:=by
 obtain⟨v',h1,h2⟩:=h.wr
 refine⟨⟨v',h1,fun k hk=>?_⟩,(hc.mono (T:=fun k=>k=B∨v.ownBlock=some k) fun _ _ h=>h.elim).trans h.chg fun _ _ h=>h⟩
 rcases h2 k hk with h | h
 · exact .inl h
 · exact .inr (Nat.le_trans hc.size h)
theorem q0o (B:Nat) (v:Value) (most:Int) (S:St) (x:Int) (w:World) (h:Wr w B v most S) :
 Calls Tryz.prog 153 #[.pointer (some ⟨B,0,none⟩),.int .i64 x] w (Wrot w B v most (bad x S)):=by
 obtain⟨y,L⟩:=S
 by_cases hy:y=0
 · subst hy
   refine (z6p B x w h.c0 (h.free 0)).mono ?_
   rintro e w' ⟨rfl,rfl⟩
   exact⟨rfl,h.fault x⟩
 · have hb:bad x (y,L)=(y,L):=if_neg hy
   rw [hb]
   refine (z7o B y x w h.c0 (by simpa using hy)).mono ?_
   rintro e w' ⟨rfl,rfl⟩
   exact⟨rfl,Wrote.same h⟩
theorem new_any (m:Int) (w:World) :
 Calls Tryz.prog 106 #[.int .i64 m] w fun e w'=>e=.returned (.pointer (some ⟨w.heap.size,0,none⟩))∧w'=w.alloc (.cells #[.int .i64 0,.int .i64 (if m<0 then 0 else m),.slice none 0 0] 224):=by
 go_enter Tryz.func106,Tryz.ntmps106
 go_wp2_with fail
 all_goals (go_ret;exact⟨rfl,rfl⟩)
theorem new_wr (w:World) (m:Int):Wr (w.alloc (.cells #[.int .i64 0,.int .i64 m,.slice none 0 0] 224)) w.heap.size (.slice none 0 0) m (0,[]) :=
 ⟨heap_alloc_new w _,Row.nil _,fun h=>by cases h⟩
theorem raw_full (B:Nat) (v:Value) (most x:Int) (L:List Nat) (w:World) (h:Wr w B v most (x,L)) (hx:(x==0)=false) (p:Option Addr) (m c:Nat) :
 Calls Tryz.prog 110 #[.pointer (some ⟨B,0,none⟩),.slice p m c] w fun e w'=>e=.returned (.tuple #[])∧w=w':=by
 have h0:w.cell? ⟨B,0,none⟩=some (.int .i64 x):=h.c0
 have hx':(x != 0)=true:=by simpa using hx
 clear h
 go_enter Tryz.func110,Tryz.ntmps110
 go_wp2_with fail
 refine bodyPost_ret (results_none rfl _ _ _) rfl ?_
 exact⟨rfl,rfl⟩
theorem raw_long (B:Nat) (v:Value) (most:Int) (L:List Nat) (w:World) (h:Wr w B v most (0,L)) (p:Option Addr) (m c:Nat) (h0:0≤most) (h9:most≤9223372036854775807) (hl:L.length≤1000000) (hm:m≤1000000) (hlong:most<(L.length:Int)+(m:Int)) :
 Calls Tryz.prog 110 #[.pointer (some ⟨B,0,none⟩),.slice p m c] w (Wrot w B v most (7,L)):=by
 have H:=hid h
 have c0:w.cell? ⟨B,0,none⟩=some (.int .i64 0):=h.c0
 have c1:=h.c1
 have c2:=h.c2
 obtain⟨pv,cv,rfl,_⟩:=h.row.sl
 clear h
 replace c2:w.cell? ⟨B,2,none⟩=some (.slice pv L.length cv):=c2
 have H2:Hid (∀ q,Calls Tryz.prog 153 #[.pointer (some ⟨B,0,none⟩),.int .i64 7] (w.drewN q) (Wrot (w.drewN q) B (.slice pv L.length cv) most (7,L))):=hid fun q=>q0o B _ most (0,L) 7 _ (H.out.drewN q)
 generalize hn:L.length=n at *
 have HN:=hid hn
 clear hn
 have e1:IntKind.i64.wrap (most-(n:Int))=most-(n:Int):=IntWalk.i64_in _ (by omega)
 have e2:most-(n:Int)<(m:Int):=by omega
 go_enter Tryz.func110,Tryz.ntmps110
 go_wp2_with fail
 go_quiet (fail)
 go_wp2_with fail
 refine (H2.out _).mono ?_
 rintro e w1 ⟨rfl,hw⟩
 have HW:=hid hw
 clear hw
 go_wp2_with fail
 refine bodyPost_ret (results_none rfl _ _ _) rfl ?_
 exact⟨rfl,HW.out.before ((Chg.refl _ _).drewN _)⟩
theorem Wr.push {w w':World} {B:Nat} {v v':Value} {most:Int} {L M:List Nat} {n q:Nat} (h:Wr w B v most (0,L)) (hr:Row w' v' n (L++M)) (hc:Chg (fun k=>v.ownBlock=some k) (w.drewN q) w')
 (hk:∀ k,v'.ownBlock=some k→v.ownBlock=some k∨w.heap.size≤k):w'.frozen? ⟨B,2,none⟩=false∧w'.cell? ⟨B,2,none⟩=some v∧Wrote w B v most (0,L++M) (w'.setCell ⟨B,2,none⟩ v'):=by
 have hb:w'.heap[B]?=some (.cells #[.int .i64 0,.int .i64 most,v] 224 (0,0)):=by
  rw [hc.block B h.lt h.ne,World.heap_drewN];exact h.blk
 have hne:v'.ownBlock≠some B:=fun e=>by
  rcases hk B e with h' | h'
  · exact h.ne h'
  · have:=h.lt;omega
 refine⟨z5x 2 hb,z1y hb rfl,⟨v',⟨z6j 2 v' hb,?_,hne⟩,hk⟩,?_⟩
 · have:=hr.len
   subst this
   exact hr.keep fun k hk'=>Below.heap_setCell _ _ _ _ fun e=>hne (by rw [hk',e])
 · exact (((Chg.refl (fun _=>False) w).drewN q).mono (T:=fun k=>k=B∨v.ownBlock=some k) fun _ _ h=>h.elim).trans ((hc.mono (T:=fun k=>k=B∨v.ownBlock=some k) fun _ _ h=>.inr h).setCell _ _ fun _=>.inl rfl) fun _ _ h=>h
theorem raw_good (B:Nat) (v:Value) (most:Int) (L:List Nat) (w:World) (h:Wr w B v most (0,L)) (p:Option Addr) (m c:Nat) (M:List Nat) (hs:Sl w p m c M) (h0:0≤most) (h9:most≤9223372036854775807) (hl:L.length+m≤1000000) (hlong:(L.length:Int)+(m:Int)≤most) :
 Calls Tryz.prog 110 #[.pointer (some ⟨B,0,none⟩),.slice p m c] w (Wrot w B v most (0,L++M)):=by
 have H:=hid h
 have c0:w.cell? ⟨B,0,none⟩=some (.int .i64 0):=h.c0
 have c1:=h.c1
 have c2:=h.c2
 obtain⟨pv,cv,hv,_⟩:=h.row.sl
 subst hv
 have HR:Hid (∀ q,Row (w.drewN q) (.slice pv L.length cv) L.length L):=hid fun q=>(h.drewN q).row
 have HS:Hid (∀ q,Sl (w.drewN q) p m c M):=hid fun q=>hs.keep fun _ _ _=>rfl
 clear h hs
 replace c2:w.cell? ⟨B,2,none⟩=some (.slice pv L.length cv):=c2
 generalize hn:L.length=n at *
 have HN:=hid hn
 clear hn
 have e1:IntKind.i64.wrap (most-(n:Int))=most-(n:Int):=IntWalk.i64_in _ (by omega)
 have e2:¬ (most-(n:Int)<(m:Int)):=by omega
 go_enter Tryz.func110,Tryz.ntmps110
 go_wp2_with fail
 go_quiet (fail)
 clear e1
 go_wp2_with (at_builtin;refine z2w rfl _ _ rfl _ _ L rfl (HR.out _) _ _ _ M rfl (HS.out _) (by omega) ?_)
 intro v' w' hr hc hk
 obtain⟨hf,hcell,hw⟩:=H.out.push hr hc hk
 obtain⟨p',c',rfl,_⟩:=hr.sl
 have HW:=hid hw
 clear hr hc hk hw
 go_wp2_with fail
 go_end0
 exact⟨rfl,HW.out⟩
theorem z7x (B:Nat) (v:Value) (most:Int) (S:St) (w:World) (h:Wr w B v most S) (p:Option Addr) (m c:Nat) (M:List Nat) (hs:Sl w p m c M) (h0:0≤most) (h9:most≤9223372036854775807) (hl:S.2.length+m≤1000000) :
 Calls Tryz.prog 110 #[.pointer (some ⟨B,0,none⟩),.slice p m c] w (Wrot w B v most (rawW most S M)):=by
 obtain⟨x,L⟩:=S
 replace hl:L.length+m≤1000000:=hl
 have hM:=hs.len
 unfold rawW
 by_cases hx:x=0
 · subst hx
   rw [if_pos rfl]
   by_cases hlong:most<(L.length:Int)+(m:Int)
   · rw [if_pos (by rw [hM];exact hlong)]
     exact raw_long B v most L w h p m c h0 h9 (by omega) (by omega) hlong
   · rw [if_neg (by rw [hM];exact hlong)]
     exact raw_good B v most L w h p m c M hs h0 h9 hl (by omega)
 · rw [if_neg (show ¬ (x,L).1=0 from hx)]
   refine (raw_full B v most x L w h (by simpa using hx) p m c).mono ?_
   rintro e w' ⟨rfl,rfl⟩
   exact⟨rfl,Wrote.same h⟩
def Doned (w:World) (S:St) (e:Ending) (w':World):Prop:=Below w.heap.size w w'∧if S.1=0 then ∃ v,e=.returned (.tuple #[v,.int .i64 0])∧Row w' v S.2.length S.2∧∀ k,v.ownBlock=some k→w.heap.size≤k else e=.returned (.tuple #[.slice none 0 0,.int .i64 S.1])
theorem q0u (B:Nat) (v:Value) (most:Int) (S:St) (w:World) (h:Wr w B v most S) (hl:S.2.length≤100000) :
 Calls Tryz.prog 111 #[.pointer (some ⟨B,0,none⟩)] w (Doned w S):=by
 obtain⟨x,L⟩:=S
 have c0:w.cell? ⟨B,0,none⟩=some (.int .i64 x):=h.c0
 have c2:=h.c2
 obtain⟨p,c,rfl,_,hs,_⟩:=h.row.sl
 have HC:=hid (z6i p _ c _ w hs hl)
 clear h hs hl
 by_cases hx:x=0
 · subst hx
   go_enter Tryz.func111,Tryz.ntmps111
   go_wp2_with fail
   refine HC.out.mono ?_
   rintro e w1 ⟨v,rfl,h1,h2,h3⟩
   have HB:=hid h2
   have HV:Hid (∃ v',v'=v∧Row w1 v' L.length L∧∀ k,v'.ownBlock=some k→w.heap.size≤k):=hid ⟨v,rfl,h1,h3⟩
   clear h1 h2 h3
   go_wp2_with fail
   go_ret2
   obtain⟨v',rfl,h1,h2⟩:=HV.out
   refine⟨HB.out,?_⟩
   rw [if_pos rfl]
   exact⟨_,rfl,h1,h2⟩
 · have hx1:(x==0)=false:=by simpa using hx
   have hx2:(x != 0)=true:=by simpa using hx
   go_enter Tryz.func111,Tryz.ntmps111
   go_wp2_with fail
   go_quiet (fail)
   go_wp2_with fail
   go_ret2
   refine⟨z0f (Below.refl _ _) _,?_⟩
   rw [if_neg (show ¬ (x,L).1=0 from hx)]
   rfl
theorem numW_bad (most:Int) (S:St) (x:Nat) (size:Int) (h:¬ (1≤size∧size≤8∧x<256 ^ size.toNat)):numW most S x size=bad 1 S:=if_neg h
theorem num_wr_size (B:Nat) (v:Value) (most:Int) (S:St) (x:Nat) (size:Int) (w:World) (h:Wr w B v most S) (hs:fit size=false) :
 Calls Tryz.prog 108 #[.pointer (some ⟨B,0,none⟩),.int .u64 (x:Int),.int .i64 size] w (Wrot w B v most (bad 1 S)):=by
 have HN:=hid (q0o B v most S 1 w h)
 clear h
 go_enter Tryz.func108,Tryz.ntmps108
 go_wp2_with fail
 refine (z5k size _).mono ?_
 rw [hs]
 rintro e w' ⟨rfl,rfl⟩
 go_wp2_with fail
 refine HN.out.mono ?_
 rintro e w' ⟨rfl,hw⟩
 have HW:=hid hw
 clear hw
 go_wp2_with fail
 refine bodyPost_ret (results_none rfl _ _ _) rfl ?_
 exact⟨rfl,HW.out⟩
theorem shr_big (x n:Nat) (h:¬ x<256 ^ n):((x:Int) / 2 ^ (8*n)==0)=false∧((x:Int) / 2 ^ (8*n) != 0)=true:=by
 have e:(x:Int) / 2 ^ (8*n)=((x / 256 ^ n:Nat):Int):=by rw [z9j];simp
 have:0<x / 256 ^ n:=Nat.div_pos (by omega) (Nat.pow_pos (by omega))
 rw [e]
 generalize x / 256 ^ n=y at this ⊢
 constructor
 · simp;omega
 · simp;omega
theorem shr_small (x n:Nat) (h:x<256 ^ n):(x:Int) / 2 ^ (8*n)=0:=by
 have e:(x:Int) / 2 ^ (8*n)=((x / 256 ^ n:Nat):Int):=by rw [z9j];simp
 rw [e,Nat.div_eq_of_lt h]
 rfl
theorem num_wr_big (B:Nat) (v:Value) (most:Int) (S:St) (x n:Nat) (w:World) (h:Wr w B v most S) (h1:1≤n) (h8:n≤8) (hx:¬ x<256 ^ n) :
 Calls Tryz.prog 108 #[.pointer (some ⟨B,0,none⟩),.int .u64 (x:Int),.int .i64 n] w (Wrot w B v most (bad 1 S)):=by
 have HN:=hid (q0o B v most S 1 w h)
 have hs:fit (n:Int)=true:=by rw [fit,decide_eq_true_iff];omega
 obtain⟨hb1,hb2⟩:=shr_big x n hx
 clear h
 go_enter Tryz.func108,Tryz.ntmps108
 go_wp2_with fail
 refine (z5k _ _).mono ?_
 rw [hs]
 rintro e w' ⟨rfl,rfl⟩
 go_wp2_with fail
 refine HN.out.mono ?_
 rintro e w' ⟨rfl,hw⟩
 have HW:=hid hw
 clear hw
 go_wp2_with fail
 refine bodyPost_ret (results_none rfl _ _ _) rfl ?_
 exact⟨rfl,HW.out⟩
def part (x j k:Nat):Value:=.int .u8 ((if k<j then x / 256 ^ k % 256 else 0:Nat):Int)
theorem part_start (x:Nat) (w:World):(w.alloc (.cells #[.int .u8 0,.int .u8 0,.int .u8 0,.int .u8 0,.int .u8 0,.int .u8 0,.int .u8 0,.int .u8 0] 227)).rowIs w.heap.size 227 8 (part x 0) :=
 World.rowIs_alloc w #[.int .u8 0,.int .u8 0,.int .u8 0,.int .u8 0,.int .u8 0,.int .u8 0,.int .u8 0,.int .u8 0] _ (part x 0) fun i hi=>by
  replace hi:i<8:=hi
  match i,hi with
  | 0,_=>rfl
  | 1,_=>rfl
  | 2,_=>rfl
  | 3,_=>rfl
  | 4,_=>rfl
  | 5,_=>rfl
  | 6,_=>rfl
  | 7,_=>rfl
theorem part_next (x j:Nat) (w:World) (A:Nat) (h:w.rowIs A 227 8 (part x j)) (y:Int) (hy:y=((x / 256 ^ j % 256:Nat):Int)):(w.setCell ⟨A,j,none⟩ (.int .u8 y)).rowIs A 227 8 (part x (j+1)):=by
 refine (h.set j _).congr fun k hk=>?_
 subst hy
 show (if k=j then _ else part x j k)=part x (j+1) k
 unfold part
 by_cases e:k=j
 · subst e;rw [if_pos rfl,if_pos (by omega)]
 · rw [if_neg e]
   by_cases hlt:k<j
   · rw [if_pos hlt,if_pos (by omega)]
   · rw [if_neg hlt,if_neg (by omega)]
theorem part_byte (x j:Nat):(x:Int) / 2 ^ (8*j) % 256=((x / 256 ^ j % 256:Nat):Int):=by rw [z9j];simp
theorem part_sl (x n:Nat) (w:World) (A:Nat) (hn:n≤8) (h:w.rowIs A 227 8 (part x 8)):Sl w (some ⟨A,0,none⟩) n 8 (le x n):=by
 refine⟨z0r n x,hn,(fun h=>by cases h),le_lt n x,fun _=>⟨A,0,rfl,fun j hj=>?_⟩⟩
 rw [Nat.zero_add,h.cell (by omega),le_get n x j hj]
 unfold part
 rw [if_pos (by omega)]
theorem num_wr_good (B:Nat) (v:Value) (most:Int) (S:St) (x n:Nat) (w:World) (h:Wr w B v most S) (h0:0≤most) (h9:most≤9223372036854775807) (hl:S.2.length≤900000) (h1:1≤n) (h8:n≤8) (hx:x<256 ^ n) :
 Calls Tryz.prog 108 #[.pointer (some ⟨B,0,none⟩),.int .u64 (x:Int),.int .i64 n] w (Wrot w B v most (rawW most S (le x n))):=by
 have H:=hid h
 have hs:fit (n:Int)=true:=by rw [fit,decide_eq_true_iff];omega
 have hb1:=shr_small x n hx
 clear h
 go_enter Tryz.func108,Tryz.ntmps108
 go_wp2_with fail
 refine (z5k _ _).mono ?_
 rw [hs]
 rintro e w' ⟨rfl,rfl⟩
 go_wp2_with fail
 clear hb1
 have HP:=hid (part_start x w)
 have HB:Hid (Below w.heap.size w (w.alloc (.cells #[.int .u8 0,.int .u8 0,.int .u8 0,.int .u8 0,.int .u8 0,.int .u8 0,.int .u8 0,.int .u8 0] 227))):=hid ((Below.refl _ _).alloc (Nat.le_refl _) _)
 go_loopw [24] (fun i wr=>∃ j:Nat,j≤8∧i=.int .i64 j∧wr.rowIs w.heap.size 227 8 (part x j)∧Below w.heap.size w wr) (fun i _=>8-(intOf i).toNat)
 case atStart=>exact⟨0,by omega,rfl,HP.out,HB.out⟩
 case round =>
  obtain⟨j,hj,rfl,hp,hb⟩:=hrel
  clear HP HB
  have HP:=hid hp
  have HB:=hid hb
  by_cases hlt:j<8
  · have hc:=hp.cell hlt
    have hf:=hp.frozen j
    clear hp hb
    have hk0:(0:Int)≤8*(j:Int):=by omega
    generalize hA:w.heap.size=A at *
    have HA:=hid hA
    clear hA
    generalize part x j j=y0 at *
    go_wp2_with fail
    go_roundw
    case rel=>exact⟨j+1,by omega,by go_num,part_next x j _ A HP.out _ (part_byte x j),HB.out.setCell (Nat.le_refl _) _⟩
    case measure=>simp [intOf];omega
  · obtain rfl:j=8:=by omega
    clear hp hb
    have HS:=hid (part_sl x n _ _ h8 HP.out)
    have HC:Hid (Chg (fun _=>False) w wr):=hid (Chg.of_below HB.out)
    have HW:Hid (Wr wr B v most S):=hid (H.out.chg HC.out (fun h=>h) fun _ _ h=>h)
    have h8':(n:Int)≤8:=by omega
    go_wp2_with fail
    refine (z7x B v most S _ HW.out _ _ _ _ HS.out h0 h9 (by omega)).mono ?_
    rintro e w' ⟨rfl,hw⟩
    have HR:=hid hw
    clear hw
    go_wp2_with fail
    go_end0
    exact⟨rfl,HR.out.before HC.out⟩
theorem z8k (B:Nat) (x:Int) (w:World) (hc:w.cell? ⟨B,0,none⟩=some (.int .i64 x)) :
 Calls Tryz.prog 136 #[.pointer (some ⟨B,0,none⟩)] w fun e w'=>e=.returned (.int .i64 x)∧w=w':=by
 go_enter Tryz.func136,Tryz.ntmps136
 go_wp2_with fail
 go_ret
 exact⟨rfl,rfl⟩
theorem left_ok (B n c:Nat) (p:Option Addr) (w:World) (hc:w.cell? ⟨B,0,none⟩=some (.int .i64 0)) (h1:w.cell? ⟨B,1,none⟩=some (.slice p n c)) :
 Calls Tryz.prog 170 #[.pointer (some ⟨B,0,none⟩)] w fun e w'=>e=.returned (.int .i64 n)∧w=w':=by
 go_enter Tryz.func170,Tryz.ntmps170
 go_wp2_with fail
 go_ret
 exact⟨rfl,rfl⟩
theorem left_bad (B:Nat) (x:Int) (w:World) (hc:w.cell? ⟨B,0,none⟩=some (.int .i64 x)) (hx:(x==0)=false) :
 Calls Tryz.prog 170 #[.pointer (some ⟨B,0,none⟩)] w fun e w'=>e=.returned (.int .i64 0)∧w=w':=by
 have hx':(x != 0)=true:=by simpa using hx
 go_enter Tryz.func170,Tryz.ntmps170
 go_wp2_with fail
 go_ret
 exact⟨rfl,rfl⟩
theorem Rd.c0 {w:World} {B:Nat} {p:Option Addr} {c:Nat} {S:St} (h:Rd w B p c S):w.cell? ⟨B,0,none⟩=some (.int .i64 S.1):=z1y h.blk rfl
theorem Rd.c1 {w:World} {B:Nat} {p:Option Addr} {c:Nat} {S:St} (h:Rd w B p c S):w.cell? ⟨B,1,none⟩=some (.slice p S.2.length c):=z1y h.blk rfl
theorem Rd.free {w:World} {B:Nat} {p:Option Addr} {c:Nat} {S:St} (h:Rd w B p c S) (j:Nat):w.frozen? ⟨B,j,none⟩=false:=z5x j h.blk
theorem left_any (B c:Nat) (p:Option Addr) (S:St) (w:World) (h:Rd w B p c S) :
 Calls Tryz.prog 170 #[.pointer (some ⟨B,0,none⟩)] w fun e w'=>e=.returned (.int .i64 (q2x S:Nat))∧w=w':=by
 have h0:=h.c0
 have h1:=h.c1
 obtain⟨x,L⟩:=S
 by_cases hx:x=0
 · subst hx
   exact left_ok B _ c p w h0 h1
 · rw [show q2x (x,L)=0 from if_neg hx]
   exact left_bad B x w h0 (by simpa using hx)
theorem end_any (B c:Nat) (p:Option Addr) (S:St) (w:World) (h:Rd w B p c S) (hb:S.2.length≤1000000) :
 Calls Tryz.prog 141 #[.pointer (some ⟨B,0,none⟩)] w fun e w'=>e=.returned (.int .i64 (endR S))∧w=w':=by
 have H:=hid h
 clear h
 obtain⟨x,L⟩:=S
 by_cases hx:x=0
 · subst hx
   have hl:q2x (0,L)=L.length:=rfl
   have hb':L.length≤1000000:=hb
   clear hb
   by_cases h0:0<L.length
   · have he:endR (0,L)=8:=if_pos ⟨rfl,h0⟩
     rw [he]
     clear he
     generalize L.length=n at *
     go_enter Tryz.func141,Tryz.ntmps141
     go_wp2_with fail
     refine (z8k B 0 _ H.out.c0).mono ?_
     rintro e w' ⟨rfl,rfl⟩
     go_wp2_with fail
     refine (left_any B _ _ _ _ H.out).mono ?_
     rw [hl]
     clear hl
     rintro e w' ⟨rfl,rfl⟩
     go_wp2_with fail
     go_ret
     exact⟨rfl,rfl⟩
   · have hL:L=[]:=List.eq_nil_of_length_eq_zero (by omega)
     subst hL
     clear hl
     have he:endR (0,[])=0:=rfl
     have hl:q2x (0,[])=0:=rfl
     rw [he]
     clear he
     go_enter Tryz.func141,Tryz.ntmps141
     go_wp2_with fail
     refine (z8k B 0 _ H.out.c0).mono ?_
     rintro e w' ⟨rfl,rfl⟩
     go_wp2_with fail
     refine (left_any B _ _ _ _ H.out).mono ?_
     rw [hl]
     clear hl
     rintro e w' ⟨rfl,rfl⟩
     go_wp2_with fail
     refine (z8k B 0 _ H.out.c0).mono ?_
     rintro e w' ⟨rfl,rfl⟩
     go_wp2_with fail
     go_ret
     exact⟨rfl,rfl⟩
 · have he:endR (x,L)=x:=if_neg fun h=>hx h.1
   rw [he]
   clear he
   have hx1:(x==0)=false:=by simpa using hx
   have hx2:¬ x=0:=hx
   clear hx
   go_enter Tryz.func141,Tryz.ntmps141
   go_wp2_with fail
   refine (z8k B x _ H.out.c0).mono ?_
   rintro e w' ⟨rfl,rfl⟩
   go_wp2_with fail
   refine (z8k B x _ H.out.c0).mono ?_
   rintro e w' ⟨rfl,rfl⟩
   go_wp2_with fail
   go_ret
   exact⟨rfl,rfl⟩
theorem take_bad (B c n:Nat) (p:Option Addr) (x:Int) (L:List Nat) (w:World) (h:Rd w B p c (x,L)) (hb:L.length≤1000000) (hn:n≤1000000) (hx:(x==0)=false) :
 Calls Tryz.prog 165 #[.pointer (some ⟨B,0,none⟩),.int .i64 n] w fun e w'=>e=.returned (.slice none 0 0)∧w=w':=by
 have H:=hid h
 have h0:w.cell? ⟨B,0,none⟩=some (.int .i64 x):=h.c0
 have h1:w.cell? ⟨B,1,none⟩=some (.slice p L.length c):=h.c1
 clear h
 generalize L.length=m at *
 have hx':¬ x=0:=by simpa using hx
 by_cases hmn:m<n
 · go_enter Tryz.func165,Tryz.ntmps165
   go_wp2_with fail
   refine (z7o B x 6 _ h0 hx).mono ?_
   rintro e w' ⟨rfl,rfl⟩
   go_wp2_with fail
   go_ret
   exact⟨rfl,rfl⟩
 · go_enter Tryz.func165,Tryz.ntmps165
   go_wp2_with fail
   go_ret
   exact⟨rfl,rfl⟩
theorem take_short (B c n:Nat) (p:Option Addr) (L:List Nat) (w:World) (h:Rd w B p c (0,L)) (hb:L.length≤1000000) (hn:n≤1000000) (hmn:L.length<n) :
 Calls Tryz.prog 165 #[.pointer (some ⟨B,0,none⟩),.int .i64 n] w fun e w'=>e=.returned (.slice none 0 0)∧w'=w.setCell ⟨B,0,none⟩ (.int .i64 6):=by
 have h0:w.cell? ⟨B,0,none⟩=some (.int .i64 0):=h.c0
 have h1:w.cell? ⟨B,1,none⟩=some (.slice p L.length c):=h.c1
 have hf:=h.free 0
 have h2:(w.setCell ⟨B,0,none⟩ (.int .i64 6)).cell? ⟨B,0,none⟩=some (.int .i64 6):=z1y (z6j 0 _ h.blk) rfl
 clear h
 generalize L.length=m at *
 go_enter Tryz.func165,Tryz.ntmps165
 go_wp2_with fail
 refine (z6p B 6 _ h0 hf).mono ?_
 rintro e w' ⟨rfl,rfl⟩
 go_wp2_with fail
 go_ret
 exact⟨rfl,rfl⟩
theorem take_good (B c n:Nat) (p:Option Addr) (L:List Nat) (w:World) (h:Rd w B p c (0,L)) (hb:L.length≤1000000) (hmn:n≤L.length) :
 Calls Tryz.prog 165 #[.pointer (some ⟨B,0,none⟩),.int .i64 n] w fun e w'=>e=.returned (.slice p n c)∧w'=w.setCell ⟨B,1,none⟩ (.slice (if c=n then p else p.map fun a=>a.add n) (L.length-n) (c-n)):=by
 have h0:w.cell? ⟨B,0,none⟩=some (.int .i64 0):=h.c0
 have h1:w.cell? ⟨B,1,none⟩=some (.slice p L.length c):=h.c1
 have hf:=h.free 1
 have hcap:L.length≤c:=h.row.cap
 have hmax:c≤9223372036854775807:=h.max
 clear h
 generalize L.length=m at *
 go_enter Tryz.func165,Tryz.ntmps165
 go_wp2_with fail
 all_goals (go_ret;exact⟨rfl,rfl⟩)
def From (q p:Option Addr):Prop:=∀ a,q=some a→∃ a',p=some a'∧a.block=a'.block
theorem From.refl (p:Option Addr):From p p:=fun a h=>⟨a,h,rfl⟩
theorem From.none (p:Option Addr):From Option.none p:=fun a h=>by cases h
theorem From.trans {a b c:Option Addr} (h:From a b) (g:From b c):From a c:=fun x hx=>by
 obtain⟨y,hy,e⟩:=h x hx
 obtain⟨z,hz,e'⟩:=g y hy
 exact⟨z,hz,e.trans e'⟩
theorem From.ne {q p:Option Addr} {S:Nat→Prop} (h:From q p) (hp:∀ a,p=some a→¬ S a.block):∀ a,q=some a→¬ S a.block:=fun a ha=>by
 obtain⟨a',h1,h2⟩:=h a ha
 rw [h2];exact hp a' h1
theorem From.cut (p:Option Addr) (c n:Nat):From (if c=n then p else p.map fun a=>a.add n) p:=fun a ha=>by
 split at ha
 · exact⟨a,ha,rfl⟩
 · obtain⟨a',h1,rfl⟩:=Option.map_eq_some_iff.1 ha
   exact⟨a',h1,by unfold Addr.add;split <;> rfl⟩
structure Went (w:World) (B:Nat) (p:Option Addr) (S:St) (w':World):Prop where
 rd:∃ p' c',Rd w' B p' c' S∧From p' p
 chg:Chg (fun k=>k=B) w w'
theorem Went.same {w:World} {B:Nat} {p:Option Addr} {c:Nat} {S:St} (h:Rd w B p c S):Went w B p S w:=⟨⟨p,c,h,From.refl _⟩,Chg.refl _ _⟩
theorem Went.trans {a b d:World} {B:Nat} {p q:Option Addr} {S T:St} (h:Went a B p S b) (hq:From q p) (g:Went b B q T d):Went a B p T d:=by
 obtain⟨p',c',h1,h2⟩:=g.rd
 exact⟨⟨p',c',h1,h2.trans hq⟩,h.chg.trans g.chg fun _ _ e=>e⟩
theorem Rd.fault {w:World} {B:Nat} {p:Option Addr} {c:Nat} {S:St} (h:Rd w B p c S) (x:Int):Went w B p (x,S.2) (w.setCell ⟨B,0,none⟩ (.int .i64 x)):=by
 refine⟨⟨p,c,⟨z6j 0 _ h.blk,?_,h.max,h.ne⟩,From.refl _⟩,(Chg.refl _ _).setCell _ _ fun _=>rfl⟩
 exact h.row.keep fun a ha _=>Below.heap_setCell _ _ _ _ (h.ne a ha)
theorem Rd.cut {w:World} {B:Nat} {p:Option Addr} {c:Nat} {L:List Nat} (h:Rd w B p c (0,L)) (n:Nat) (hn:n≤L.length) :
 Went w B p (0,L.drop n) (w.setCell ⟨B,1,none⟩ (.slice (if c=n then p else p.map fun a=>a.add n) (L.length-n) (c-n)))∧Sl (w.setCell ⟨B,1,none⟩ (.slice (if c=n then p else p.map fun a=>a.add n) (L.length-n) (c-n))) p n c (L.take n):=by
 have hk:∀ a,p=some a→a.block<w.heap.size→(w.setCell ⟨B,1,none⟩ (.slice (if c=n then p else p.map fun a=>a.add n) (L.length-n) (c-n))).heap[a.block]?=w.heap[a.block]?:=fun a ha _=>Below.heap_setCell _ _ _ _ (h.ne a ha)
 refine⟨⟨⟨_,c-n,⟨?_,?_,by have:=h.max;omega,?_⟩,From.cut p c n⟩,(Chg.refl _ _).setCell _ _ fun _=>rfl⟩,(h.row.take n hn).keep hk⟩
 · rw [List.length_drop];exact z6j 1 _ h.blk
 · rw [List.length_drop];exact (h.row.drop n hn).keep fun a ha hlt=>Below.heap_setCell _ _ _ _ ((From.cut p c n).ne (S:=fun k=>k=B) h.ne a ha)
 · exact (From.cut p c n).ne (S:=fun k=>k=B) h.ne
def Took (w:World) (B:Nat) (p:Option Addr) (R:St × List Nat) (e:Ending) (w':World):Prop:=∃ q m d,e=.returned (.slice q m d)∧Sl w' q m d R.2∧From q p∧Went w B p R.1 w'
theorem q0h (B c n:Nat) (p:Option Addr) (S:St) (w:World) (h:Rd w B p c S) (hb:S.2.length≤1000000) (hn:n≤1000000) :
 Calls Tryz.prog 165 #[.pointer (some ⟨B,0,none⟩),.int .i64 n] w (Took w B p (z1i S n)):=by
 obtain⟨x,L⟩:=S
 by_cases hx:x=0
 · subst hx
   by_cases hl:L.length<n
   · have e:z1i (0,L) n=((6,L),[]):=by rw [z1i,if_pos rfl,if_pos hl]
     rw [e]
     refine (take_short B c n p L w h hb hn hl).mono ?_
     rintro e w' ⟨rfl,rfl⟩
     exact⟨_,_,_,rfl,Sl.none,From.none _,h.fault 6⟩
   · have e:z1i (0,L) n=((0,L.drop n),L.take n):=by rw [z1i,if_pos rfl,if_neg hl]
     rw [e]
     refine (take_good B c n p L w h hb (by omega)).mono ?_
     rintro e w' ⟨rfl,rfl⟩
     obtain⟨h1,h2⟩:=h.cut n (by omega)
     exact⟨_,_,_,rfl,h2,From.refl _,h1⟩
 · have e:z1i (x,L) n=((x,L),[]):=by rw [z1i,if_neg hx]
   rw [e]
   refine (take_bad B c n p x L w h hb hn (by simpa using hx)).mono ?_
   rintro e w' ⟨rfl,rfl⟩
   exact⟨_,_,_,rfl,Sl.none,From.none _,Went.same h⟩
def q2t (w:World) (B:Nat) (p:Option Addr) (R:St × Nat) (e:Ending) (w':World):Prop:=e=.returned (.int .u64 ((R.2:Nat):Int))∧Went w B p R.1 w'
theorem num_step (x j c:Nat) (hx:x<256 ^ j) (hj:j<8) (hc:c<256):bits .or .u64 ((x:Nat):Int) (IntKind.u64.wrap ((c:Int)*2 ^ (8*j)))=((x+256 ^ j*c:Nat):Int)∧x+256 ^ j*c<256 ^ (j+1):=by
 have h2:x+256 ^ j*c<256 ^ (j+1):=by
  rw [Nat.pow_succ]
  have:256 ^ j*(c+1)≤256 ^ j*256:=Nat.mul_le_mul_left _ hc
  rw [Nat.mul_add] at this
  omega
 have h3:256 ^ (j+1)≤18446744073709551616:=Nat.le_trans (Nat.pow_le_pow_right (by omega) (show j+1≤8 by omega)) (by decide)
 refine⟨?_,h2⟩
 rw [show ((c:Int)*2 ^ (8*j))=((256 ^ j*c:Nat):Int) by rw [z9j,Int.natCast_mul,Int.mul_comm];simp]
 have hcx:256 ^ j*c<18446744073709551616:=by omega
 have e2:IntKind.u64.wrap ((256 ^ j*c:Nat):Int)=((256 ^ j*c:Nat):Int):=by
  generalize 256 ^ j*c=y at *
  simp [IntKind.wrap,IntKind.bits,IntKind.signed];omega
 rw [e2,u64_or_nat x (256 ^ j*c) (by omega) hcx]
 congr 1
 rw [z9j] at hx ⊢
 rw [Nat.or_comm,← Nat.two_pow_add_eq_or_of_lt hx,Nat.add_comm]
theorem num_bad (B c:Nat) (p:Option Addr) (S:St) (size:Int) (w:World) (h:Rd w B p c S) (hs:fit size=false) :
 Calls Tryz.prog 134 #[.pointer (some ⟨B,0,none⟩),.int .i64 size] w (q2t w B p (numR S size)):=by
 have hn:numR S size=(bad 1 S,0):=by
  rw [numR,if_neg]
  intro hh
  rw [fit,decide_eq_false_iff_not] at hs
  exact hs hh
 rw [hn]
 clear hn
 obtain⟨x,L⟩:=S
 have H:=hid h
 have h0:w.cell? ⟨B,0,none⟩=some (.int .i64 x):=h.c0
 have hf:=h.free 0
 clear h
 by_cases hx:x=0
 · subst hx
   go_enter Tryz.func134,Tryz.ntmps134
   go_wp2_with fail
   refine (z5k size _).mono ?_
   rw [hs]
   rintro e w' ⟨rfl,rfl⟩
   go_wp2_with fail
   refine (z6p B 1 _ h0 hf).mono ?_
   rintro e w' ⟨rfl,rfl⟩
   go_wp2_with fail
   go_ret
   exact⟨rfl,H.out.fault 1⟩
 · have hb:bad 1 (x,L)=(x,L):=if_neg hx
   have hx':(x==0)=false:=by simpa using hx
   rw [hb]
   clear hb
   go_enter Tryz.func134,Tryz.ntmps134
   go_wp2_with fail
   refine (z5k size _).mono ?_
   rw [hs]
   rintro e w' ⟨rfl,rfl⟩
   go_wp2_with fail
   refine (z7o B x 1 _ h0 hx').mono ?_
   rintro e w' ⟨rfl,rfl⟩
   go_wp2_with fail
   go_ret
   exact⟨rfl,Went.same H.out⟩
theorem num_good (B c n:Nat) (p:Option Addr) (S:St) (w:World) (h:Rd w B p c S) (hb:S.2.length≤1000000) (h1:1≤n) (h8:n≤8) :
 Calls Tryz.prog 134 #[.pointer (some ⟨B,0,none⟩),.int .i64 n] w (q2t w B p (numR S n)):=by
 have hs:fit (n:Int)=true:=by rw [fit,decide_eq_true_iff];omega
 have hn:numR S n=((z1i S n).1,un (z1i S n).2):=by
  rw [numR,if_pos (by omega),Int.toNat_natCast]
 have htl:(z1i S n).2.length≤n:=by
  unfold z1i
  split
  · split
    · simp
    · rw [List.length_take];omega
  · simp
 rw [hn]
 have HT:=hid (q0h B c n p S w h hb (by omega))
 clear hn h hb
 generalize z1i S n=R at *
 obtain⟨T,M⟩:=R
 have htl':M.length≤n:=htl
 clear htl
 go_enter Tryz.func134,Tryz.ntmps134
 go_wp2_with fail
 refine (z5k _ _).mono ?_
 rw [hs]
 rintro e w' ⟨rfl,rfl⟩
 go_wp2_with fail
 refine HT.out.mono ?_
 rintro e w1 ⟨q,m,d,rfl,hq,hfrom,hw⟩
 have hq':Sl w1 q m d M:=hq
 have hm:=hq'.len
 have hcap:=hq'.cap
 have HQ:=hid hq'
 have HW:=hid hw
 clear hq hq' hw hfrom HT hs
 have hm8:m≤8:=by omega
 clear htl'
 have HM:=hid hm
 clear hm
 go_wp2_with fail
 go_loop [5,21] (fun x i=>∃ j:Nat,j≤m∧x=.int .u64 ((un (M.take j):Nat):Int)∧i=.int .i64 j) (fun _ i=>m-(intOf i).toNat)
 case atStart=>exact⟨0,Nat.zero_le _,by simp [un],rfl⟩
 case round =>
  obtain⟨j,hj,rfl,rfl⟩:=hrel
  by_cases hlt:j<m
  · obtain⟨b,off,rfl,hc⟩:=HQ.out.cell (by omega)
    have hcj:=hc j hlt
    have hcl:M.getD j 0<256:=z9q HQ.out.lt j
    have hl:=HM.out
    have hu:=q0g (M.take j) fun y hy=>HQ.out.lt y (List.mem_of_mem_take hy)
    rw [List.length_take,Nat.min_eq_left (by omega)] at hu
    obtain⟨hs1,hs2⟩:=num_step _ j _ hu (by omega) hcl
    have HS:=hid (un_take_snoc M j (by omega))
    clear hc hl hs2
    have hk0:(0:Int)≤8*(j:Int):=by omega
    have HN:=hid hs1
    clear hs1 hu
    generalize hy:un (M.take (j+1))=y at *
    generalize un (M.take j)=x at *
    generalize M.getD j 0=z at *
    go_wp2_with fail
    go_round
    case rel =>
     refine⟨j+1,by omega,?_,by go_num⟩
     rw [hy,HS.out,HN.out]
    case measure=>simp [intOf];omega
  · obtain rfl:j=m:=by omega
    go_wp2_with fail
    go_ret
    refine⟨?_,HW.out⟩
    show Ending.returned _=Ending.returned (.int .u64 ((un M:Nat):Int))
    rw [List.take_of_length_le (by have:=HM.out;omega)]
    rfl
theorem z7z (B c:Nat) (p:Option Addr) (S:St) (size:Int) (w:World) (h:Rd w B p c S) (hb:S.2.length≤1000000) :
 Calls Tryz.prog 134 #[.pointer (some ⟨B,0,none⟩),.int .i64 size] w (q2t w B p (numR S size)):=by
 by_cases hs:1≤size∧size≤8
 · obtain⟨n,rfl⟩:∃ n:Nat,size=(n:Int):=⟨size.toNat,by omega⟩
   exact num_good B c n p S w h hb (by omega) (by omega)
 · exact num_bad B c p S size w h (by rw [fit,decide_eq_false_iff_not];exact hs)
def sgn (x:Nat):Int:=if x<9223372036854775808 then (x:Int) else (x:Int)-18446744073709551616
theorem z5v (x:Nat) (hx:x<18446744073709551616):wrap64 ((x:Nat):Int)=sgn x:=by
 unfold sgn wrap64
 split <;> omega
theorem z7i (S:St) (n:Nat) (h:∀ y∈S.2,y<256):∀ y∈(z1i S n).2,y<256:=by
 intro y hy
 unfold z1i at hy
 split at hy
 · split at hy
   · cases hy
   · exact h y (List.mem_of_mem_take hy)
 · cases hy
theorem z4w (S:St) (n:Nat):(z1i S n).2.length≤n:=by
 unfold z1i
 split
 · split
   · simp
   · rw [List.length_take];omega
 · simp
theorem numR_lt (S:St) (size:Int) (h:∀ y∈S.2,y<256):(numR S size).2<18446744073709551616:=by
 unfold numR
 split
 · have a:=q0g _ (z7i S size.toNat h)
   have b:256 ^ (z1i S size.toNat).2.length≤256 ^ 8:=Nat.pow_le_pow_right (by omega) (Nat.le_trans (z4w _ _) (by omega))
   have:(256:Nat) ^ 8=18446744073709551616:=by decide
   omega
 · show (0:Nat)<_
   omega
def Inted (w:World) (B:Nat) (p:Option Addr) (R:St × Nat) (e:Ending) (w':World):Prop:=e=.returned (.int .i64 (sgn R.2))∧Went w B p R.1 w'
theorem int_any (B c:Nat) (p:Option Addr) (S:St) (w:World) (h:Rd w B p c S) (hb:S.2.length≤1000000) :
 Calls Tryz.prog 138 #[.pointer (some ⟨B,0,none⟩)] w (Inted w B p (numR S 8)):=by
 have HN:=hid (z7z B c p S 8 w h hb)
 have hlt:=numR_lt S 8 h.row.lt
 clear h hb
 generalize numR S 8=R at *
 obtain⟨T,x⟩:=R
 have hlt':x<18446744073709551616:=hlt
 have HS:=hid (z5v x hlt')
 clear hlt
 go_enter Tryz.func138,Tryz.ntmps138
 go_wp2_with fail
 refine HN.out.mono ?_
 rintro e w1 ⟨rfl,hw⟩
 have HW:=hid hw
 clear hw
 go_wp2_with fail
 go_ret
 refine⟨?_,HW.out⟩
 show Ending.returned (.int .i64 (wrap64 (x:Int)))=Ending.returned (.int .i64 (sgn x))
 rw [HS.out]
def Booled (w:World) (B:Nat) (p:Option Addr) (R:St × Bool) (e:Ending) (w':World):Prop:=e=.returned (.bool R.2)∧Went w B p R.1 w'
theorem bad_fault (B c:Nat) (p:Option Addr) (S:St) (x:Int) (w:World) (h:Rd w B p c S) :
 Calls Tryz.prog 153 #[.pointer (some ⟨B,0,none⟩),.int .i64 x] w fun e w'=>e=.returned (.tuple #[])∧Went w B p (bad x S) w':=by
 obtain⟨y,L⟩:=S
 by_cases hy:y=0
 · subst hy
   refine (z6p B x w h.c0 (h.free 0)).mono ?_
   rintro e w' ⟨rfl,rfl⟩
   exact⟨rfl,h.fault x⟩
 · have hb:bad x (y,L)=(y,L):=if_neg hy
   rw [hb]
   refine (z7o B y x w h.c0 (by simpa using hy)).mono ?_
   rintro e w' ⟨rfl,rfl⟩
   exact⟨rfl,Went.same h⟩
theorem bool_any (B c:Nat) (p:Option Addr) (S:St) (w:World) (h:Rd w B p c S) (hb:S.2.length≤1000000) :
 Calls Tryz.prog 137 #[.pointer (some ⟨B,0,none⟩)] w (Booled w B p (z2v S)):=by
 have HN:=hid (z7z B c p S 1 w h hb)
 unfold z2v
 clear h hb
 generalize numR S 1=R at *
 obtain⟨T,x⟩:=R
 by_cases hx:1<x
 · rw [if_pos (show 1<(T,x).2 from hx)]
   go_enter Tryz.func137,Tryz.ntmps137
   go_wp2_with fail
   refine HN.out.mono ?_
   rintro e w1 ⟨rfl,hw⟩
   obtain⟨p',c',hr,hf⟩:=hw.rd
   have HW:=hid hw
   have HB:=hid (bad_fault B c' p' T 8 w1 hr)
   have HF:=hid hf
   clear hw hr hf
   go_wp2_with fail
   refine HB.out.mono ?_
   rintro e w2 ⟨rfl,hw⟩
   have HW2:=hid hw
   clear hw
   go_wp2_with fail
   go_ret
   exact⟨rfl,HW.out.trans HF.out HW2.out⟩
 · rw [if_neg (show ¬ 1<(T,x).2 from hx)]
   go_enter Tryz.func137,Tryz.ntmps137
   go_wp2_with fail
   refine HN.out.mono ?_
   rintro e w1 ⟨rfl,hw⟩
   have HW:=hid hw
   clear hw
   go_wp2_with fail
   go_ret
   refine⟨?_,HW.out⟩
   show Ending.returned (.bool ((x:Int)==1))=Ending.returned (.bool (x==1))
   rw [show ((x:Int)==1)=(x==1) by rw [Bool.eq_iff_iff];simp;omega]
def q3f (w:World) (B:Nat) (p:Option Addr) (R:St × List Nat) (e:Ending) (w':World):Prop:=∃ v,e=.returned v∧Row w' v R.2.length R.2∧(∀ k,v.ownBlock=some k→w.heap.size≤k)∧Went w B p R.1 w'
theorem took_copied {w w1 w2:World} {B:Nat} {p q:Option Addr} {R:St × List Nat} {e:Ending} {m:Nat} (h:Went w B p R.1 w1) (hm:R.2.length=m) (hc:q2g w1 m R.2 e w2):q3f w B p R e w2:=by
 obtain⟨v,rfl,h1,h2,h3⟩:=hc
 obtain⟨p',c',hr,hf⟩:=h.rd
 subst hm
 have hc2:Chg (fun _=>False) w1 w2:=Chg.of_below h2
 exact⟨v,rfl,h1,fun k hk=>Nat.le_trans h.chg.size (h3 k hk),⟨p',c',hr.chg hc2 (fun h=>h) (fun _ _ h=>h),hf⟩,h.chg.trans hc2 fun _ _ h=>h.elim⟩
theorem bytes_any (B c:Nat) (p:Option Addr) (S:St) (most:Int) (w:World) (h:Rd w B p c S) (hb:S.2.length≤90000) :
 Calls Tryz.prog 139 #[.pointer (some ⟨B,0,none⟩),.int .i64 most] w (q3f w B p (z1d S most)):=by
 have HN:=hid (z7z B c p S 2 w h (by omega))
 have hl1:(numR S 2).1.2.length≤90000:=by
  show (if (1:Int)≤2∧(2:Int)≤8 then ((z1i S 2).1,un (z1i S 2).2) else _).1.2.length≤90000
  rw [if_pos (by omega)]
  show (z1i S 2).1.2.length≤90000
  unfold z1i
  split
  · split
    · exact hb
    · rw [List.length_drop];omega
  · exact hb
 have hx2:(numR S 2).2<65536:=by
  show (if (1:Int)≤2∧(2:Int)≤8 then ((z1i S 2).1,un (z1i S 2).2) else _).2<65536
  rw [if_pos (by omega)]
  show un (z1i S 2).2<65536
  have a:=q0g _ (z7i S 2 h.row.lt)
  have b:256 ^ (z1i S 2).2.length≤256 ^ 2:=Nat.pow_le_pow_right (by omega) (z4w _ _)
  omega
 unfold z1d
 clear h hb
 generalize numR S 2=R at *
 obtain⟨T,x⟩:=R
 replace hx2:x<65536:=hx2
 replace hl1:T.2.length≤90000:=hl1
 show Calls _ _ _ _ (q3f w B p (z1i (if most<(x:Int) then bad 7 T else T) x))
 by_cases hx:most<(x:Int)
 · rw [if_pos hx]
   have hl2:(bad 7 T).2.length≤90000:=by unfold bad;split <;> exact hl1
   have hx1:((x:Int) > most):=hx
   go_enter Tryz.func139,Tryz.ntmps139
   go_wp2_with fail
   refine HN.out.mono ?_
   rintro e w1 ⟨rfl,hw⟩
   obtain⟨p',c',hr,hf⟩:=hw.rd
   have HW:=hid hw
   have HB:=hid (bad_fault B c' p' T 7 w1 hr)
   have HF:=hid hf
   clear hw hr hf
   go_wp2_with fail
   refine HB.out.mono ?_
   rintro e w2 ⟨rfl,hw⟩
   replace hw:=HW.out.trans HF.out hw
   obtain⟨p2,c2,hr,hf⟩:=hw.rd
   have HW2:=hid hw
   have HT:=hid (q0h B c2 x p2 (bad 7 T) w2 hr (by omega) (by omega))
   have HF2:=hid hf
   clear hw hr hf HW HB HF
   go_wp2_with fail
   refine HT.out.mono ?_
   rintro e w3 ⟨q,m,d,rfl,hs,_,hw⟩
   have hm:=hs.len
   have hml:=z4w (bad 7 T) x
   have HC:=hid (z6i q m d _ w3 hs (by omega))
   have HM:=hid hm
   have HW3:=hid (HW2.out.trans HF2.out hw)
   clear hs hw hm hml
   go_wp2_with fail
   refine HC.out.mono ?_
   intro e w4 hc
   have HD:=hid (took_copied (q:=q) HW3.out HM.out hc)
   obtain⟨v,rfl,_⟩:=hc
   go_wp2_with fail
   go_ret
   exact HD.out
 · rw [if_neg hx]
   have hx1:¬ ((x:Int) > most):=hx
   go_enter Tryz.func139,Tryz.ntmps139
   go_wp2_with fail
   refine HN.out.mono ?_
   rintro e w1 ⟨rfl,hw⟩
   obtain⟨p2,c2,hr,hf⟩:=hw.rd
   have HW2:=hid hw
   have HT:=hid (q0h B c2 x p2 T w1 hr (by omega) (by omega))
   have HF2:=hid hf
   clear hw hr hf
   go_wp2_with fail
   refine HT.out.mono ?_
   rintro e w3 ⟨q,m,d,rfl,hs,_,hw⟩
   have hm:=hs.len
   have hml:=z4w T x
   have HC:=hid (z6i q m d _ w3 hs (by omega))
   have HM:=hid hm
   have HW3:=hid (HW2.out.trans HF2.out hw)
   clear hs hw hm hml
   go_wp2_with fail
   refine HC.out.mono ?_
   intro e w4 hc
   have HD:=hid (took_copied (q:=q) HW3.out HM.out hc)
   obtain⟨v,rfl,_⟩:=hc
   go_wp2_with fail
   go_ret
   exact HD.out
end Go.Proofs.YtfdgnniicjdjdaaGreatDoor
