import Derived.Test.YtfdgnniicjdjdaaGreatDoorPS99
import Derived.Test.YtfdgnniicjdjdaaGreatDoorPS32
import Derived.Test.YtfdgnniicjdjdaaGreatDoorPS39
namespace Go.Proofs.YtfdgnniicjdjdaaGreatDoor
open Go.Lib (hid)
set_option maxHeartbeats 16000000
open Go.RowKit Go.ChangeShapes Go.WideShapes
set_option linter.unusedVariables false
set_option linter.unusedSimpArgs false
set_option maxRecDepth 10000
theorem wpList_store_ln {ops:Array Oper} {rest:List Oper} {a:Act} {w:World} {Q:Exit→Act→World→Prop} {dst:Option Tmp} {x y:Operand} {ty:TypeId} {pos:String} {after:Array Edge} {B:Nat} {x0 q:Int} (hB:w.heap[B]?=some (.cells #[.int .u8 0,.int .i64 0] 234 (0,0)))
 (hx:a.eval x=.pointer (some ⟨B,0,none⟩)) (hy:a.eval y=.agg #[.int .u8 x0,.int .i64 q])
 (h:wpList Tryz.prog ops Q rest (a.put dst undef) (w.setRow B #[.int .u8 x0,.int .i64 q])):wpList Tryz.prog ops Q (Oper.mk dst (.store 234 x y) ty pos after none::rest) a w :=
 wpList_store_row rfl 234 x y rfl B #[.int .u8 x0,.int .i64 q] hx hy 234 #[.int .u8 0,.int .i64 0] hB (by kernel_rfl) rfl (by simp [Value.oneCell']) h
theorem wpList_store_tk {ops:Array Oper} {rest:List Oper} {a:Act} {w:World} {Q:Exit→Act→World→Prop} {dst:Option Tmp} {x y:Operand} {ty:TypeId} {pos:String} {after:Array Edge} {B:Nat} {x0 x1 x2 q:Int} (hB:w.heap[B]?=some (.cells #[.int .u32 0,.int .u8 0,.int .u8 0,.int .i64 0] 204 (0,0)))
 (hx:a.eval x=.pointer (some ⟨B,0,none⟩)) (hy:a.eval y=.agg #[.int .u32 x0,.int .u8 x1,.int .u8 x2,.int .i64 q])
 (h:wpList Tryz.prog ops Q rest (a.put dst undef) (w.setRow B #[.int .u32 x0,.int .u8 x1,.int .u8 x2,.int .i64 q])):wpList Tryz.prog ops Q (Oper.mk dst (.store 204 x y) ty pos after none::rest) a w :=
 wpList_store_row rfl 204 x y rfl B #[.int .u32 x0,.int .u8 x1,.int .u8 x2,.int .i64 q] hx hy 204 #[.int .u32 0,.int .u8 0,.int .u8 0,.int .i64 0] hB (by kernel_rfl) rfl (by simp [Value.oneCell']) h
theorem zline {w:World} {N B X:Nat} {m:Int} {S:St} (h:Zr w N B X m S):Calls Tryz.prog 167 #[.pointer (some ⟨X,0,none⟩)] w fun e w'=>e=.returned (.agg #[.int .u8 (((numR S 1).2:Nat):Int),.int .i64 (sgn (numR (numR S 1).1 8).2)])∧Zr w' N B X m (z1c S).1∧Chg (fun k=>k=B∨k=X) w w':=by
 have hrec:(z1c S).1=(numR (numR S 1).1 8).1:=rfl
 rw [hrec]
 obtain⟨R0,hR0⟩:∃ R,numR S 1=R:=⟨_,rfl⟩
 rw [hR0]
 obtain⟨R1,hR1⟩:∃ R,numR R0.1 8=R:=⟨_,rfl⟩
 rw [hR1]
 have HR0:=hid hR0
 have HR1:=hid hR1
 clear hrec hR0 hR1
 obtain⟨w1,hw1,hy,hb⟩:∃ w1,w.alloc (.cells #[.int .u8 0,.int .i64 0] 234)=w1∧w1.heap[w.heap.size]?=some (.cells #[.int .u8 0,.int .i64 0] 234 (0,0))∧Below w.heap.size w w1:=⟨_,rfl,z0b w _,(Below.refl _ _).alloc (Nat.le_refl _) _⟩
 have hsz:=h.size
 have hlow:=h.low
 have HZ0:=hid (h.below hb)
 have HC0:Hid (Chg (fun k=>k=B∨k=X) w w1):=hid (z7q hb)
 have HY0:=hid hy
 have HW1:=hid hw1
 have hlt1:=z0g hy
 clear hw1 hy hb h
 have x0:=HZ0.out.c0
 go_enter Tryz.func167,Tryz.ntmps167
 go_upto_region 1 with (fail)
 rw [HW1.out]
 have hn0:=z8s HZ0.out 1
 rw [HR0.out] at hn0
 have hf0:R0.2<256:=by have:=z2x HZ0.out.bytes (n:=1) (by omega) (by omega);rw [show (((1:Nat):Int))=1 from rfl,HR0.out] at this;exact this
 have hx0:IntKind.u8.wrap ((R0.2:Nat):Int)=(R0.2:Nat):=by simp [IntKind.wrap,IntKind.bits,IntKind.signed];omega
 go_wp2_with fail
 refine hn0.mono ?_
 rintro e y0 ⟨rfl,hz,hc⟩
 have HZ1:=hid hz
 have HC1:=hid (z2p HC0.out hc)
 have HY1:=hid ((hc.block w.heap.size (by have:=HZ0.out.size;have:=HC0.out.size;have:=z0g HY0.out;omega) (by omega)).trans HY0.out)
 clear hz hc hn0 x0
 have x0:=HZ1.out.c0
 have hn1:=q3b HZ1.out
 rw [HR1.out] at hn1
 go_wp2_with fail
 refine hn1.mono ?_
 rintro e y1 ⟨rfl,hz,hc⟩
 have HZ2:=hid hz
 have HC2:=hid (z2p HC1.out hc)
 have HY2:=hid ((hc.block w.heap.size (by have:=HZ1.out.size;have:=HC1.out.size;have:=z0g HY1.out;omega) (by omega)).trans HY1.out)
 clear hz hc hn1 x0
 have x0:=HZ2.out.c0
 obtain⟨C,hC⟩:∃ C:Array Value,#[.int .u8 ((R0.2:Nat):Int),.int .i64 (sgn R1.2)]=C:=⟨_,rfl⟩
 have hset:Chg (fun k=>N≤k) y1 (y1.setRow w.heap.size C):=⟨rfl,rfl,rfl,by simp [World.setRow],fun k _ hk=>setRow_other _ _ _ _ (by omega)⟩
 have HZF:=hid (HZ2.out.later hset)
 have HRF:=hid (setRow_heap y1 w.heap.size _ C _ _ HY2.out)
 have HCF:Hid (Chg (fun k=>k=B∨k=X) w (y1.setRow w.heap.size C)):=hid ⟨HC2.out.os,HC2.out.tape,HC2.out.output,Nat.le_trans HC2.out.size (by simp [World.setRow]),fun k hk hn=>(setRow_other _ _ _ _ (by omega)).trans (HC2.out.block k hk hn)⟩
 have HFIN:Hid ((.returned (.agg C):Ending)=.returned (.agg #[.int .u8 ((R0.2:Nat):Int),.int .i64 (sgn R1.2)])):=hid (by rw [hC])
 clear hset
 subst hC
 go_wp2_with ((with_reducible refine wpList_store_ln (B:=w.heap.size) (x0:=((R0.2:Nat):Int)) (q:=sgn R1.2) HY2.out ?_ ?_ ?_);rfl;rfl)
 (try simp only [Exit.inBlock,Exit.then])
 refine bodyPost_ret (v:=.agg #[.int .u8 ((R0.2:Nat):Int),.int .i64 (sgn R1.2)]) ?_ rfl ⟨rfl,HZF.out,HCF.out⟩
 exact results_cell_row rfl _ _ w.heap.size 234 _ (0,0) _ rfl HRF.out Tryz.underlying234 rfl (by kernel_rfl)
theorem ztake {w:World} {N B X:Nat} {m:Int} {S:St} (h:Zr w N B X m S):Calls Tryz.prog 169 #[.pointer (some ⟨X,0,none⟩)] w fun e w'=>e=.returned (.agg #[.int .u32 (((numR S 4).2:Nat):Int),.int .u8 (((numR (numR S 4).1 1).2:Nat):Int),.int .u8 (((numR (numR (numR S 4).1 1).1 1).2:Nat):Int),.int .i64 (sgn (numR (numR (numR (numR S 4).1 1).1 1).1 8).2)])∧Zr w' N B X m (tkR S).1∧Chg (fun k=>k=B∨k=X) w w':=by
 have hrec:(tkR S).1=(numR (numR (numR (numR S 4).1 1).1 1).1 8).1:=rfl
 rw [hrec]
 obtain⟨R0,hR0⟩:∃ R,numR S 4=R:=⟨_,rfl⟩
 rw [hR0]
 obtain⟨R1,hR1⟩:∃ R,numR R0.1 1=R:=⟨_,rfl⟩
 rw [hR1]
 obtain⟨R2,hR2⟩:∃ R,numR R1.1 1=R:=⟨_,rfl⟩
 rw [hR2]
 obtain⟨R3,hR3⟩:∃ R,numR R2.1 8=R:=⟨_,rfl⟩
 rw [hR3]
 have HR0:=hid hR0
 have HR1:=hid hR1
 have HR2:=hid hR2
 have HR3:=hid hR3
 clear hrec hR0 hR1 hR2 hR3
 obtain⟨w1,hw1,hy,hb⟩:∃ w1,w.alloc (.cells #[.int .u32 0,.int .u8 0,.int .u8 0,.int .i64 0] 204)=w1∧w1.heap[w.heap.size]?=some (.cells #[.int .u32 0,.int .u8 0,.int .u8 0,.int .i64 0] 204 (0,0))∧Below w.heap.size w w1:=⟨_,rfl,z0b w _,(Below.refl _ _).alloc (Nat.le_refl _) _⟩
 have hsz:=h.size
 have hlow:=h.low
 have HZ0:=hid (h.below hb)
 have HC0:Hid (Chg (fun k=>k=B∨k=X) w w1):=hid (z7q hb)
 have HY0:=hid hy
 have HW1:=hid hw1
 have hlt1:=z0g hy
 clear hw1 hy hb h
 have x0:=HZ0.out.c0
 go_enter Tryz.func169,Tryz.ntmps169
 go_upto_region 1 with (fail)
 rw [HW1.out]
 have hn0:=z8s HZ0.out 4
 rw [HR0.out] at hn0
 have hf0:R0.2<4294967296:=by have:=z2x HZ0.out.bytes (n:=4) (by omega) (by omega);rw [show (((4:Nat):Int))=4 from rfl,HR0.out] at this;exact this
 have hx0:IntKind.u32.wrap ((R0.2:Nat):Int)=(R0.2:Nat):=by simp [IntKind.wrap,IntKind.bits,IntKind.signed];omega
 go_wp2_with fail
 refine hn0.mono ?_
 rintro e y0 ⟨rfl,hz,hc⟩
 have HZ1:=hid hz
 have HC1:=hid (z2p HC0.out hc)
 have HY1:=hid ((hc.block w.heap.size (by have:=HZ0.out.size;have:=HC0.out.size;have:=z0g HY0.out;omega) (by omega)).trans HY0.out)
 clear hz hc hn0 x0
 have x0:=HZ1.out.c0
 have hn1:=z8s HZ1.out 1
 rw [HR1.out] at hn1
 have hf1:R1.2<256:=by have:=z2x HZ1.out.bytes (n:=1) (by omega) (by omega);rw [show (((1:Nat):Int))=1 from rfl,HR1.out] at this;exact this
 have hx1:IntKind.u8.wrap ((R1.2:Nat):Int)=(R1.2:Nat):=by simp [IntKind.wrap,IntKind.bits,IntKind.signed];omega
 go_wp2_with fail
 refine hn1.mono ?_
 rintro e y1 ⟨rfl,hz,hc⟩
 have HZ2:=hid hz
 have HC2:=hid (z2p HC1.out hc)
 have HY2:=hid ((hc.block w.heap.size (by have:=HZ1.out.size;have:=HC1.out.size;have:=z0g HY1.out;omega) (by omega)).trans HY1.out)
 clear hz hc hn1 x0
 have x0:=HZ2.out.c0
 have hn2:=z8s HZ2.out 1
 rw [HR2.out] at hn2
 have hf2:R2.2<256:=by have:=z2x HZ2.out.bytes (n:=1) (by omega) (by omega);rw [show (((1:Nat):Int))=1 from rfl,HR2.out] at this;exact this
 have hx2:IntKind.u8.wrap ((R2.2:Nat):Int)=(R2.2:Nat):=by simp [IntKind.wrap,IntKind.bits,IntKind.signed];omega
 go_wp2_with fail
 refine hn2.mono ?_
 rintro e y2 ⟨rfl,hz,hc⟩
 have HZ3:=hid hz
 have HC3:=hid (z2p HC2.out hc)
 have HY3:=hid ((hc.block w.heap.size (by have:=HZ2.out.size;have:=HC2.out.size;have:=z0g HY2.out;omega) (by omega)).trans HY2.out)
 clear hz hc hn2 x0
 have x0:=HZ3.out.c0
 have hn3:=q3b HZ3.out
 rw [HR3.out] at hn3
 go_wp2_with fail
 refine hn3.mono ?_
 rintro e y3 ⟨rfl,hz,hc⟩
 have HZ4:=hid hz
 have HC4:=hid (z2p HC3.out hc)
 have HY4:=hid ((hc.block w.heap.size (by have:=HZ3.out.size;have:=HC3.out.size;have:=z0g HY3.out;omega) (by omega)).trans HY3.out)
 clear hz hc hn3 x0
 have x0:=HZ4.out.c0
 obtain⟨C,hC⟩:∃ C:Array Value,#[.int .u32 ((R0.2:Nat):Int),.int .u8 ((R1.2:Nat):Int),.int .u8 ((R2.2:Nat):Int),.int .i64 (sgn R3.2)]=C:=⟨_,rfl⟩
 have hset:Chg (fun k=>N≤k) y3 (y3.setRow w.heap.size C):=⟨rfl,rfl,rfl,by simp [World.setRow],fun k _ hk=>setRow_other _ _ _ _ (by omega)⟩
 have HZF:=hid (HZ4.out.later hset)
 have HRF:=hid (setRow_heap y3 w.heap.size _ C _ _ HY4.out)
 have HCF:Hid (Chg (fun k=>k=B∨k=X) w (y3.setRow w.heap.size C)):=hid ⟨HC4.out.os,HC4.out.tape,HC4.out.output,Nat.le_trans HC4.out.size (by simp [World.setRow]),fun k hk hn=>(setRow_other _ _ _ _ (by omega)).trans (HC4.out.block k hk hn)⟩
 have HFIN:Hid ((.returned (.agg C):Ending)=.returned (.agg #[.int .u32 ((R0.2:Nat):Int),.int .u8 ((R1.2:Nat):Int),.int .u8 ((R2.2:Nat):Int),.int .i64 (sgn R3.2)])):=hid (by rw [hC])
 clear hset
 subst hC
 go_wp2_with ((with_reducible refine wpList_store_tk (B:=w.heap.size) (x0:=((R0.2:Nat):Int)) (x1:=((R1.2:Nat):Int)) (x2:=((R2.2:Nat):Int)) (q:=sgn R3.2) HY4.out ?_ ?_ ?_);rfl;rfl)
 (try simp only [Exit.inBlock,Exit.then])
 refine bodyPost_ret (v:=.agg #[.int .u32 ((R0.2:Nat):Int),.int .u8 ((R1.2:Nat):Int),.int .u8 ((R2.2:Nat):Int),.int .i64 (sgn R3.2)]) ?_ rfl ⟨rfl,HZF.out,HCF.out⟩
 exact results_cell_row rfl _ _ w.heap.size 204 _ (0,0) _ rfl HRF.out Tryz.underlying204 rfl (by kernel_rfl)
theorem own_low {w w':World} {N B X base:Nat} {T:TypeId} {k:Nat} {v:Value} {n:Nat} {xs:List Value} (h:w.ownsRow base T k v n xs) (hb:N≤base) (hl:B<N∧X<N) (hc:Chg (fun k=>k=B∨k=X) w w'):w'.ownsRow base T k v n xs:=by
 refine⟨h.1,?_⟩
 rcases h.2 with hn | ⟨g,cap,cur,rfl,h1,h2,h3⟩
 · exact .inl hn
 · exact .inr ⟨g,cap,cur,rfl,h1,(hc.block g (z0g h2) (by omega)).trans h2,h3⟩
theorem tk_news (w:World) (x:Tk):∀ ad,(some (⟨w.heap.size,0,none⟩:Addr))=some ad→∀ j u,(z1e tkc [x])[j]?=some u→(w.alloc (.cells #[.int .u32 x.1,.int .u8 x.2.1,.int .u8 x.2.2.1,.int .i64 x.2.2.2] 204)).cell? (ad.add j)=some u:=by
 intro ad he j u hu
 cases he
 rw [Go.WideShapes.add_plain,Nat.zero_add]
 refine z0a (z0b w _) ?_
 rw [z5r] at hu
 simpa [tkc] using hu
theorem zlist_ln {w:World} {N B X:Nat} {m:Int} {S:St} (h:Zr w N B X m S) (most:Nat) (hmost:most≤100):Calls Tryz.prog 166 #[.pointer (some ⟨X,0,none⟩),.int .i64 (most:Nat),.func (.func 167) #[.pointer (some ⟨X,0,none⟩)] #[]] w fun e w'=>∃ p c,e=.returned (.slice p (z2n z1c most S).1.2.length c)∧LL w' p (z2n z1c most S).1.2.length c (z2n z1c most S).1.2∧(∀ a,p=some a→w.heap.size≤a.block)∧Zr w' N B X (if (z2n z1c most S).2=true then 8 else m) (z2n z1c most S).1.1∧Chg (fun k=>k=B∨k=X) w w':=by
 have hn:=z8s h 1
 have hlt:=z2x h.bytes (n:=1) (by omega) (by omega)
 have hco:z2n z1c most S=if most<(numR S 1).2 then (((numR S 1).1,[]),true) else (z0z z1c (numR S 1).2 (numR S 1).1,false):=rfl
 rw [show (((1:Nat):Int))=1 from rfl] at hlt
 rw [hco]
 clear hco
 generalize numR S 1=R at *
 obtain⟨S1,n⟩:=R
 dsimp only at hn hlt ⊢
 have hwn:IntKind.i64.wrap ((n:Nat):Int)=(n:Nat):=IntWalk.i64_in _ (by omega)
 have hwn2:wrap64 ((n:Nat):Int)=(n:Nat):=IntWalk.wrap64_in _ (by omega)
 have hNs:=h.size
 have HLOW:=hid h.low
 have x0:=h.c0
 clear h
 by_cases hmx:most<n
 case pos =>
  have d1:decide ((most:Int)<n)=true:=decide_eq_true (by omega)
  have d1n:decide (most<n)=true:=decide_eq_true hmx
  rw [if_pos hmx]
  clear hmx
  go_enter Tryz.func166,Tryz.ntmps166
  go_wp2_with fail
  refine hn.mono ?_
  rintro e w1 ⟨rfl,hz,hc⟩
  have HZ:=hid hz
  have HC:=hid hc
  have HM:=hid (hz.mark 8)
  have x1:=hz.c1
  have f1:=hz.free 1
  clear hn hz hc x0
  have x0:=HZ.out.c0
  go_wp2_with fail
  go_ret
  exact⟨none,0,rfl,SlG.empty _,(fun a ha=>by cases ha),HM.out.1,z2p HC.out HM.out.2⟩
 have d1:decide ((most:Int)<n)=false:=decide_eq_false (by omega)
 have d1n:decide (most<n)=false:=decide_eq_false hmx
 rw [if_neg hmx]
 dsimp only
 rw [if_neg (show ¬ (false=true) by decide),z2t]
 have hn100:n≤100:=by omega
 clear hmx
 go_enter Tryz.func166,Tryz.ntmps166
 go_wp2_with fail
 refine hn.mono ?_
 rintro e w1 ⟨rfl,hz,hc⟩
 have HZ:=hid hz
 have HC:=hid hc
 clear hn hz hc x0
 go_wp2_with fail
 go_loopw [8,22] (fun v i wr=>∃ j:Nat,j≤n∧i=.int .i64 j∧Hid (Zr wr N B X m (z0z z1c j S1).1)∧Hid (wr.ownsRow w.heap.size 234 2 v j (z1e lc (z0z z1c j S1).2))∧Hid (Chg (fun k=>k=B∨k=X) w wr)) (fun _ i _=>n-(Go.RowKit.intOf i).toNat)
 case atStart=>exact⟨0,Nat.zero_le _,rfl,HZ,hid (World.ownsRow_nil _ _ _ _),HC⟩
 case round =>
  obtain⟨j,hj,rfl,HZj,HOj,HCj⟩:=hrel
  by_cases hltj:j<n
  case neg =>
   obtain rfl:n=j:=by omega
   obtain⟨pv,cv,hv,hs,hp⟩:=SlG.of_own (d:=l0) q1g (by decide) HOj.out
   subst hv
   have HS:=hid hs
   have HP:=hid hp
   clear hs hp
   go_wp2_with fail
   go_ret
   exact⟨pv,cv,rfl,HS.out,HP.out,HZj.out,HCj.out⟩
  have hltj':(j:Int)<n:=by omega
  have hon:=zline HZj.out
  have z4e:z0z z1c (j+1) S1=((z1c (z0z z1c j S1).1).1,(z0z z1c j S1).2 ++ [(z1c (z0z z1c j S1).1).2]):=rfl
  have HST:=hid z4e
  have hml:=z2t (f:=z1c) S1 j
  have HML:=hid hml
  change Calls _ _ _ _ (fun e w'=>e=.returned (.agg #[.int .u8 (z1c (z0z z1c j S1).1).2.1,.int .i64 (z1c (z0z z1c j S1).1).2.2])∧Zr w' N B X m (z1c (z0z z1c j S1).1).1∧Chg (fun k=>k=B∨k=X) wr w') at hon
  clear z4e hml
  generalize z1c (z0z z1c j S1).1=Q at *
  obtain⟨S2,x⟩:=Q
  generalize z0z z1c j S1=Mj at *
  obtain⟨Sj,Lj⟩:=Mj
  dsimp only at hon HST HML HZj HOj
  obtain⟨w2,hw2⟩:∃ x,x=wr:=⟨_,rfl⟩
  subst hw2
  go_wp2_with fail
  refine hon.mono ?_
  rintro e w3 ⟨rfl,hz3,hc3⟩
  have hO3:=own_low HOj.out hNs HLOW.out hc3
  have hba:Below w3.heap.size w3 (w3.alloc (.cells #[.int .u8 x.1,.int .i64 x.2] 234)):=(Below.refl _ _).alloc (Nat.le_refl _) _
  have HZ3:=hid (hz3.below hba)
  have HC3:=hid (z2p HCj.out (z2p hc3 (z7q hba)))
  have HO3:=hid (z3g (hO3.alloc (.cells #[.int .u8 x.1,.int .i64 x.2] 234)))
  have HOB:=hid hO3
  clear hon hz3 hc3 hba hO3
  go_wp2_with (at_builtin;refine z1v (k:=2) (by decide) Tryz.underlying46 info_ln rfl (by omega) rfl _ _ rfl u8 j (z1e lc Lj) rfl HO3.out (some ⟨w3.heap.size,0,none⟩) 1 1 (z1e lc [x]) rfl rfl (fun h=>by cases h) (z4d w3 x) (z2m z8o _) (by omega) ?_;intro p4 c4 w4 g1 g2 g3)
  have hbase:∀ b,(Value.slice p4 (j+1) c4).ownBlock=some b→w.heap.size≤b:=fun b hb=>by
   rcases g3 b hb with hk | hk
   · exact (HOB.out.lt b hk).1
   · have:=HC3.out.size;omega
  rw [← z1q] at g1
  have HO4:=hid (z9k g1 hbase)
  have hc4:Chg (fun k=>N≤k) _ w4:=g2.mono fun b _ hb=>by have:=(HOB.out.lt b hb).1;omega
  have HZ4:=hid (HZ3.out.later hc4)
  have HC4:Hid (Chg (fun k=>k=B∨k=X) w w4):=hid ⟨g2.os.trans HC3.out.os,g2.tape.trans HC3.out.tape,g2.output.trans HC3.out.output,Nat.le_trans HC3.out.size g2.size,fun b hb hn=>(g2.block b (Nat.lt_of_lt_of_le hb HC3.out.size) fun hk=>by have:=(HOB.out.lt b hk).1;omega).trans (HC3.out.block b hb hn)⟩
  clear g1 g2 g3 hbase hc4
  go_roundw
  case rel=>exact⟨j+1,by omega,by go_num,hid (by rw [HST.out];exact HZ4.out),hid (by rw [HST.out];exact HO4.out),HC4⟩
  case measure=>simp [Go.RowKit.intOf];omega
theorem zlist_tk {w:World} {N B X:Nat} {m:Int} {S:St} (h:Zr w N B X m S) (most:Nat) (hmost:most≤100):Calls Tryz.prog 168 #[.pointer (some ⟨X,0,none⟩),.int .i64 (most:Nat),.func (.func 169) #[.pointer (some ⟨X,0,none⟩)] #[]] w fun e w'=>∃ p c,e=.returned (.slice p (z2n tkR most S).1.2.length c)∧TKL w' p (z2n tkR most S).1.2.length c (z2n tkR most S).1.2∧(∀ a,p=some a→w.heap.size≤a.block)∧Zr w' N B X (if (z2n tkR most S).2=true then 8 else m) (z2n tkR most S).1.1∧Chg (fun k=>k=B∨k=X) w w':=by
 have hn:=z8s h 1
 have hlt:=z2x h.bytes (n:=1) (by omega) (by omega)
 have hco:z2n tkR most S=if most<(numR S 1).2 then (((numR S 1).1,[]),true) else (z0z tkR (numR S 1).2 (numR S 1).1,false):=rfl
 rw [show (((1:Nat):Int))=1 from rfl] at hlt
 rw [hco]
 clear hco
 generalize numR S 1=R at *
 obtain⟨S1,n⟩:=R
 dsimp only at hn hlt ⊢
 have hwn:IntKind.i64.wrap ((n:Nat):Int)=(n:Nat):=IntWalk.i64_in _ (by omega)
 have hwn2:wrap64 ((n:Nat):Int)=(n:Nat):=IntWalk.wrap64_in _ (by omega)
 have hNs:=h.size
 have HLOW:=hid h.low
 have x0:=h.c0
 clear h
 by_cases hmx:most<n
 case pos =>
  have d1:decide ((most:Int)<n)=true:=decide_eq_true (by omega)
  have d1n:decide (most<n)=true:=decide_eq_true hmx
  rw [if_pos hmx]
  clear hmx
  go_enter Tryz.func168,Tryz.ntmps168
  go_wp2_with fail
  refine hn.mono ?_
  rintro e w1 ⟨rfl,hz,hc⟩
  have HZ:=hid hz
  have HC:=hid hc
  have HM:=hid (hz.mark 8)
  have x1:=hz.c1
  have f1:=hz.free 1
  clear hn hz hc x0
  have x0:=HZ.out.c0
  go_wp2_with fail
  go_ret
  exact⟨none,0,rfl,SlG.empty _,(fun a ha=>by cases ha),HM.out.1,z2p HC.out HM.out.2⟩
 have d1:decide ((most:Int)<n)=false:=decide_eq_false (by omega)
 have d1n:decide (most<n)=false:=decide_eq_false hmx
 rw [if_neg hmx]
 dsimp only
 rw [if_neg (show ¬ (false=true) by decide),z2t]
 have hn100:n≤100:=by omega
 clear hmx
 go_enter Tryz.func168,Tryz.ntmps168
 go_wp2_with fail
 refine hn.mono ?_
 rintro e w1 ⟨rfl,hz,hc⟩
 have HZ:=hid hz
 have HC:=hid hc
 clear hn hz hc x0
 go_wp2_with fail
 go_loopw [8,22] (fun v i wr=>∃ j:Nat,j≤n∧i=.int .i64 j∧Hid (Zr wr N B X m (z0z tkR j S1).1)∧Hid (wr.ownsRow w.heap.size 204 4 v j (z1e tkc (z0z tkR j S1).2))∧Hid (Chg (fun k=>k=B∨k=X) w wr)) (fun _ i _=>n-(Go.RowKit.intOf i).toNat)
 case atStart=>exact⟨0,Nat.zero_le _,rfl,HZ,hid (World.ownsRow_nil _ _ _ _),HC⟩
 case round =>
  obtain⟨j,hj,rfl,HZj,HOj,HCj⟩:=hrel
  by_cases hltj:j<n
  case neg =>
   obtain rfl:n=j:=by omega
   obtain⟨pv,cv,hv,hs,hp⟩:=SlG.of_own (d:=tk0) q1l (by decide) HOj.out
   subst hv
   have HS:=hid hs
   have HP:=hid hp
   clear hs hp
   go_wp2_with fail
   go_ret
   exact⟨pv,cv,rfl,HS.out,HP.out,HZj.out,HCj.out⟩
  have hltj':(j:Int)<n:=by omega
  have hon:=ztake HZj.out
  have z4e:z0z tkR (j+1) S1=((tkR (z0z tkR j S1).1).1,(z0z tkR j S1).2 ++ [(tkR (z0z tkR j S1).1).2]):=rfl
  have HST:=hid z4e
  have hml:=z2t (f:=tkR) S1 j
  have HML:=hid hml
  change Calls _ _ _ _ (fun e w'=>e=.returned (.agg #[.int .u32 (tkR (z0z tkR j S1).1).2.1,.int .u8 (tkR (z0z tkR j S1).1).2.2.1,.int .u8 (tkR (z0z tkR j S1).1).2.2.2.1,.int .i64 (tkR (z0z tkR j S1).1).2.2.2.2])∧Zr w' N B X m (tkR (z0z tkR j S1).1).1∧Chg (fun k=>k=B∨k=X) wr w') at hon
  clear z4e hml
  generalize tkR (z0z tkR j S1).1=Q at *
  obtain⟨S2,x⟩:=Q
  generalize z0z tkR j S1=Mj at *
  obtain⟨Sj,Lj⟩:=Mj
  dsimp only at hon HST HML HZj HOj
  obtain⟨w2,hw2⟩:∃ x,x=wr:=⟨_,rfl⟩
  subst hw2
  go_wp2_with fail
  refine hon.mono ?_
  rintro e w3 ⟨rfl,hz3,hc3⟩
  have hO3:=own_low HOj.out hNs HLOW.out hc3
  have hba:Below w3.heap.size w3 (w3.alloc (.cells #[.int .u32 x.1,.int .u8 x.2.1,.int .u8 x.2.2.1,.int .i64 x.2.2.2] 204)):=(Below.refl _ _).alloc (Nat.le_refl _) _
  have HZ3:=hid (hz3.below hba)
  have HC3:=hid (z2p HCj.out (z2p hc3 (z7q hba)))
  have HO3:=hid (z3g (hO3.alloc (.cells #[.int .u32 x.1,.int .u8 x.2.1,.int .u8 x.2.2.1,.int .i64 x.2.2.2] 204)))
  have HOB:=hid hO3
  clear hon hz3 hc3 hba hO3
  go_wp2_with (at_builtin;refine z1v (k:=4) (by decide) Tryz.underlying47 info_tk rfl (by omega) rfl _ _ rfl u8 j (z1e tkc Lj) rfl HO3.out (some ⟨w3.heap.size,0,none⟩) 1 1 (z1e tkc [x]) rfl rfl (fun h=>by cases h) (tk_news w3 x) (z2m tkc_one _) (by omega) ?_;intro p4 c4 w4 g1 g2 g3)
  have hbase:∀ b,(Value.slice p4 (j+1) c4).ownBlock=some b→w.heap.size≤b:=fun b hb=>by
   rcases g3 b hb with hk | hk
   · exact (HOB.out.lt b hk).1
   · have:=HC3.out.size;omega
  rw [← z1q] at g1
  have HO4:=hid (z9k g1 hbase)
  have hc4:Chg (fun k=>N≤k) _ w4:=g2.mono fun b _ hb=>by have:=(HOB.out.lt b hb).1;omega
  have HZ4:=hid (HZ3.out.later hc4)
  have HC4:Hid (Chg (fun k=>k=B∨k=X) w w4):=hid ⟨g2.os.trans HC3.out.os,g2.tape.trans HC3.out.tape,g2.output.trans HC3.out.output,Nat.le_trans HC3.out.size g2.size,fun b hb hn=>(g2.block b (Nat.lt_of_lt_of_le hb HC3.out.size) fun hk=>by have:=(HOB.out.lt b hk).1;omega).trans (HC3.out.block b hb hn)⟩
  clear g1 g2 g3 hbase hc4
  go_roundw
  case rel=>exact⟨j+1,by omega,by go_num,hid (by rw [HST.out];exact HZ4.out),hid (by rw [HST.out];exact HO4.out),HC4⟩
  case measure=>simp [Go.RowKit.intOf];omega
abbrev By (S:St):Prop:=∀ y∈S.2,y<256
theorem fit1 {S:St} (h:By S):(numR S 1).2<256:=z2x h (n:=1) (by omega) (by omega)
theorem fit4 {S:St} (h:By S):(numR S 4).2<4294967296:=z2x h (n:=4) (by omega) (by omega)
theorem fit8 {S:St} (h:By S):(numR S 8).2<18446744073709551616:=z2x h (n:=8) (by omega) (by omega)
theorem z3h {S:St} (h:By S):By (z1c S).1:=z0k (z0k h 1) 8
theorem z9y {S:St} (h:By S):By (tkR S).1:=z0k (z0k (z0k (z0k h 4) 1) 1) 8
theorem z6s {S:St} (h:By S):Lnok (z1c S).2:=⟨⟨by show (0:Int)≤((numR S 1).2:Nat);omega,by have:=fit1 h;show (((numR S 1).2:Nat):Int)≤255;omega⟩,z9g (fit8 (z0k h 1))⟩
theorem q2l {S:St} (h:By S):Tkok (tkR S).2:=by
 have h1:=fit4 h
 have h2:=fit1 (z0k h 4)
 have h3:=fit1 (z0k (z0k h 4) 1)
 exact⟨⟨by show (0:Int)≤((numR S 4).2:Nat);omega,by show (((numR S 4).2:Nat):Int)≤4294967295;omega⟩,⟨by show (0:Int)≤((numR (numR S 4).1 1).2:Nat);omega,by show (((numR (numR S 4).1 1).2:Nat):Int)≤255;omega⟩,⟨by show (0:Int)≤((numR (numR (numR S 4).1 1).1 1).2:Nat);omega,by show (((numR (numR (numR S 4).1 1).1 1).2:Nat):Int)≤255;omega⟩,z9g (fit8 (z0k (z0k (z0k h 4) 1) 1))⟩
theorem z8v {α:Type} {f:St→St × α} (hf:∀ S,By S→By (f S).1) {S:St} (h:By S):∀ n,By (z0z f n S).1
 | 0=>h
 | n+1=>hf _ (z8v hf h n)
theorem manyR_all {α:Type} {f:St→St × α} {Q:α→Prop} (hf:∀ S,By S→By (f S).1) (hq:∀ S,By S→Q (f S).2) {S:St} (h:By S):∀ n,∀ x∈(z0z f n S).2,Q x
 | 0,x,hx=>by cases hx
 | n+1,x,hx=>by
  have hx:x∈(z0z f n S).2 ++ [(f (z0z f n S).1).2]:=hx
  rcases List.mem_append.1 hx with hx | hx
  · exact manyR_all hf hq h n x hx
  · obtain rfl:=List.mem_singleton.1 hx
    exact hq _ (z8v hf h n)
theorem z6r {α:Type} {f:St→St × α} (hf:∀ S,By S→By (f S).1) (most:Nat) {S:St} (h:By S):By (z2n f most S).1.1:=by
 unfold z2n
 split
 · exact z0k h 1
 · exact z8v hf (z0k h 1) _
theorem z3r {α:Type} {f:St→St × α} {Q:α→Prop} (hf:∀ S,By S→By (f S).1) (hq:∀ S,By S→Q (f S).2) (most:Nat) {S:St} (h:By S):∀ x∈(z2n f most S).1.2,Q x:=by
 unfold z2n
 split
 · intro x hx;cases hx
 · exact manyR_all hf hq (z0k h 1) _
theorem z4s {α:Type} (f:St→St × α) (most:Nat) (S:St):(z2n f most S).1.2.length≤most:=by
 unfold z2n
 split
 · exact Nat.zero_le _
 · rename_i h
   dsimp only
   rw [z2t]
   omega
abbrev zc:Array Value:=#[.int .u8 0,.int .u32 0,.int .u8 0,.slice none 0 0,.slice none 0 0,.slice none 0 0,.int .u8 0,.int .u8 0,.int .u8 0,.int .i64 0]
structure Dz (W w:World) (N B X Y R:Nat) (m:Int) (S:St) (C:Array Value):Prop where
 z:Zr w N B X m S
 y:w.heap[Y]?=some (.cells C 49 (0,0))
 r:w.heap[R]?=some (.cells zc 49 (0,0))
 yn:N≤Y
 rn:R≠B∧R≠X∧R<N
 below:Below W.heap.size W w
 base:W.heap.size≤B∧W.heap.size≤X∧W.heap.size≤R
theorem Dz.low {W w w':World} {N B X Y R:Nat} {m m':Int} {S S':St} {C:Array Value} (h:Dz W w N B X Y R m S C) (hz:Zr w' N B X m' S') (hc:Chg (fun k=>k=B∨k=X) w w'):Dz W w' N B X Y R m' S' C:=by
 have hl:=h.z.low
 have hy:=h.yn
 obtain⟨h1,h2,h3⟩:=h.rn
 obtain⟨b1,b2,b3⟩:=h.base
 exact⟨hz,(hc.block Y (z0g h.y) (by omega)).trans h.y,(hc.block R (z0g h.r) (by omega)).trans h.r,hy,h.rn,Chg.below h.below h.below.size hc fun k hk=>by rcases hk with rfl | rfl <;> assumption,h.base⟩
theorem Dz.put {W w:World} {N B X Y R:Nat} {m:Int} {S:St} {C:Array Value} (h:Dz W w N B X Y R m S C) (j:Nat) (v:Value):Dz W (w.setCell ⟨Y,j,none⟩ v) N B X Y R m S (C.setIfInBounds j v):=by
 have hl:=h.z.low
 have hy:=h.yn
 have hs:=h.z.size
 obtain⟨h1,h2,h3⟩:=h.rn
 obtain⟨b1,b2,b3⟩:=h.base
 have hc:Chg (fun k=>k=Y) w (w.setCell ⟨Y,j,none⟩ v):=(Chg.refl _ _).setCell ⟨Y,j,none⟩ _ fun _=>rfl
 exact⟨h.z.later (hc.mono fun k _ hk=>by omega),z0u j v h.y,(hc.block R (z0g h.r) (by omega)).trans h.r,hy,h.rn,Chg.below h.below h.below.size hc fun k hk=>by omega,h.base⟩
theorem Dz.keep {W w w':World} {N B X Y R:Nat} {m:Int} {S:St} {C:Array Value} (h:Dz W w N B X Y R m S C) (hb:Below w.heap.size w w'):Dz W w' N B X Y R m S C :=
 ⟨h.z.below hb,z0c h.y hb,z0c h.r hb,h.yn,h.rn,h.below.trans (hb.mono h.below.size),h.base⟩
theorem Dz.cy {W w:World} {N B X Y R:Nat} {m:Int} {S:St} {C:Array Value} (h:Dz W w N B X Y R m S C) {j:Nat} {v:Value} (hj:C[j]?=some v):w.cell? ⟨Y,j,none⟩=some v∧w.frozen? ⟨Y,j,none⟩=false:=⟨z0a h.y hj,z0t j h.y⟩
def Far (Y:Nat) (p:Option Addr):Prop:=∀ a,p=some a→Y<a.block
theorem z3j {α:Type} {enc:α→List Value} {k:Nat} {d:α} {W w w':World} {N B X Y R:Nat} {m:Int} {S:St} {C:Array Value} {p:Option Addr} {n c:Nat} {L:List α} (h:Dz W w N B X Y R m S C) (hf:Far Y p) (hl:SlG enc k d w p n c L) (hc:Chg (fun k=>k=B∨k=X) w w'):SlG enc k d w' p n c L :=
 hl.turn hc.size fun _ a ha hlt=>hc.block a.block hlt (by have:=hf a ha;have:=h.z.low;have:=h.yn;omega)
theorem z2d {α:Type} {enc:α→List Value} {k:Nat} {d:α} {w:World} {Y:Nat} {p:Option Addr} {n c:Nat} {L:List α} (hf:Far Y p) (hl:SlG enc k d w p n c L) (j:Nat) (v:Value):SlG enc k d (w.setCell ⟨Y,j,none⟩ v) p n c L :=
 hl.turn (by simp [World.setCell]) fun _ a ha _=>Below.heap_setCell _ _ _ _ (by have:=hf a ha;show a.block≠Y;omega)
theorem or_errno (b:Nat) (x y:Int) (w:World) (h0:w.cell? ⟨b,0,none⟩=some (.int .i64 x)) (h1:w.cell? ⟨b,1,none⟩=some (.int .i64 y)):Calls Tryz.prog 135 #[.slice (some ⟨b,0,none⟩) 2 2] w fun e w'=>e=.returned (.int .i64 (if x≠0 then x else y))∧Below w.heap.size w w':=by
 obtain⟨r,hr⟩:∃ r,(if x≠0 then x else y)=r:=⟨_,rfl⟩
 have HRR:=hid hr
 rw [hr]
 clear hr
 have HV:Hid (∀ j:Nat,j<2→∀ w',Below w.heap.size w w'→w'.cell? ⟨b,j,none⟩=some (.int .i64 (if j=0 then x else y))):=hid fun j hj w' hb=>by
  rcases (by omega:j=0∨j=1) with rfl | rfl
  · exact (hb.cell (p:=⟨b,0,none⟩) (World.block_lt_of_cell? _ _ h0)).trans h0
  · exact (hb.cell (p:=⟨b,1,none⟩) (World.block_lt_of_cell? _ _ h1)).trans h1
 clear h0 h1
 go_enter Tryz.func135,Tryz.ntmps135
 go_wp2_with fail
 go_loopw [8] (fun i wr=>∃ j:Nat,j≤2∧i=.int .i64 j∧Hid (Below w.heap.size w wr)∧Hid (∀ i,i<j→(if i=0 then x else y)=0)) (fun i _=>2-(Go.RowKit.intOf i).toNat)
 case atStart=>exact⟨0,Nat.zero_le _,rfl,hid (Below.refl _ _),hid fun i hi=>by omega⟩
 case round =>
  obtain⟨j,hj,rfl,HW,HE⟩:=hrel
  by_cases hlt:j<2
  case neg =>
   obtain rfl:j=2:=by omega
   have e0:=HE.out 0 (by omega)
   have e1:=HE.out 1 (by omega)
   rw [if_pos rfl] at e0
   rw [if_neg (by decide)] at e1
   have HR:Hid (r=0):=hid (by rw [← HRR.out,e0,e1];rfl)
   clear e0 e1
   go_wp2_with fail
   go_ret
   exact⟨by rw [HR.out];rfl,HW.out⟩
  have hlt':(j:Int)<2:=by omega
  have k0:=HV.out j hlt wr HW.out
  have HO:Hid ((if j=0 then x else y)≠0→r=(if j=0 then x else y)):=hid fun hne=>by
   rw [← HRR.out]
   by_cases hj0:j=0
   · rw [if_pos hj0] at hne ⊢
     rw [if_pos hne]
   · have e0:=HE.out 0 (by omega)
     rw [if_pos rfl] at e0
     rw [if_neg hj0,if_neg (by simp [e0])]
  generalize hz:(if j=0 then x else y)=z at *
  have HZ:=hid hz
  clear hz
  by_cases h0:z=0
  · have d:(z != 0)=false:=by simp [h0]
    have H0:=hid h0
    clear h0
    go_wp2_with fail
    go_roundw
    case rel =>
     refine⟨j+1,by omega,by go_num,HW,hid fun i hi=>?_⟩
     by_cases e:i=j
     · subst e;rw [HZ.out];exact H0.out
     · exact HE.out i (by omega)
    case measure=>simp [Go.RowKit.intOf];omega
  · have d:(z != 0)=true:=by simpa using h0
    have HR:=hid (HO.out h0)
    go_wp2_with fail
    go_ret
    exact⟨by rw [HR.out];rfl,HW.out⟩
theorem z8i {s w:Int} {P:Pg} (h:z0w s w P=true):P.lines.length≤3∧P.takes.length≤12∧P.owes.length≤3:=by
 unfold z0w at h
 simp only [Bool.and_eq_true,decide_eq_true_eq] at h
 obtain⟨⟨_,ha⟩,hq⟩:=h
 have hl:∀ {s:Int} {L:List Ln},z0v s L=true→L.length≤3:=fun h=>(z7d h).1
 have ht:∀ {s w o:Int} {T:List Tk},z1a s w o T=true→T.length≤12:=fun h=>((z6c _ _ _ _).1 h).1
 unfold askP at ha
 unfold qofP at hq
 split at ha
 · rename_i h1
   simp only [Bool.and_eq_true] at ha
   exact⟨hl ha.1.1.1.1.2,ht ha.1.1.1.2,hl ha.1.1.2⟩
 · rename_i n1
   rw [if_neg n1] at hq
   split at ha
   · rename_i h2
     rw [if_pos h2] at hq
     simp only [Bool.and_eq_true] at ha
     have:=congrArg (fun P=>P.lines.length) hq
     simp only [List.length_nil] at this
     exact⟨by omega,ht ha.1.1.2,hl ha.1.2⟩
   · rename_i n2
     rw [if_neg n2] at hq
     split at ha
     · rename_i h3
       rw [if_pos h3] at hq
       simp only [Bool.and_eq_true] at ha
       have h1:=congrArg (fun P=>P.lines.length) hq
       have h2:=congrArg (fun P=>P.owes.length) hq
       simp only [List.length_nil] at h1 h2
       exact⟨by omega,ht ha.1.2,by omega⟩
     · rename_i n3
       rw [if_neg n3] at hq
       split at ha
       · rename_i h5
         rw [if_pos h5] at hq
         simp only [Bool.and_eq_true] at ha
         have h1:=congrArg (fun P=>P.lines.length) hq
         have h2:=congrArg (fun P=>P.owes.length) hq
         simp only [List.length_nil] at h1 h2
         have h3:=ha.2
         refine⟨by omega,?_,by omega⟩
         by_cases hT:P.takes.length≤12
         · exact hT
         · rw [fills_long hT] at h3
           cases h3
       · rename_i n5
         rw [if_neg n5] at hq
         have h1:=congrArg (fun P=>P.lines.length) hq
         have h2:=congrArg (fun P=>P.owes.length) hq
         have h3:=congrArg (fun P=>P.takes.length) hq
         simp only [List.length_nil] at h1 h2 h3
         omega
def q2e (W:World) (P:Pg) (e:Ending) (w':World):Prop:=Below W.heap.size W w'∧if z0w 4 4 P=true then ∃ p c,e=.returned (.tuple #[.slice p (z2u P).length c,.int .i64 0])∧Sl w' p (z2u P).length c (z2u P)∧c≤maxLen∧∀ a,p=some a→W.heap.size≤a.block else e=.returned (.tuple #[.slice none 0 0,.int .i64 1])
theorem encode_no (k od po:Int) (lp:Option Addr) (ln lcp:Nat) (tp:Option Addr) (tn tcp:Nat) (wp:Option Addr) (wn wcp:Nat) (sk fr to q:Int) (L:List Ln) (T:List Tk) (M:List Ln) (W:World) (hw:Words W) (hP:PgM W lp ln lcp L tp tn tcp T wp wn wcp M) (hok:Pgok ⟨k,od,po,L,T,M,sk,fr,to,q⟩) (h1:ln≤400∧tn≤400∧wn≤400) (hg:z0w 4 4 ⟨k,od,po,L,T,M,sk,fr,to,q⟩=false) :
 Calls Tryz.prog 127 #[.agg #[.int .u8 k,.int .u32 od,.int .u8 po,.slice lp ln lcp,.slice tp tn tcp,.slice wp wn wcp,.int .u8 sk,.int .u8 fr,.int .u8 to,.int .i64 q]] W (q2e W ⟨k,od,po,L,T,M,sk,fr,to,q⟩):=by
 obtain⟨W1,hW1,hbx,hb1⟩:∃ W1,W.alloc (.cells #[.int .u8 k,.int .u32 od,.int .u8 po,.slice lp ln lcp,.slice tp tn tcp,.slice wp wn wcp,.int .u8 sk,.int .u8 fr,.int .u8 to,.int .i64 q] 49)=W1∧W1.heap[W.heap.size]?=some (.cells #[.int .u8 k,.int .u32 od,.int .u8 po,.slice lp ln lcp,.slice tp tn tcp,.slice wp wn wcp,.int .u8 sk,.int .u8 fr,.int .u8 to,.int .i64 q] 49 (0,0))∧Below W.heap.size W W1:=⟨_,rfl,z0b W _,(Below.refl _ _).alloc (Nat.le_refl _) _⟩
 have hgd:=q1z 4 4 k od po lp ln lcp tp tn tcp wp wn wcp sk fr to q L T M W1 (hw.later hb1) (hP.later hb1) hok h1
 rw [hg] at hgd
 have HG:=hid hg
 have HW1:=hid hW1
 have HB1:=hid hb1
 obtain⟨a0,a1,a2,a3,a4,a5,a6,a7,a8,a9⟩:=z0j k od po lp ln lcp tp tn tcp wp wn wcp sk fr to q hbx
 clear hW1 hb1 hbx hP hok hg hw h1
 go_enter Tryz.func127,Tryz.ntmps127
 go_wp2_with fail
 rw [HW1.out]
 refine hgd.mono ?_
 rintro e w2 ⟨rfl,h2⟩
 have HB2:=hid h2
 clear hgd h2 a0 a1 a2 a3 a4 a5 a6 a7 a8 a9
 go_wp2_with fail
 go_ret2
 refine⟨HB1.out.trans (HB2.out.mono HB1.out.size),?_⟩
 rw [HG.out,if_neg (by decide)]
 rfl
theorem encode_yes (k od po:Int) (lp:Option Addr) (ln lcp:Nat) (tp:Option Addr) (tn tcp:Nat) (wp:Option Addr) (wn wcp:Nat) (sk fr to q:Int) (L:List Ln) (T:List Tk) (M:List Ln) (W:World) (hw:Words W) (hP:PgM W lp ln lcp L tp tn tcp T wp wn wcp M) (hok:Pgok ⟨k,od,po,L,T,M,sk,fr,to,q⟩) (h1:ln≤400∧tn≤400∧wn≤400) (hg:z0w 4 4 ⟨k,od,po,L,T,M,sk,fr,to,q⟩=true) :
 Calls Tryz.prog 127 #[.agg #[.int .u8 k,.int .u32 od,.int .u8 po,.slice lp ln lcp,.slice tp tn tcp,.slice wp wn wcp,.int .u8 sk,.int .u8 fr,.int .u8 to,.int .i64 q]] W (q2e W ⟨k,od,po,L,T,M,sk,fr,to,q⟩):=by
 obtain⟨hs1,hs2,hs3⟩:=z8i hg
 dsimp only at hs1 hs2 hs3
 rw [hP.l.len] at hs1
 rw [hP.t.len] at hs2
 rw [hP.o.len] at hs3
 obtain⟨nk,ek⟩:∃ nk:Nat,k=(nk:Int):=⟨k.toNat,by have:=hok.kind;dsimp only at this;omega⟩
 have bk:nk<256 ^ 1:=by have:=hok.kind;dsimp only at this;omega
 have ck:IntKind.u64.wrap k=nk:=by rw [ek];exact z2o _ (by omega)
 obtain⟨nod,eod⟩:∃ nod:Nat,od=(nod:Int):=⟨od.toNat,by have:=hok.order;dsimp only at this;omega⟩
 have bod:nod<256 ^ 4:=by have:=hok.order;dsimp only at this;omega
 have cod:IntKind.u64.wrap od=nod:=by rw [eod];exact z2o _ (by omega)
 obtain⟨npo,epo⟩:∃ npo:Nat,po=(npo:Int):=⟨po.toNat,by have:=hok.policy;dsimp only at this;omega⟩
 have bpo:npo<256 ^ 1:=by have:=hok.policy;dsimp only at this;omega
 have cpo:IntKind.u64.wrap po=npo:=by rw [epo];exact z2o _ (by omega)
 obtain⟨nsk,esk⟩:∃ nsk:Nat,sk=(nsk:Int):=⟨sk.toNat,by have:=hok.sku;dsimp only at this;omega⟩
 have bsk:nsk<256 ^ 1:=by have:=hok.sku;dsimp only at this;omega
 have csk:IntKind.u64.wrap sk=nsk:=by rw [esk];exact z2o _ (by omega)
 obtain⟨nfr,efr⟩:∃ nfr:Nat,fr=(nfr:Int):=⟨fr.toNat,by have:=hok.frm;dsimp only at this;omega⟩
 have bfr:nfr<256 ^ 1:=by have:=hok.frm;dsimp only at this;omega
 have cfr:IntKind.u64.wrap fr=nfr:=by rw [efr];exact z2o _ (by omega)
 obtain⟨nto,eto⟩:∃ nto:Nat,to=(nto:Int):=⟨to.toNat,by have:=hok.to;dsimp only at this;omega⟩
 have bto:nto<256 ^ 1:=by have:=hok.to;dsimp only at this;omega
 have cto:IntKind.u64.wrap to=nto:=by rw [eto];exact z2o _ (by omega)
 have hq:In64 q:=hok.qty
 have HQ:=hid hq
 have HBY:Hid (z2u ⟨k,od,po,L,T,M,sk,fr,to,q⟩=le nk 1++le nod 4++le npo 1++(le ln 1++L.flatMap lnB)++(le tn 1++T.flatMap tkBy)++(le wn 1++M.flatMap lnB)++le nsk 1++le nfr 1++le nto 1++le (u64 q) 8):=hid (by
  unfold z2u lnsB tksB
  dsimp only
  rw [hP.l.len,hP.t.len,hP.o.len,ek,eod,epo,esk,efr,eto]
  rfl)
 have HBN:Hid ((z2u ⟨k,od,po,L,T,M,sk,fr,to,q⟩).length≤400):=hid (by
  unfold z2u
  simp only [List.length_append,lnsB_len,tksB_len,z0r]
  rw [hP.l.len,hP.t.len,hP.o.len]
  omega)
 have HLL:Hid ((L.flatMap lnB).length=9*ln):=hid (by rw [z8e,hP.l.len])
 have HTT:Hid ((T.flatMap tkBy).length=14*tn):=hid (by rw [z9d,hP.t.len])
 have HMM:Hid ((M.flatMap lnB).length=9*wn):=hid (by rw [z8e,hP.o.len])
 obtain⟨W1,hW1,hbx,hb1⟩:∃ W1,W.alloc (.cells #[.int .u8 k,.int .u32 od,.int .u8 po,.slice lp ln lcp,.slice tp tn tcp,.slice wp wn wcp,.int .u8 sk,.int .u8 fr,.int .u8 to,.int .i64 q] 49)=W1∧W1.heap[W.heap.size]?=some (.cells #[.int .u8 k,.int .u32 od,.int .u8 po,.slice lp ln lcp,.slice tp tn tcp,.slice wp wn wcp,.int .u8 sk,.int .u8 fr,.int .u8 to,.int .i64 q] 49 (0,0))∧Below W.heap.size W W1:=⟨_,rfl,z0b W _,(Below.refl _ _).alloc (Nat.le_refl _) _⟩
 have hgd:=q1z 4 4 k od po lp ln lcp tp tn tcp wp wn wcp sk fr to q L T M W1 (hw.later hb1) (hP.later hb1) hok h1
 rw [hg] at hgd
 have HG:=hid hg
 have HW1:=hid hW1
 have HB1:=hid hb1
 have HX1:=hid hbx
 have HP1:=hid (hP.later hb1)
 have HOK:=hid hok
 obtain⟨a0,a1,a2,a3,a4,a5,a6,a7,a8,a9⟩:=z0j k od po lp ln lcp tp tn tcp wp wn wcp sk fr to q hbx
 clear hW1 hb1 hbx hP hok hg hw h1 ek eod epo esk efr eto hq
 go_enter Tryz.func127,Tryz.ntmps127
 go_wp2_with fail
 rw [HW1.out]
 refine hgd.mono ?_
 rintro e W2 ⟨rfl,h2⟩
 have HB2:=hid h2
 clear hgd h2 a0 a1 a2 a3 a4 a5 a6 a7 a8 a9
 go_wp2_with fail
 refine (new_any 512 W2).mono ?_
 rintro e W3 ⟨rfl,rfl⟩
 -- the writer,and its box
 obtain⟨B,hB⟩:∃ B,W2.heap.size=B:=⟨_,rfl⟩
 obtain⟨W4,hW4,hs4,hbw,hb4⟩:∃ W4,(W2.alloc (.cells #[.int .i64 0,.int .i64 512,.slice none 0 0] 224)).alloc (wbox B)=W4∧W4.heap.size=B+2∧W4.heap[B+1]?=some (.cells #[.pointer (some ⟨B,0,none⟩)] 231 (0,0))∧Below W2.heap.size W2 W4:=⟨_,rfl,by simp [hB],by have:=z0b (W2.alloc (.cells #[.int .i64 0,.int .i64 512,.slice none 0 0] 224)) (wbox B);rwa [World.size_alloc,hB] at this,((Below.refl _ _).alloc (Nat.le_refl _) _).alloc (by simp) _⟩
 have hwr4:Wr W4 B (.slice none 0 0) 512 (0,[]):=by
  have h0:=new_wr W2 512
  rw [hB] at h0
  rw [← hW4]
  exact h0.chg (Chg.of_below (S:=fun _=>False) ((Below.refl _ _).alloc (Nat.le_refl _) _)) (fun h=>h) (fun _ _ h=>h)
 have hWB:W.heap.size<B:=by have:=z0g HX1.out;have:=HB2.out.size;omega
 have hx4:=z0c HX1.out (HB2.out.trans (hb4.mono HB2.out.size))
 have HC:Hid (∀ w',Chg (fun k=>k=B∨(Value.slice none 0 0).ownBlock=some k) W4 w'→(w'.heap[W.heap.size]?=some (.cells #[.int .u8 k,.int .u32 od,.int .u8 po,.slice lp ln lcp,.slice tp tn tcp,.slice wp wn wcp,.int .u8 sk,.int .u8 fr,.int .u8 to,.int .i64 q] 49 (0,0))∧w'.cell? ⟨B+1,0,none⟩=some (.pointer (some ⟨B,0,none⟩)))):=hid fun w' hc=>⟨(hc.block _ (z0g hx4) (fun hk=>by rcases hk with hk | hk;omega;cases hk)).trans hx4,z0a ((hc.block _ (by omega) (fun hk=>by rcases hk with hk | hk;omega;cases hk)).trans hbw) rfl⟩
 have HPM:Hid (∀ w',Chg (fun k=>k=B∨(Value.slice none 0 0).ownBlock=some k) W4 w'→PgM w' lp ln lcp L tp tn tcp T wp wn wcp M):=hid fun w' hc=>HP1.out.later (HB2.out.trans ((Chg.below (W:=W2) (B:=W2.heap.size) hb4 (by omega) hc (fun k hk=>by rcases hk with hk | hk;omega;cases hk)).mono HB2.out.size))
 have HBE:Hid (∀ w',Chg (fun k=>k=B∨(Value.slice none 0 0).ownBlock=some k) W4 w'→Below W.heap.size W w'):=hid fun w' hc=>HB1.out.trans ((HB2.out.trans ((Chg.below (W:=W2) (B:=W2.heap.size) hb4 (by omega) hc (fun k hk=>by rcases hk with hk | hk;omega;cases hk)).mono HB2.out.size)).mono HB1.out.size)
 have HW4:=hid hW4
 have H0:=hid (Wrote.same hwr4)
 have HBB:=hid hB
 clear hW4 hs4 hbw hb4 hwr4 hWB hx4
 rw [hB]
 clear hB
 go_upto_region 4 with (fail)
 rw [HW4.out]
 rw [HBB.out]
 obtain⟨hpx,x0⟩:=HC.out _ H0.out.chg
 obtain⟨a0,a1,a2,a3,a4,a5,a6,a7,a8,a9⟩:=z0j k od po lp ln lcp tp tn tcp wp wn wcp sk fr to q hpx
 clear hpx
 go_wp2_with fail
 obtain⟨v0,h0,o0⟩:=H0.out.wr
 refine (z7n B v0 ([]) nk 1 W4 h0 (by omega) (by omega) bk (by first | omega | (simp only [List.length_append,List.length_nil,z0r,HLL.out,HTT.out,HMM.out];omega))).mono ?_
 rintro e wk0 ⟨rfl,hw⟩
 have H1:=hid (H0.out.next o0 hw)
 clear hw h0 o0 x0 a0 a1 a2 a3 a4 a5 a6 a7 a8 a9
 obtain⟨hpx,x0⟩:=HC.out _ H1.out.chg
 obtain⟨a0,a1,a2,a3,a4,a5,a6,a7,a8,a9⟩:=z0j k od po lp ln lcp tp tn tcp wp wn wcp sk fr to q hpx
 clear hpx
 go_wp2_with fail
 obtain⟨v1,h1,o1⟩:=H1.out.wr
 refine (z7n B v1 ([]++le nk 1) nod 4 wk0 h1 (by omega) (by omega) bod (by first | omega | (simp only [List.length_append,List.length_nil,z0r,HLL.out,HTT.out,HMM.out];omega))).mono ?_
 rintro e wk1 ⟨rfl,hw⟩
 have H2:=hid (H1.out.next o1 hw)
 clear hw h1 o1 x0 a0 a1 a2 a3 a4 a5 a6 a7 a8 a9
 obtain⟨hpx,x0⟩:=HC.out _ H2.out.chg
 obtain⟨a0,a1,a2,a3,a4,a5,a6,a7,a8,a9⟩:=z0j k od po lp ln lcp tp tn tcp wp wn wcp sk fr to q hpx
 clear hpx
 go_wp2_with fail
 obtain⟨v2,h2,o2⟩:=H2.out.wr
 refine (z7n B v2 ([]++le nk 1++le nod 4) npo 1 wk1 h2 (by omega) (by omega) bpo (by first | omega | (simp only [List.length_append,List.length_nil,z0r,HLL.out,HTT.out,HMM.out];omega))).mono ?_
 rintro e wk2 ⟨rfl,hw⟩
 have H3:=hid (H2.out.next o2 hw)
 clear hw h2 o2 x0 a0 a1 a2 a3 a4 a5 a6 a7 a8 a9
 obtain⟨hpx,x0⟩:=HC.out _ H3.out.chg
 obtain⟨a0,a1,a2,a3,a4,a5,a6,a7,a8,a9⟩:=z0j k od po lp ln lcp tp tn tcp wp wn wcp sk fr to q hpx
 clear hpx
 go_wp2_with fail
 obtain⟨v3,h3,o3⟩:=H3.out.wr
 refine (wlist_ln B v3 ([]++le nk 1++le nod 4++le npo 1) lp ln lcp L wk2 h3 (fun w' hc=>(HPM.out w' (H3.out.chg.trans hc fun k hk hb=>by
  rcases hb with hb | hb
  · exact .inl hb
  · rcases o3 k hb with hb | hb
    · exact .inr hb
    · omega)).l) HOK.out.lines (by omega) (by first | omega | (simp only [List.length_append,List.length_nil,z0r,HLL.out,HTT.out,HMM.out];omega))).mono ?_
 rintro e wk3 ⟨rfl,hw⟩
 have H4:=hid (H3.out.next o3 hw)
 clear hw h3 o3 x0 a0 a1 a2 a3 a4 a5 a6 a7 a8 a9
 obtain⟨hpx,x0⟩:=HC.out _ H4.out.chg
 obtain⟨a0,a1,a2,a3,a4,a5,a6,a7,a8,a9⟩:=z0j k od po lp ln lcp tp tn tcp wp wn wcp sk fr to q hpx
 clear hpx
 go_wp2_with fail
 obtain⟨v4,h4,o4⟩:=H4.out.wr
 refine (wlist_tk B v4 ([]++le nk 1++le nod 4++le npo 1++le ln 1++L.flatMap lnB) tp tn tcp T wk3 h4 (fun w' hc=>(HPM.out w' (H4.out.chg.trans hc fun k hk hb=>by
  rcases hb with hb | hb
  · exact .inl hb
  · rcases o4 k hb with hb | hb
    · exact .inr hb
    · omega)).t) HOK.out.takes (by omega) (by first | omega | (simp only [List.length_append,List.length_nil,z0r,HLL.out,HTT.out,HMM.out];omega))).mono ?_
 rintro e wk4 ⟨rfl,hw⟩
 have H5:=hid (H4.out.next o4 hw)
 clear hw h4 o4 x0 a0 a1 a2 a3 a4 a5 a6 a7 a8 a9
 obtain⟨hpx,x0⟩:=HC.out _ H5.out.chg
 obtain⟨a0,a1,a2,a3,a4,a5,a6,a7,a8,a9⟩:=z0j k od po lp ln lcp tp tn tcp wp wn wcp sk fr to q hpx
 clear hpx
 go_wp2_with fail
 obtain⟨v5,h5,o5⟩:=H5.out.wr
 refine (wlist_ln B v5 ([]++le nk 1++le nod 4++le npo 1++le ln 1++L.flatMap lnB++le tn 1++T.flatMap tkBy) wp wn wcp M wk4 h5 (fun w' hc=>(HPM.out w' (H5.out.chg.trans hc fun k hk hb=>by
  rcases hb with hb | hb
  · exact .inl hb
  · rcases o5 k hb with hb | hb
    · exact .inr hb
    · omega)).o) HOK.out.owes (by omega) (by first | omega | (simp only [List.length_append,List.length_nil,z0r,HLL.out,HTT.out,HMM.out];omega))).mono ?_
 rintro e wk5 ⟨rfl,hw⟩
 have H6:=hid (H5.out.next o5 hw)
 clear hw h5 o5 x0 a0 a1 a2 a3 a4 a5 a6 a7 a8 a9
 obtain⟨hpx,x0⟩:=HC.out _ H6.out.chg
 obtain⟨a0,a1,a2,a3,a4,a5,a6,a7,a8,a9⟩:=z0j k od po lp ln lcp tp tn tcp wp wn wcp sk fr to q hpx
 clear hpx
 go_wp2_with fail
 obtain⟨v6,h6,o6⟩:=H6.out.wr
 refine (z7n B v6 ([]++le nk 1++le nod 4++le npo 1++le ln 1++L.flatMap lnB++le tn 1++T.flatMap tkBy++le wn 1++M.flatMap lnB) nsk 1 wk5 h6 (by omega) (by omega) bsk (by first | omega | (simp only [List.length_append,List.length_nil,z0r,HLL.out,HTT.out,HMM.out];omega))).mono ?_
 rintro e wk6 ⟨rfl,hw⟩
 have H7:=hid (H6.out.next o6 hw)
 clear hw h6 o6 x0 a0 a1 a2 a3 a4 a5 a6 a7 a8 a9
 obtain⟨hpx,x0⟩:=HC.out _ H7.out.chg
 obtain⟨a0,a1,a2,a3,a4,a5,a6,a7,a8,a9⟩:=z0j k od po lp ln lcp tp tn tcp wp wn wcp sk fr to q hpx
 clear hpx
 go_wp2_with fail
 obtain⟨v7,h7,o7⟩:=H7.out.wr
 refine (z7n B v7 ([]++le nk 1++le nod 4++le npo 1++le ln 1++L.flatMap lnB++le tn 1++T.flatMap tkBy++le wn 1++M.flatMap lnB++le nsk 1) nfr 1 wk6 h7 (by omega) (by omega) bfr (by first | omega | (simp only [List.length_append,List.length_nil,z0r,HLL.out,HTT.out,HMM.out];omega))).mono ?_
 rintro e wk7 ⟨rfl,hw⟩
 have H8:=hid (H7.out.next o7 hw)
 clear hw h7 o7 x0 a0 a1 a2 a3 a4 a5 a6 a7 a8 a9
 obtain⟨hpx,x0⟩:=HC.out _ H8.out.chg
 obtain⟨a0,a1,a2,a3,a4,a5,a6,a7,a8,a9⟩:=z0j k od po lp ln lcp tp tn tcp wp wn wcp sk fr to q hpx
 clear hpx
 go_wp2_with fail
 obtain⟨v8,h8,o8⟩:=H8.out.wr
 refine (z7n B v8 ([]++le nk 1++le nod 4++le npo 1++le ln 1++L.flatMap lnB++le tn 1++T.flatMap tkBy++le wn 1++M.flatMap lnB++le nsk 1++le nfr 1) nto 1 wk7 h8 (by omega) (by omega) bto (by first | omega | (simp only [List.length_append,List.length_nil,z0r,HLL.out,HTT.out,HMM.out];omega))).mono ?_
 rintro e wk8 ⟨rfl,hw⟩
 have H9:=hid (H8.out.next o8 hw)
 clear hw h8 o8 x0 a0 a1 a2 a3 a4 a5 a6 a7 a8 a9
 obtain⟨hpx,x0⟩:=HC.out _ H9.out.chg
 obtain⟨a0,a1,a2,a3,a4,a5,a6,a7,a8,a9⟩:=z0j k od po lp ln lcp tp tn tcp wp wn wcp sk fr to q hpx
 clear hpx
 go_wp2_with fail
 obtain⟨v9,h9,o9⟩:=H9.out.wr
 refine (q2y B v9 ([]++le nk 1++le nod 4++le npo 1++le ln 1++L.flatMap lnB++le tn 1++T.flatMap tkBy++le wn 1++M.flatMap lnB++le nsk 1++le nfr 1++le nto 1) q wk8 h9 HQ.out (by first | omega | (simp only [List.length_append,List.length_nil,z0r,HLL.out,HTT.out,HMM.out];omega))).mono ?_
 rintro e wk9 ⟨rfl,hw⟩
 have H10:=hid (H9.out.next o9 hw)
 clear hw h9 o9 x0 a0 a1 a2 a3 a4 a5 a6 a7 a8 a9
 obtain⟨hpx,x0⟩:=HC.out _ H10.out.chg
 obtain⟨a0,a1,a2,a3,a4,a5,a6,a7,a8,a9⟩:=z0j k od po lp ln lcp tp tn tcp wp wn wcp sk fr to q hpx
 clear hpx
 go_wp2_with fail
 obtain⟨v10,h10,o10⟩:=H10.out.wr
 have hby:([]++le nk 1++le nod 4++le npo 1++le ln 1++L.flatMap lnB++le tn 1++T.flatMap tkBy++le wn 1++M.flatMap lnB++le nsk 1++le nfr 1++le nto 1++le (u64 q) 8:List Nat)=z2u ⟨k,od,po,L,T,M,sk,fr,to,q⟩:=by
  rw [HBY.out]
  simp only [List.append_assoc,List.nil_append]
 rw [hby] at h10
 refine (q0u B v10 512 (0,z2u ⟨k,od,po,L,T,M,sk,fr,to,q⟩) wk9 h10 (by have:=HBN.out;dsimp only;omega)).mono ?_
 rintro e w11 ⟨hb11,hd⟩
 rw [if_pos rfl] at hd
 obtain⟨vv,rfl,hrow,hown⟩:=hd
 obtain⟨pp,cc,hv,hcm,hsl,hbk⟩:=hrow.sl
 subst hv
 have hbe:=HBE.out _ H10.out.chg
 have HF:Hid (q2e W ⟨k,od,po,L,T,M,sk,fr,to,q⟩ (.returned (.tuple #[.slice pp (z2u ⟨k,od,po,L,T,M,sk,fr,to,q⟩).length cc,.int .i64 0])) w11):=hid ⟨hbe.trans (hb11.mono hbe.size),by
  rw [if_pos HG.out]
  exact⟨pp,cc,rfl,hsl,hcm,fun a ha=>Nat.le_trans hbe.size (hown _ (hbk a ha))⟩⟩
 clear hb11 hrow hown hcm hsl hbk h10 o10 x0 a0 a1 a2 a3 a4 a5 a6 a7 a8 a9 hby hbe
 generalize z2u ⟨k,od,po,L,T,M,sk,fr,to,q⟩=bb at *
 go_wp2_with fail
 go_ret2
 exact HF.out
theorem encode_p (k od po:Int) (lp:Option Addr) (ln lcp:Nat) (tp:Option Addr) (tn tcp:Nat) (wp:Option Addr) (wn wcp:Nat) (sk fr to q:Int) (L:List Ln) (T:List Tk) (M:List Ln) (W:World) (hw:Words W) (hP:PgM W lp ln lcp L tp tn tcp T wp wn wcp M) (hok:Pgok ⟨k,od,po,L,T,M,sk,fr,to,q⟩) (h1:ln≤400∧tn≤400∧wn≤400) :
 Calls Tryz.prog 127 #[.agg #[.int .u8 k,.int .u32 od,.int .u8 po,.slice lp ln lcp,.slice tp tn tcp,.slice wp wn wcp,.int .u8 sk,.int .u8 fr,.int .u8 to,.int .i64 q]] W (q2e W ⟨k,od,po,L,T,M,sk,fr,to,q⟩):=by
 cases hg:z0w 4 4 ⟨k,od,po,L,T,M,sk,fr,to,q⟩ with
 | false=>exact encode_no k od po lp ln lcp tp tn tcp wp wn wcp sk fr to q L T M W hw hP hok h1 hg
 | true=>exact encode_yes k od po lp ln lcp tp tn tcp wp wn wcp sk fr to q L T M W hw hP hok h1 hg
end Go.Proofs.YtfdgnniicjdjdaaGreatDoor
namespace Go.Proofs.YtfdgnniicjdjdaaGreatDoor
open Go.Lib (hid)
set_option maxHeartbeats 16000000
open Go.RowKit
set_option linter.unusedVariables false
set_option maxRecDepth 10000
theorem z1j {S:St} (hB:By S) {n:Nat} (h1:1≤n) (h8:n≤8) (h:(numR S n).1.1=0):S.1=0∧S.2=le (numR S n).2 n++(numR S n).1.2:=by
 obtain⟨e,L⟩:=S
 by_cases h0:e=0
 · subst h0
   refine⟨rfl,?_⟩
   unfold numR z1i at *
   rw [if_pos ⟨by omega,by omega⟩,Int.toNat_natCast,if_pos rfl] at *
   dsimp only at *
   split at h
   · have h6:(6:Int)=0:=h
     exact absurd h6 (by decide)
   · rename_i hl
     rw [if_neg hl]
     dsimp only
     have hl2:(L.take n).length=n:=by rw [List.length_take];omega
     have h3:=le_un (L.take n) (fun y hy=>hB y (List.mem_of_mem_take hy))
     rw [hl2] at h3
     rw [h3,List.take_append_drop]
 · rw [z1n (S:=(e,L)) h0 ⟨by omega,by omega⟩] at h
   exact absurd h h0
theorem lineR_split {S:St} (hB:By S) (h:(z1c S).1.1=0):S.1=0∧S.2=lnB (z1c S).2++(z1c S).1.2:=by
 have h2:=z1j (S:=(numR S 1).1) (z0k hB 1) (n:=8) (by omega) (by omega) h
 have h1:=z1j hB (n:=1) (by omega) (by omega) h2.1
 refine⟨h1.1,?_⟩
 rw [h1.2]
 show le (numR S 1).2 1++(numR S 1).1.2=_
 rw [h2.2]
 unfold z1c lnB
 dsimp only
 rw [Int.toNat_natCast,z9b (fit8 (z0k hB 1)),List.append_assoc]
 rfl
theorem tkR_split {S:St} (hB:By S) (h:(tkR S).1.1=0):S.1=0∧S.2=tkBy (tkR S).2++(tkR S).1.2:=by
 have b1:=z0k hB 4
 have b2:=z0k b1 1
 have b3:=z0k b2 1
 have h4:=z1j b3 (n:=8) (by omega) (by omega) h
 have h3:=z1j b2 (n:=1) (by omega) (by omega) h4.1
 have h2:=z1j b1 (n:=1) (by omega) (by omega) h3.1
 have h1:=z1j hB (n:=4) (by omega) (by omega) h2.1
 refine⟨h1.1,?_⟩
 rw [h1.2]
 show le (numR S 4).2 4++(numR S 4).1.2=_
 rw [h2.2]
 show le (numR S 4).2 4++(le (numR (numR S 4).1 1).2 1++(numR (numR S 4).1 1).1.2)=_
 rw [h3.2]
 show le (numR S 4).2 4++(le (numR (numR S 4).1 1).2 1++(le (numR (numR (numR S 4).1 1).1 1).2 1++(numR (numR (numR S 4).1 1).1 1).1.2))=_
 rw [h4.2]
 unfold tkR tkBy
 dsimp only
 rw [Int.toNat_natCast,Int.toNat_natCast,Int.toNat_natCast,z9b (fit8 b3)]
 simp only [List.append_assoc]
 rfl
theorem many_split {α:Type} {f:St→St × α} {g:α→List Nat} (hb:∀ S,By S→By (f S).1) (hf:∀ S:St,By S→(f S).1.1=0→S.1=0∧S.2=g (f S).2++(f S).1.2) {S:St} (hB:By S):∀ n,(z0z f n S).1.1=0→S.1=0∧S.2=(z0z f n S).2.flatMap g++(z0z f n S).1.2
 | 0,h=>⟨h,rfl⟩
 | n+1,h=>by
  have h:(f (z0z f n S).1).1.1=0:=h
  obtain⟨h1,h2⟩:=hf _ (z8v hb hB n) h
  obtain⟨h3,h4⟩:=many_split hb hf hB n h1
  refine⟨h3,?_⟩
  rw [h4,h2]
  show _=((z0z f n S).2 ++ [(f (z0z f n S).1).2]).flatMap g++(f (z0z f n S).1).1.2
  rw [List.flatMap_append,List.append_assoc]
  simp
theorem z8f {α:Type} {f:St→St × α} {g:α→List Nat} (hb:∀ S,By S→By (f S).1) (hf:∀ S:St,By S→(f S).1.1=0→S.1=0∧S.2=g (f S).2++(f S).1.2) (most:Nat) {S:St} (hB:By S) (hm:(z2n f most S).2=false) (h:(z2n f most S).1.1.1=0):S.1=0∧S.2=le (z2n f most S).1.2.length 1++(z2n f most S).1.2.flatMap g++(z2n f most S).1.1.2:=by
 unfold z2n at *
 split at hm
 · cases hm
 · rename_i hl
   rw [if_neg hl] at h ⊢
   dsimp only at h ⊢
   obtain⟨h1,h2⟩:=many_split hb hf (z0k hB 1) _ h
   obtain⟨h3,h4⟩:=z1j hB (n:=1) (by omega) (by omega) h1
   refine⟨h3,?_⟩
   rw [h4]
   show le (numR S 1).2 1++(numR S 1).1.2=_
   rw [h2,z2t,List.append_assoc]
/-- What is decoded is encoded so. -/
theorem enc_dec {Bs:List Nat} (hB:∀ y∈Bs,y<256) (h:(decP Bs).1=0):z0w 4 4 (decP Bs).2=true∧z2u (decP Bs).2=Bs∧Pgok (decP Bs).2:=by
 unfold decP at h ⊢
 by_cases he:decE Bs≠0
 · rw [if_pos he] at h
   exact absurd h he
 rw [if_neg he] at h ⊢
 cases hg:z0w 4 4 (decR Bs).pg with
 | false =>
  rw [hg,if_neg (by decide)] at h
  exact absurd h (by decide)
 | true =>
  rw [if_pos rfl]
  dsimp only
  refine⟨hg,?_⟩
  have he0:decE Bs=0:=by omega
  unfold decE at he0
  have hmany:(decR Bs).many=false:=by
   cases hm:(decR Bs).many with
   | false=>rfl
   | true=>rw [hm,if_pos rfl] at he0;exact absurd he0 (by decide)
  rw [hmany,if_neg (by decide)] at he0
  have hst:(decR Bs).st.1=0∧(decR Bs).st.2=[]:=by
   unfold endR at he0
   split at he0
   · exact absurd he0 (by decide)
   · rename_i hn
     refine⟨he0,?_⟩
     by_cases hl:0<(decR Bs).st.2.length
     · exact absurd ⟨he0,hl⟩ hn
     · exact List.eq_nil_of_length_eq_zero (by omega)
  clear he he0 hg h
  unfold decR at hmany hst ⊢
  dsimp only at hmany hst ⊢
  have c0:By ((0,Bs):St):=hB
  have c1:=z0k c0 1
  have c2:=z0k c1 4
  have c3:=z0k c2 1
  have c4:=z6r (f:=z1c) (fun S h=>z3h h) 3 c3
  have c5:=z6r (f:=tkR) (fun S h=>z9y h) 12 c4
  have c6:=z6r (f:=z1c) (fun S h=>z3h h) 3 c5
  have c7:=z0k c6 1
  have c8:=z0k c7 1
  have c9:=z0k c8 1
  have o4:=z3r (f:=z1c) (Q:=Lnok) (fun S h=>z3h h) (fun S h=>z6s h) 3 c3
  have o5:=z3r (f:=tkR) (Q:=Tkok) (fun S h=>z9y h) (fun S h=>q2l h) 12 c4
  have o6:=z3r (f:=z1c) (Q:=Lnok) (fun S h=>z3h h) (fun S h=>z6s h) 3 c5
  have f1:=fit1 c0
  have f2:=fit4 c1
  have f3:=fit1 c2
  have f7:=fit1 c6
  have f8:=fit1 c7
  have f9:=fit1 c8
  have f10:=fit8 c9
  simp only [Bool.or_eq_false_iff] at hmany
  obtain⟨⟨ml,mt⟩,mo⟩:=hmany
  have s10:=z1j c9 (n:=8) (by omega) (by omega) hst.1
  have s9:=z1j c8 (n:=1) (by omega) (by omega) s10.1
  have s8:=z1j c7 (n:=1) (by omega) (by omega) s9.1
  have s7:=z1j c6 (n:=1) (by omega) (by omega) s8.1
  have s6:=z8f (f:=z1c) (fun S h=>z3h h) (fun S h h0=>lineR_split h h0) 3 c5 mo s7.1
  have s5:=z8f (f:=tkR) (fun S h=>z9y h) (fun S h h0=>tkR_split h h0) 12 c4 mt s6.1
  have s4:=z8f (f:=z1c) (fun S h=>z3h h) (fun S h h0=>lineR_split h h0) 3 c3 ml s5.1
  have s3:=z1j c2 (n:=1) (by omega) (by omega) s4.1
  have s2:=z1j c1 (n:=4) (by omega) (by omega) s3.1
  have s1:=z1j c0 (n:=1) (by omega) (by omega) s2.1
  have e1:=s1.2
  have e2:=s2.2
  have e3:=s3.2
  have e4:=s4.2
  have e5:=s5.2
  have e6:=s6.2
  have e7:=s7.2
  have e8:=s8.2
  have e9:=s9.2
  have e10:=s10.2
  rw [show (((8:Nat):Int))=8 from rfl,hst.2,List.append_nil] at e10
  simp only [show (((1:Nat):Int))=1 from rfl,show (((4:Nat):Int))=4 from rfl] at e1 e2 e3 e7 e8 e9
  refine⟨?_,⟨⟨?_,?_⟩,⟨?_,?_⟩,⟨?_,?_⟩,o4,o5,o6,⟨?_,?_⟩,⟨?_,?_⟩,⟨?_,?_⟩,z9g f10⟩⟩
  · unfold z2u lnsB tksB
    dsimp only
    rw [z9b f10]
    simp only [Int.toNat_natCast]
    conv=>rhs;rw [e1,e2,e3,e4,e5,e6,e7,e8,e9,e10]
    simp only [List.append_assoc]
  all_goals (dsimp only;omega)
end Go.Proofs.YtfdgnniicjdjdaaGreatDoor
namespace Go.Proofs.YtfdgnniicjdjdaaGreatDoor
open Go.Lib (hid)
set_option maxHeartbeats 16000000
open Go.RowKit Go.ChangeShapes Go.WideShapes
set_option linter.unusedVariables false
set_option maxRecDepth 10000
set_option linter.unusedSimpArgs false
structure Rx where
 k:Int
 sg:Int
 tx:Int
 st:Int
 cp:Bool
 key:K
 d:Int
 o:Int
 pg:Pg
deriving DecidableEq
structure Rxok (X:Rx):Prop where
 k:0≤X.k∧X.k≤255
 sg:0≤X.sg∧X.sg≤4294967295
 tx:0≤X.tx∧X.tx≤4294967295
 st:0≤X.st∧X.st≤255
 key:Kok X.key
 d:In64 X.d
 o:0≤X.o∧X.o≤255
 pg:Pgok X.pg
def kS (k:Int):Bool:=k==1 || k==2 || k==8 || k==9
def kT (k:Int):Bool:=k==2 || k==3 || k==4 || k==5 || k==6 || k==7
def kB (k:Int):Bool:=k==2
def kA (k:Int):Bool:=k==3 || k==6
def kO (k:Int):Bool:=k==9
def kP (k:Int):Bool:=k==1
def kOk (k:Int):Bool:=k==1 || k==2 || k==3 || k==4 || k==5 || k==6 || k==7 || k==8 || k==9
def z7u (h:Bool) (st:Int) (cp:Bool):Bool:=if h then decide (st<5) else (st==0 && !cp)
def addB (h:Bool) (key:K) (d:Int):Bool:=if h then (z4p 4 4 key.1 key.2.1 key.2.2 && d != 0) && d != -9223372036854775808 else (decide (key=(0,0,0)) && d==0)
def outB (h:Bool) (o:Int):Bool:=if h then (o==1 || o==2) else o==0
def z7y (h:Bool) (pg:Pg):Bool:=if h then z0w 4 4 pg else decide (pg=noP)
def z1f (X:Rx):Bool:=kOk X.k && (kS X.k==(X.sg != 0)) && (kT X.k==(X.tx != 0)) && z7u (kB X.k) X.st X.cp && addB (kA X.k) X.key X.d && outB (kO X.k) X.o && z7y (kP X.k) X.pg
def noX:Rx:=⟨0,0,0,0,false,(0,0,0),0,0,noP⟩
def bitN (b:Bool):Nat:=if b then 1 else 0
def keyB (k:K):List Nat:=[k.1.toNat,k.2.1.toNat,k.2.2.toNat]
def z0o (X:Rx):List Nat:=le X.k.toNat 1++((if kS X.k then le X.sg.toNat 4 else [])++((if kT X.k then le X.tx.toNat 4 else [])++((if kB X.k then le X.st.toNat 1 ++ [bitN X.cp] else [])++((if kA X.k then keyB X.key++le (u64 X.d) 8 else [])++((if kO X.k then le X.o.toNat 1 else [])++(if kP X.k then le (z2u X.pg).length 2++z2u X.pg else []))))))
structure Rdd where
 st:St
 rx:Rx
 er:Int
def keyR (S:St):St × K:=((numR (numR (numR S 1).1 1).1 1).1,(((numR S 1).2:Nat),((numR (numR S 1).1 1).2:Nat),((numR (numR (numR S 1).1 1).1 1).2:Nat)))
def rd1 (S:St):Rdd :=
 let a:=numR S 4
 let b:=z1d a.1 512
 if b.1.1=0 then ⟨b.1,{ noX with k:=1,sg:=(a.2:Nat),pg:=(decP b.2).2 },(decP b.2).1⟩ else ⟨b.1,{ noX with k:=1,sg:=(a.2:Nat) },0⟩
def rd2 (S:St):Rdd :=
 let a:=numR S 4
 let b:=numR a.1 4
 let c:=numR b.1 1
 let e:=z2v c.1
 ⟨e.1,{ noX with k:=2,sg:=(a.2:Nat),tx:=(b.2:Nat),st:=(c.2:Nat),cp:=e.2 },0⟩
def rd3 (k:Int) (S:St):Rdd :=
 let a:=numR S 4
 let b:=keyR a.1
 let c:=numR b.1 8
 ⟨c.1,{ noX with k:=k,tx:=(a.2:Nat),key:=b.2,d:=sgn c.2 },0⟩
def rd4 (k:Int) (S:St):Rdd :=
 let a:=numR S 4
 ⟨a.1,{ noX with k:=k,tx:=(a.2:Nat) },0⟩
def rd8 (S:St):Rdd :=
 let a:=numR S 4
 ⟨a.1,{ noX with k:=8,sg:=(a.2:Nat) },0⟩
def rd9 (S:St):Rdd :=
 let a:=numR S 4
 let b:=numR a.1 1
 ⟨b.1,{ noX with k:=9,sg:=(a.2:Nat),o:=(b.2:Nat) },0⟩
def rdX (k:Int) (S:St):Rdd :=
 if k=1 then rd1 S else if k=2 then rd2 S else if k=3∨k=6 then rd3 k S else if k=4∨k=5∨k=7 then rd4 k S else if k=8 then rd8 S else rd9 S
def rdE (R:Rdd):Int:=if R.er=0 then endR R.st else R.er
def decX (B:List Nat):Int × Rx :=
 let r:=numR (0,B) 1
 if kOk ((r.2:Nat):Int)=true then
  let R:=rdX ((r.2:Nat):Int) r.1
  if rdE R≠0 then (rdE R,noX) else if z1f R.rx=true then (0,R.rx) else (8,noX)
 else ((if r.1.1≠0 then r.1.1 else 8),noX)
theorem z5c {k:Int} (h:kOk k=true):k=1∨k=2∨k=3∨k=4∨k=5∨k=6∨k=7∨k=8∨k=9:=by
 simp only [kOk,Bool.or_eq_true,beq_iff_eq] at h
 omega
theorem not_kOk {k:Int} (h:kOk k=false):k≠1∧k≠2∧k≠3∧k≠4∧k≠5∧k≠6∧k≠7∧k≠8∧k≠9:=by
 simp only [kOk,Bool.or_eq_false_iff,beq_eq_false_iff_ne] at h
 omega
theorem goodX_kOk {X:Rx} (h:z1f X=true):kOk X.k=true:=by
 unfold z1f at h
 simp only [Bool.and_eq_true] at h
 exact h.1.1.1.1.1.1
theorem z8j {X:Rx} (h:z1f X=true):z7y (kP X.k) X.pg=true:=by
 unfold z1f at h
 simp only [Bool.and_eq_true] at h
 exact h.2
theorem pg_few {P:Pg} (h:z0w 4 4 P=true):(z2u P).length≤400:=by
 obtain⟨s1,s2,s3⟩:=z8i h
 unfold z2u lnsB tksB
 simp only [List.length_append,z0r,z8e,z9d]
 omega
def lenK (k:Int):Nat:=if k=1 then 7 else if k=2 then 11 else if k=3∨k=6 then 16 else if k=9 then 6 else 5
theorem bytes_len {X:Rx} (h:kOk X.k=true):(z0o X).length=lenK X.k+if X.k=1 then (z2u X.pg).length else 0:=by
 unfold z0o
 rcases z5c h with h | h | h | h | h | h | h | h | h <;> rw [h] <;> simp [kS,kT,kB,kA,kO,kP,lenK,z0r,keyB] <;> omega
structure Rv where
 k:Int
 sg:Int
 tx:Int
 st:Int
 cp:Bool
 ka:Int
 kb:Int
 kc:Int
 d:Int
 o:Int
 pk:Int
 od:Int
 po:Int
 lp:Option Addr
 ln:Nat
 lcp:Nat
 tp:Option Addr
 tn:Nat
 tcp:Nat
 wp:Option Addr
 wn:Nat
 wcp:Nat
 sk:Int
 fr:Int
 to:Int
 q:Int
def pcs (r:Rv):Array Value:=#[.int .u8 r.pk,.int .u32 r.od,.int .u8 r.po,.slice r.lp r.ln r.lcp,.slice r.tp r.tn r.tcp,.slice r.wp r.wn r.wcp,.int .u8 r.sk,.int .u8 r.fr,.int .u8 r.to,.int .i64 r.q]
def rcs (r:Rv):Array Value:=#[.int .u8 r.k,.int .u32 r.sg,.int .u32 r.tx,.int .u8 r.st,.bool r.cp,.int .u8 r.ka,.int .u8 r.kb,.int .u8 r.kc,.int .i64 r.d,.int .u8 r.o,.int .u8 r.pk,.int .u32 r.od,.int .u8 r.po,.slice r.lp r.ln r.lcp,.slice r.tp r.tn r.tcp,.slice r.wp r.wn r.wcp,.int .u8 r.sk,.int .u8 r.fr,.int .u8 r.to,.int .i64 r.q]
def rz:Rv:=⟨0,0,0,0,false,0,0,0,0,0,0,0,0,none,0,0,none,0,0,none,0,0,0,0,0,0⟩
def Rv.pg (r:Rv) (L:List Ln) (T:List Tk) (M:List Ln):Pg:=⟨r.pk,r.od,r.po,L,T,M,r.sk,r.fr,r.to,r.q⟩
def Rv.x (r:Rv) (L:List Ln) (T:List Tk) (M:List Ln):Rx:=⟨r.k,r.sg,r.tx,r.st,r.cp,(r.ka,r.kb,r.kc),r.d,r.o,r.pg L T M⟩
abbrev RvM (w:World) (r:Rv) (L:List Ln) (T:List Tk) (M:List Ln):Prop:=PgM w r.lp r.ln r.lcp L r.tp r.tn r.tcp T r.wp r.wn r.wcp M
theorem rz_m (w:World):RvM w rz [] [] []:=⟨SlG.empty _,SlG.empty _,SlG.empty _⟩
theorem z2c (r:Rv):(rcs r).all (·.oneCell')=true:=by simp [rcs,Value.oneCell']
def RB (w:World) (B:Nat) (r:Rv):Prop:=w.heap[B]?=some (.cells (rcs r) 51 (0,0))
theorem RB.later {w w':World} {B:Nat} {r:Rv} (h:RB w B r) (hb:Below w.heap.size w w'):RB w' B r:=z0c h hb
theorem RB.new (w:World) (r:Rv):RB (w.alloc (.cells (rcs r) 51)) w.heap.size r:=z0b _ _
theorem RB.lt {w:World} {B:Nat} {r:Rv} (h:RB w B r):B<w.heap.size:=z0g h
theorem RB.at {w:World} {B:Nat} {r:Rv} (h:RB w B r):w.cell? ⟨B,0,none⟩=some (.int .u8 r.k)∧w.cell? ⟨B,1,none⟩=some (.int .u32 r.sg)∧w.cell? ⟨B,2,none⟩=some (.int .u32 r.tx)∧w.cell? ⟨B,3,none⟩=some (.int .u8 r.st)∧w.cell? ⟨B,4,none⟩=some (.bool r.cp)∧w.cell? ⟨B,5,none⟩=some (.int .u8 r.ka)∧w.cell? ⟨B,6,none⟩=some (.int .u8 r.kb)∧w.cell? ⟨B,7,none⟩=some (.int .u8 r.kc)∧w.cell? ⟨B,8,none⟩=some (.int .i64 r.d)∧w.cell? ⟨B,9,none⟩=some (.int .u8 r.o) :=
 ⟨z0a h rfl,z0a h rfl,z0a h rfl,z0a h rfl,z0a h rfl,z0a h rfl,z0a h rfl,z0a h rfl,z0a h rfl,z0a h rfl⟩
theorem RB.put {w:World} {B:Nat} {r:Rv} (h:RB w B r) (j:Nat) (v:Value) (r':Rv) (he:(rcs r).setIfInBounds j v=rcs r'):RB (w.setCell ⟨B,j,none⟩ v) B r':=by
 have:=z0u j v h
 rw [he] at this
 exact this
theorem RB.chg {S:Nat→Prop} {w w':World} {B:Nat} {r:Rv} (h:RB w B r) (hc:Chg S w w') (hs:¬ S B):RB w' B r:=(hc.block B (z0g h) hs).trans h
theorem RB.set {w:World} {B:Nat} {r:Rv} (h:RB w B r) (r':Rv):RB (w.setRow B (rcs r')) B r':=setRow_heap _ _ _ _ _ _ h
theorem z0q {ops:Array Oper} {rest:List Oper} {a:Act} {w:World} {Q:Exit→Act→World→Prop} {dst:Option Tmp} {x:Operand} {ty:TypeId} {pos:String} {after:Array Edge} {B:Nat} {r:Rv} (hC:RB w B r) (hx:a.eval x=.pointer (some ⟨B,0,none⟩))
 (h:wpList Tryz.prog ops Q rest (a.put dst (.agg (rcs r))) w):wpList Tryz.prog ops Q (Oper.mk dst (.load 51 x) ty pos after none::rest) a w :=
 wpList_load_row rfl 51 x rfl B hx 51 (rcs r) (0,0) _ hC Tryz.underlying51 rfl (by kernel_rfl) h
theorem z0d {ops:Array Oper} {rest:List Oper} {a:Act} {w:World} {Q:Exit→Act→World→Prop} {dst:Option Tmp} {x:Operand} {ty:TypeId} {pos:String} {after:Array Edge} {gd:Option (Nat × Bool)} {B:Nat} {r:Rv} (hC:RB w B r) (hw:Region.wanted (Oper.mk dst (.load 51 x) ty pos after gd) (yielded ops a.tmps)=true) (hx:a.eval x=.pointer (some ⟨B,0,none⟩))
 (h:wpList Tryz.prog ops Q rest (a.put dst (.agg (rcs r))) w):wpList Tryz.prog ops Q (Oper.mk dst (.load 51 x) ty pos after gd::rest) a w :=
 wpList_step fun K hK=>by
  rw [if_pos hw]
  exact wp_load_row 51 x rfl B hx 51 (rcs r) (0,0) _ hC Tryz.underlying51 rfl (by kernel_rfl) (hK _ _ h)
theorem rcs_prog (r:Rv):∀ j,j<(pcs r).size→(rcs r)[10+j]?=(pcs r)[j]?:=by
 intro j hj
 have h10:j<10:=hj
 rcases (by omega:j=0∨j=1∨j=2∨j=3∨j=4∨j=5∨j=6∨j=7∨j=8∨j=9) with rfl | rfl | rfl | rfl | rfl | rfl | rfl | rfl | rfl | rfl <;> rfl
theorem z3y {ops:Array Oper} {rest:List Oper} {a:Act} {w:World} {Q:Exit→Act→World→Prop} {dst:Option Tmp} {x:Operand} {ty:TypeId} {pos:String} {after:Array Edge} {B:Nat} {r:Rv} (hC:RB w B r) (hx:a.eval x=.pointer (some ⟨B,10,none⟩))
 (h:wpList Tryz.prog ops Q rest (a.put dst (.agg (pcs r))) w):wpList Tryz.prog ops Q (Oper.mk dst (.load 49 x) ty pos after none::rest) a w :=
 wpList_load_part rfl 49 x rfl B 10 hx 51 (rcs r) (pcs r) (0,0) _ hC (rcs_prog r) Tryz.underlying49 rfl (by kernel_rfl) h
theorem z0h {ops:Array Oper} {rest:List Oper} {a:Act} {w:World} {Q:Exit→Act→World→Prop} {dst:Option Tmp} {x:Operand} {ty:TypeId} {pos:String} {after:Array Edge} {gd:Option (Nat × Bool)} {B:Nat} {r:Rv} (hC:RB w B r) (hw:Region.wanted (Oper.mk dst (.load 49 x) ty pos after gd) (yielded ops a.tmps)=true) (hx:a.eval x=.pointer (some ⟨B,10,none⟩))
 (h:wpList Tryz.prog ops Q rest (a.put dst (.agg (pcs r))) w):wpList Tryz.prog ops Q (Oper.mk dst (.load 49 x) ty pos after gd::rest) a w :=
 wpList_step fun K hK=>by
  rw [if_pos hw]
  unfold Oper.wp execOp
  simp only [hx,Instr.loadAt,Instr.sureAddr,Sem.run_bind,Sem.run_pure,Result.andThen_ok,z4h w B 10 51 49 (rcs r) (pcs r) (0,0) _ hC (rcs_prog r) Tryz.underlying49 rfl (by kernel_rfl)]
  exact hK _ _ h
theorem z0e (r':Rv) {ops:Array Oper} {rest:List Oper} {a:Act} {w:World} {Q:Exit→Act→World→Prop} {dst:Option Tmp} {x y:Operand} {ty:TypeId} {pos:String} {after:Array Edge} {B:Nat} {r:Rv} (hB:RB w B r)
 (hx:a.eval x=.pointer (some ⟨B,0,none⟩)) (hy:a.eval y=.agg (rcs r'))
 (h:wpList Tryz.prog ops Q rest (a.put dst undef) (w.setRow B (rcs r'))):wpList Tryz.prog ops Q (Oper.mk dst (.store 51 x y) ty pos after none::rest) a w :=
 wpList_store_row rfl 51 x y rfl B (rcs r') hx hy 51 (rcs r) hB (by kernel_rfl) rfl (z2c r') h
def Rv.withP (r p:Rv):Rv:={ r with pk:=p.pk,od:=p.od,po:=p.po,lp:=p.lp,ln:=p.ln,lcp:=p.lcp,tp:=p.tp,tn:=p.tn,tcp:=p.tcp,wp:=p.wp,wn:=p.wn,wcp:=p.wcp,sk:=p.sk,fr:=p.fr,to:=p.to,q:=p.q }
theorem put_prog (r p:Rv):z9w (rcs r) 10 (pcs p).toList=rcs (r.withP p):=by simp [z9w,rcs,pcs,Rv.withP]
theorem pcs_one (r:Rv):(pcs r).all (·.oneCell')=true:=by simp [pcs,Value.oneCell']
theorem z4t (p:Rv) {ops:Array Oper} {rest:List Oper} {a:Act} {w:World} {Q:Exit→Act→World→Prop} {dst:Option Tmp} {x y:Operand} {ty:TypeId} {pos:String} {after:Array Edge} {B:Nat} {r:Rv} (hB:RB w B r)
 (hx:a.eval x=.pointer (some ⟨B,10,none⟩)) (hy:a.eval y=.agg (pcs p))
 (h:wpList Tryz.prog ops Q rest (a.put dst undef) (w.setRow B (rcs (r.withP p)))):wpList Tryz.prog ops Q (Oper.mk dst (.store 49 x y) ty pos after none::rest) a w :=
 wpList_store_part rfl 49 x y rfl B 10 (pcs p) hx hy 51 (rcs r) hB (by kernel_rfl) (by show 10+10≤20;omega) (pcs_one p) (by rw [put_prog];exact h)
theorem z0m {fn:Func} (h:fn.results=#[.cell 2 51,.tmp 3]) (tmps:Array Value) (W:World) (R:Nat) (r:Rv) (v:Value) (hp:tmps.getD 2 undef=.pointer (some ⟨R,0,none⟩)) (hv:tmps.getD 3 undef=v)
 (hB:RB W R r):(results fn tmps).run Tryz.prog W=.ok (.tuple #[.agg (rcs r),v]) W:=by
 rw [results_cell_tmp h,hp,hv]
 simp [asAddr,Result.andThen,run_loadVar_row W R 51 51 (rcs r) (0,0) _ hB Tryz.underlying51 rfl (by kernel_rfl)]
def ptc (k:Int):Array Value:=#[.bool (kS k),.bool (kT k),.bool (kB k),.bool (kA k),.bool (kO k),.bool (kP k)]
abbrev pz:Array Value:=#[.bool false,.bool false,.bool false,.bool false,.bool false,.bool false]
theorem z0l (C:Array Value) (hC:C.size=6) (h1:C.all (·.oneCell')=true) {ops:Array Oper} {rest:List Oper} {a:Act} {w:World} {Q:Exit→Act→World→Prop} {dst:Option Tmp} {x y:Operand} {ty:TypeId} {pos:String} {after:Array Edge} {B:Nat} (hB:w.heap[B]?=some (.cells pz 194 (0,0)))
 (hx:a.eval x=.pointer (some ⟨B,0,none⟩)) (hy:a.eval y=.agg C)
 (h:wpList Tryz.prog ops Q rest (a.put dst undef) (w.setRow B C)):wpList Tryz.prog ops Q (Oper.mk dst (.store 194 x y) ty pos after none::rest) a w :=
 wpList_store_row rfl 194 x y rfl B C hx hy 194 pz hB (by rw [hC];kernel_rfl) (by rw [hC];rfl) h1 h
theorem z2q {fn:Func} (h:fn.results=#[.cell 2 194,.tmp 3]) (tmps:Array Value) (W:World) (R:Nat) (C:Array Value) (v:Value) (hp:tmps.getD 2 undef=.pointer (some ⟨R,0,none⟩)) (hv:tmps.getD 3 undef=v)
 (hB:W.heap[R]?=some (.cells C 194 (0,0))) (hC:C.size=6):(results fn tmps).run Tryz.prog W=.ok (.tuple #[.agg C,v]) W:=by
 rw [results_cell_tmp h,hp,hv]
 simp [asAddr,Result.andThen,run_loadVar_row W R 194 194 C (0,0) _ hB Tryz.underlying194 rfl (by rw [hC];kernel_rfl)]
def z1k (W:World) (k:Int) (e:Ending) (w':World):Prop:=e=.returned (.tuple #[.agg (ptc k),.bool (kOk k)])∧Below W.heap.size W w'
theorem z1m (k:Int) (W:World):Calls Tryz.prog 120 #[.int .u8 k] W (z1k W k):=by
 obtain⟨R,hR⟩:∃ R,W.heap.size=R:=⟨_,rfl⟩
 obtain⟨W0,hW0,hr0,hb0⟩:∃ W0,W.alloc (.cells pz 194)=W0∧W0.heap[R]?=some (.cells pz 194 (0,0))∧Below W.heap.size W W0:=⟨_,rfl,by rw [← hR];exact z0b W _,(Below.refl _ _).alloc (Nat.le_refl _) _⟩
 have HRE:=hid hR
 have HW0:=hid hW0
 have HR0:=hid hr0
 have HB0:=hid hb0
 have HLE:Hid (W.heap.size≤R):=hid (by omega)
 clear hR hW0 hr0 hb0
 by_cases h1:k=1
 case pos =>
  subst h1
  have HF:=hid (setRow_heap W0 R _ #[.bool true,.bool false,.bool false,.bool false,.bool false,.bool true] _ _ HR0.out)
  have HS6:Hid ((#[.bool true,.bool false,.bool false,.bool false,.bool false,.bool true]:Array Value).size=6):=hid rfl
  have HA6:Hid ((#[.bool true,.bool false,.bool false,.bool false,.bool false,.bool true]:Array Value).all (·.oneCell')=true):=hid (by simp [Value.oneCell'])
  have HG:Hid (z1k W 1 (.returned (.tuple #[.agg #[.bool true,.bool false,.bool false,.bool false,.bool false,.bool true],.bool true])) (W0.setRow R #[.bool true,.bool false,.bool false,.bool false,.bool false,.bool true])):=hid ⟨rfl,below_setRow HB0.out HLE.out #[.bool true,.bool false,.bool false,.bool false,.bool false,.bool true]⟩
  go_enter Tryz.func120,Tryz.ntmps120
  go_upto_region 1 with (fail)
  rw [HW0.out,HRE.out]
  go_wp2_with ((with_reducible refine z0l #[.bool true,.bool false,.bool false,.bool false,.bool false,.bool true] HS6.out HA6.out HR0.out ?_ ?_ ?_);rfl;rfl)
  (try simp only [Exit.inBlock,Exit.then])
  refine bodyPost_ret (v:=.tuple #[.agg #[.bool true,.bool false,.bool false,.bool false,.bool false,.bool true],.bool true]) ?_ rfl HG.out
  exact z2q rfl _ _ R #[.bool true,.bool false,.bool false,.bool false,.bool false,.bool true] _ rfl rfl HF.out rfl
 by_cases h2:k=2
 case pos =>
  subst h2
  clear h1
  have HF:=hid (setRow_heap W0 R _ #[.bool true,.bool true,.bool true,.bool false,.bool false,.bool false] _ _ HR0.out)
  have HS6:Hid ((#[.bool true,.bool true,.bool true,.bool false,.bool false,.bool false]:Array Value).size=6):=hid rfl
  have HA6:Hid ((#[.bool true,.bool true,.bool true,.bool false,.bool false,.bool false]:Array Value).all (·.oneCell')=true):=hid (by simp [Value.oneCell'])
  have HG:Hid (z1k W 2 (.returned (.tuple #[.agg #[.bool true,.bool true,.bool true,.bool false,.bool false,.bool false],.bool true])) (W0.setRow R #[.bool true,.bool true,.bool true,.bool false,.bool false,.bool false])):=hid ⟨rfl,below_setRow HB0.out HLE.out #[.bool true,.bool true,.bool true,.bool false,.bool false,.bool false]⟩
  go_enter Tryz.func120,Tryz.ntmps120
  go_upto_region 1 with (fail)
  rw [HW0.out,HRE.out]
  go_wp2_with ((with_reducible refine z0l #[.bool true,.bool true,.bool true,.bool false,.bool false,.bool false] HS6.out HA6.out HR0.out ?_ ?_ ?_);rfl;rfl)
  (try simp only [Exit.inBlock,Exit.then])
  refine bodyPost_ret (v:=.tuple #[.agg #[.bool true,.bool true,.bool true,.bool false,.bool false,.bool false],.bool true]) ?_ rfl HG.out
  exact z2q rfl _ _ R #[.bool true,.bool true,.bool true,.bool false,.bool false,.bool false] _ rfl rfl HF.out rfl
 by_cases h3:k=3
 case pos =>
  subst h3
  clear h1
  clear h2
  have HF:=hid (setRow_heap W0 R _ #[.bool false,.bool true,.bool false,.bool true,.bool false,.bool false] _ _ HR0.out)
  have HS6:Hid ((#[.bool false,.bool true,.bool false,.bool true,.bool false,.bool false]:Array Value).size=6):=hid rfl
  have HA6:Hid ((#[.bool false,.bool true,.bool false,.bool true,.bool false,.bool false]:Array Value).all (·.oneCell')=true):=hid (by simp [Value.oneCell'])
  have HG:Hid (z1k W 3 (.returned (.tuple #[.agg #[.bool false,.bool true,.bool false,.bool true,.bool false,.bool false],.bool true])) (W0.setRow R #[.bool false,.bool true,.bool false,.bool true,.bool false,.bool false])):=hid ⟨rfl,below_setRow HB0.out HLE.out #[.bool false,.bool true,.bool false,.bool true,.bool false,.bool false]⟩
  go_enter Tryz.func120,Tryz.ntmps120
  go_upto_region 1 with (fail)
  rw [HW0.out,HRE.out]
  go_wp2_with ((with_reducible refine z0l #[.bool false,.bool true,.bool false,.bool true,.bool false,.bool false] HS6.out HA6.out HR0.out ?_ ?_ ?_);rfl;rfl)
  (try simp only [Exit.inBlock,Exit.then])
  refine bodyPost_ret (v:=.tuple #[.agg #[.bool false,.bool true,.bool false,.bool true,.bool false,.bool false],.bool true]) ?_ rfl HG.out
  exact z2q rfl _ _ R #[.bool false,.bool true,.bool false,.bool true,.bool false,.bool false] _ rfl rfl HF.out rfl
 by_cases h4:k=4
 case pos =>
  subst h4
  clear h1
  clear h2
  clear h3
  have HF:=hid (setRow_heap W0 R _ #[.bool false,.bool true,.bool false,.bool false,.bool false,.bool false] _ _ HR0.out)
  have HS6:Hid ((#[.bool false,.bool true,.bool false,.bool false,.bool false,.bool false]:Array Value).size=6):=hid rfl
  have HA6:Hid ((#[.bool false,.bool true,.bool false,.bool false,.bool false,.bool false]:Array Value).all (·.oneCell')=true):=hid (by simp [Value.oneCell'])
  have HG:Hid (z1k W 4 (.returned (.tuple #[.agg #[.bool false,.bool true,.bool false,.bool false,.bool false,.bool false],.bool true])) (W0.setRow R #[.bool false,.bool true,.bool false,.bool false,.bool false,.bool false])):=hid ⟨rfl,below_setRow HB0.out HLE.out #[.bool false,.bool true,.bool false,.bool false,.bool false,.bool false]⟩
  go_enter Tryz.func120,Tryz.ntmps120
  go_upto_region 1 with (fail)
  rw [HW0.out,HRE.out]
  go_wp2_with ((with_reducible refine z0l #[.bool false,.bool true,.bool false,.bool false,.bool false,.bool false] HS6.out HA6.out HR0.out ?_ ?_ ?_);rfl;rfl)
  (try simp only [Exit.inBlock,Exit.then])
  refine bodyPost_ret (v:=.tuple #[.agg #[.bool false,.bool true,.bool false,.bool false,.bool false,.bool false],.bool true]) ?_ rfl HG.out
  exact z2q rfl _ _ R #[.bool false,.bool true,.bool false,.bool false,.bool false,.bool false] _ rfl rfl HF.out rfl
 by_cases h5:k=5
 case pos =>
  subst h5
  clear h1
  clear h2
  clear h3
  clear h4
  have HF:=hid (setRow_heap W0 R _ #[.bool false,.bool true,.bool false,.bool false,.bool false,.bool false] _ _ HR0.out)
  have HS6:Hid ((#[.bool false,.bool true,.bool false,.bool false,.bool false,.bool false]:Array Value).size=6):=hid rfl
  have HA6:Hid ((#[.bool false,.bool true,.bool false,.bool false,.bool false,.bool false]:Array Value).all (·.oneCell')=true):=hid (by simp [Value.oneCell'])
  have HG:Hid (z1k W 5 (.returned (.tuple #[.agg #[.bool false,.bool true,.bool false,.bool false,.bool false,.bool false],.bool true])) (W0.setRow R #[.bool false,.bool true,.bool false,.bool false,.bool false,.bool false])):=hid ⟨rfl,below_setRow HB0.out HLE.out #[.bool false,.bool true,.bool false,.bool false,.bool false,.bool false]⟩
  go_enter Tryz.func120,Tryz.ntmps120
  go_upto_region 1 with (fail)
  rw [HW0.out,HRE.out]
  go_wp2_with ((with_reducible refine z0l #[.bool false,.bool true,.bool false,.bool false,.bool false,.bool false] HS6.out HA6.out HR0.out ?_ ?_ ?_);rfl;rfl)
  (try simp only [Exit.inBlock,Exit.then])
  refine bodyPost_ret (v:=.tuple #[.agg #[.bool false,.bool true,.bool false,.bool false,.bool false,.bool false],.bool true]) ?_ rfl HG.out
  exact z2q rfl _ _ R #[.bool false,.bool true,.bool false,.bool false,.bool false,.bool false] _ rfl rfl HF.out rfl
 by_cases h6:k=6
 case pos =>
  subst h6
  clear h1
  clear h2
  clear h3
  clear h4
  clear h5
  have HF:=hid (setRow_heap W0 R _ #[.bool false,.bool true,.bool false,.bool true,.bool false,.bool false] _ _ HR0.out)
  have HS6:Hid ((#[.bool false,.bool true,.bool false,.bool true,.bool false,.bool false]:Array Value).size=6):=hid rfl
  have HA6:Hid ((#[.bool false,.bool true,.bool false,.bool true,.bool false,.bool false]:Array Value).all (·.oneCell')=true):=hid (by simp [Value.oneCell'])
  have HG:Hid (z1k W 6 (.returned (.tuple #[.agg #[.bool false,.bool true,.bool false,.bool true,.bool false,.bool false],.bool true])) (W0.setRow R #[.bool false,.bool true,.bool false,.bool true,.bool false,.bool false])):=hid ⟨rfl,below_setRow HB0.out HLE.out #[.bool false,.bool true,.bool false,.bool true,.bool false,.bool false]⟩
  go_enter Tryz.func120,Tryz.ntmps120
  go_upto_region 1 with (fail)
  rw [HW0.out,HRE.out]
  go_wp2_with ((with_reducible refine z0l #[.bool false,.bool true,.bool false,.bool true,.bool false,.bool false] HS6.out HA6.out HR0.out ?_ ?_ ?_);rfl;rfl)
  (try simp only [Exit.inBlock,Exit.then])
  refine bodyPost_ret (v:=.tuple #[.agg #[.bool false,.bool true,.bool false,.bool true,.bool false,.bool false],.bool true]) ?_ rfl HG.out
  exact z2q rfl _ _ R #[.bool false,.bool true,.bool false,.bool true,.bool false,.bool false] _ rfl rfl HF.out rfl
 by_cases h7:k=7
 case pos =>
  subst h7
  clear h1
  clear h2
  clear h3
  clear h4
  clear h5
  clear h6
  have HF:=hid (setRow_heap W0 R _ #[.bool false,.bool true,.bool false,.bool false,.bool false,.bool false] _ _ HR0.out)
  have HS6:Hid ((#[.bool false,.bool true,.bool false,.bool false,.bool false,.bool false]:Array Value).size=6):=hid rfl
  have HA6:Hid ((#[.bool false,.bool true,.bool false,.bool false,.bool false,.bool false]:Array Value).all (·.oneCell')=true):=hid (by simp [Value.oneCell'])
  have HG:Hid (z1k W 7 (.returned (.tuple #[.agg #[.bool false,.bool true,.bool false,.bool false,.bool false,.bool false],.bool true])) (W0.setRow R #[.bool false,.bool true,.bool false,.bool false,.bool false,.bool false])):=hid ⟨rfl,below_setRow HB0.out HLE.out #[.bool false,.bool true,.bool false,.bool false,.bool false,.bool false]⟩
  go_enter Tryz.func120,Tryz.ntmps120
  go_upto_region 1 with (fail)
  rw [HW0.out,HRE.out]
  go_wp2_with ((with_reducible refine z0l #[.bool false,.bool true,.bool false,.bool false,.bool false,.bool false] HS6.out HA6.out HR0.out ?_ ?_ ?_);rfl;rfl)
  (try simp only [Exit.inBlock,Exit.then])
  refine bodyPost_ret (v:=.tuple #[.agg #[.bool false,.bool true,.bool false,.bool false,.bool false,.bool false],.bool true]) ?_ rfl HG.out
  exact z2q rfl _ _ R #[.bool false,.bool true,.bool false,.bool false,.bool false,.bool false] _ rfl rfl HF.out rfl
 by_cases h8:k=8
 case pos =>
  subst h8
  clear h1
  clear h2
  clear h3
  clear h4
  clear h5
  clear h6
  clear h7
  have HF:=hid (setRow_heap W0 R _ #[.bool true,.bool false,.bool false,.bool false,.bool false,.bool false] _ _ HR0.out)
  have HS6:Hid ((#[.bool true,.bool false,.bool false,.bool false,.bool false,.bool false]:Array Value).size=6):=hid rfl
  have HA6:Hid ((#[.bool true,.bool false,.bool false,.bool false,.bool false,.bool false]:Array Value).all (·.oneCell')=true):=hid (by simp [Value.oneCell'])
  have HG:Hid (z1k W 8 (.returned (.tuple #[.agg #[.bool true,.bool false,.bool false,.bool false,.bool false,.bool false],.bool true])) (W0.setRow R #[.bool true,.bool false,.bool false,.bool false,.bool false,.bool false])):=hid ⟨rfl,below_setRow HB0.out HLE.out #[.bool true,.bool false,.bool false,.bool false,.bool false,.bool false]⟩
  go_enter Tryz.func120,Tryz.ntmps120
  go_upto_region 1 with (fail)
  rw [HW0.out,HRE.out]
  go_wp2_with ((with_reducible refine z0l #[.bool true,.bool false,.bool false,.bool false,.bool false,.bool false] HS6.out HA6.out HR0.out ?_ ?_ ?_);rfl;rfl)
  (try simp only [Exit.inBlock,Exit.then])
  refine bodyPost_ret (v:=.tuple #[.agg #[.bool true,.bool false,.bool false,.bool false,.bool false,.bool false],.bool true]) ?_ rfl HG.out
  exact z2q rfl _ _ R #[.bool true,.bool false,.bool false,.bool false,.bool false,.bool false] _ rfl rfl HF.out rfl
 by_cases h9:k=9
 case pos =>
  subst h9
  clear h1
  clear h2
  clear h3
  clear h4
  clear h5
  clear h6
  clear h7
  clear h8
  have HF:=hid (setRow_heap W0 R _ #[.bool true,.bool false,.bool false,.bool false,.bool true,.bool false] _ _ HR0.out)
  have HS6:Hid ((#[.bool true,.bool false,.bool false,.bool false,.bool true,.bool false]:Array Value).size=6):=hid rfl
  have HA6:Hid ((#[.bool true,.bool false,.bool false,.bool false,.bool true,.bool false]:Array Value).all (·.oneCell')=true):=hid (by simp [Value.oneCell'])
  have HG:Hid (z1k W 9 (.returned (.tuple #[.agg #[.bool true,.bool false,.bool false,.bool false,.bool true,.bool false],.bool true])) (W0.setRow R #[.bool true,.bool false,.bool false,.bool false,.bool true,.bool false])):=hid ⟨rfl,below_setRow HB0.out HLE.out #[.bool true,.bool false,.bool false,.bool false,.bool true,.bool false]⟩
  go_enter Tryz.func120,Tryz.ntmps120
  go_upto_region 1 with (fail)
  rw [HW0.out,HRE.out]
  go_wp2_with ((with_reducible refine z0l #[.bool true,.bool false,.bool false,.bool false,.bool true,.bool false] HS6.out HA6.out HR0.out ?_ ?_ ?_);rfl;rfl)
  (try simp only [Exit.inBlock,Exit.then])
  refine bodyPost_ret (v:=.tuple #[.agg #[.bool true,.bool false,.bool false,.bool false,.bool true,.bool false],.bool true]) ?_ rfl HG.out
  exact z2q rfl _ _ R #[.bool true,.bool false,.bool false,.bool false,.bool true,.bool false] _ rfl rfl HF.out rfl
 have e1:(k==1)=false:=by simpa using h1
 have e2:(k==2)=false:=by simpa using h2
 have e3:(k==3)=false:=by simpa using h3
 have e4:(k==4)=false:=by simpa using h4
 have e5:(k==5)=false:=by simpa using h5
 have e6:(k==6)=false:=by simpa using h6
 have e7:(k==7)=false:=by simpa using h7
 have e8:(k==8)=false:=by simpa using h8
 have e9:(k==9)=false:=by simpa using h9
 have HK:Hid (ptc k=pz∧kOk k=false):=hid ⟨by unfold ptc kS kT kB kA kO kP;rw [e1,e2,e3,e4,e5,e6,e7,e8,e9];rfl,by unfold kOk;rw [e1,e2,e3,e4,e5,e6,e7,e8,e9];rfl⟩
 clear h1 h2 h3 h4 h5 h6 h7 h8 h9
 have HF:=hid (setRow_heap W0 R _ pz _ _ HR0.out)
 have HS6:Hid ((pz:Array Value).size=6):=hid rfl
 have HA6:Hid ((pz:Array Value).all (·.oneCell')=true):=hid (by simp [Value.oneCell'])
 have HG:Hid (z1k W k (.returned (.tuple #[.agg pz,.bool false])) (W0.setRow R pz)):=hid ⟨by rw [HK.out.1,HK.out.2],below_setRow HB0.out HLE.out pz⟩
 go_enter Tryz.func120,Tryz.ntmps120
 go_upto_region 1 with (fail)
 rw [HW0.out,HRE.out]
 go_wp2_with ((with_reducible refine z0l pz HS6.out HA6.out HR0.out ?_ ?_ ?_);rfl;rfl)
 (try simp only [Exit.inBlock,Exit.then])
 refine bodyPost_ret (v:=.tuple #[.agg pz,.bool false]) ?_ rfl HG.out
 exact z2q rfl _ _ R pz _ rfl rfl HF.out rfl
theorem z2i {ops:Array Oper} {rest:List Oper} {a:Act} {w:World} {Q:Exit→Act→World→Prop} {dst:Option Tmp} {x:Operand} {ty:TypeId} {pos:String} {after:Array Edge} {B:Nat} {r:Rv} (hC:RB w B r) (hx:a.eval x=.pointer (some ⟨B,5,none⟩))
 (h:wpList Tryz.prog ops Q rest (a.put dst (.agg #[.int .u8 r.ka,.int .u8 r.kb,.int .u8 r.kc])) w):wpList Tryz.prog ops Q (Oper.mk dst (.load 45 x) ty pos after none::rest) a w :=
 wpList_load_part rfl 45 x rfl B 5 hx 51 (rcs r) #[.int .u8 r.ka,.int .u8 r.kb,.int .u8 r.kc] (0,0) _ hC (by
  intro j hj
  have h3:j<3:=hj
  rcases (by omega:j=0∨j=1∨j=2) with rfl | rfl | rfl <;> rfl) Tryz.underlying45 rfl (by kernel_rfl) h
theorem z0i {ops:Array Oper} {rest:List Oper} {a:Act} {w:World} {Q:Exit→Act→World→Prop} {dst:Option Tmp} {x:Operand} {ty:TypeId} {pos:String} {after:Array Edge} {gd:Option (Nat × Bool)} {B:Nat} {r:Rv} (hC:RB w B r) (hw:Region.wanted (Oper.mk dst (.load 45 x) ty pos after gd) (yielded ops a.tmps)=true) (hx:a.eval x=.pointer (some ⟨B,5,none⟩))
 (h:wpList Tryz.prog ops Q rest (a.put dst (.agg #[.int .u8 r.ka,.int .u8 r.kb,.int .u8 r.kc])) w):wpList Tryz.prog ops Q (Oper.mk dst (.load 45 x) ty pos after gd::rest) a w :=
 wpList_step fun K hK=>by
  rw [if_pos hw]
  unfold Oper.wp execOp
  simp only [hx,Instr.loadAt,Instr.sureAddr,Sem.run_bind,Sem.run_pure,Result.andThen_ok,z4h w B 5 51 45 (rcs r) #[.int .u8 r.ka,.int .u8 r.kb,.int .u8 r.kc] (0,0) _ hC (by
   intro j hj
   have h3:j<3:=hj
   rcases (by omega:j=0∨j=1∨j=2) with rfl | rfl | rfl <;> rfl) Tryz.underlying45 rfl (by kernel_rfl)]
  exact hK _ _ h
theorem gstep_any (h:Bool) (r:Rv) (W:World):Calls Tryz.prog 121 #[.bool h,.agg (rcs r)] W fun e w'=>e=.returned (.bool (z7u h r.st r.cp))∧Below W.heap.size W w':=by
 obtain⟨W1,hW1,hb1⟩:∃ W1,W.alloc (.cells (rcs r) 51)=W1∧Below W.heap.size W W1:=⟨_,rfl,(Below.refl _ _).alloc (Nat.le_refl _) _⟩
 obtain⟨B,hB⟩:∃ B,W.heap.size=B:=⟨_,rfl⟩
 have hrb:=RB.new W r
 rw [hW1,hB] at hrb
 have HX1:=hid hrb
 have HW1:=hid hW1
 have HB1:=hid hb1
 have HRE:=hid hB
 obtain⟨c0,c1,c2,c3,c4,c5,c6,c7,c8,c9⟩:=hrb.at
 clear hW1 hb1 hB hrb
 clear c0 c1 c2 c5 c6 c7 c8 c9
 generalize r.st=st at *
 generalize r.cp=cp at *
 cases h with
 | false =>
  cases hs:(st==0) with
  | false =>
   go_enter Tryz.func121,Tryz.ntmps121
   go_upto_region 1 with (fail)
   rw [HW1.out,HRE.out]
   go_wp2_with fail
   go_ret
   exact⟨by simp [z7u,hs],HB1.out⟩
  | true =>
   go_enter Tryz.func121,Tryz.ntmps121
   go_upto_region 1 with (fail)
   rw [HW1.out,HRE.out]
   go_wp2_with fail
   go_ret
   exact⟨by simp [z7u,hs],HB1.out⟩
 | true =>
  go_enter Tryz.func121,Tryz.ntmps121
  go_upto_region 1 with (fail)
  rw [HW1.out,HRE.out]
  go_wp2_with fail
  go_ret
  exact⟨by simp [z7u],HB1.out⟩
theorem gout_any (h:Bool) (r:Rv) (W:World):Calls Tryz.prog 123 #[.bool h,.agg (rcs r)] W fun e w'=>e=.returned (.bool (outB h r.o))∧Below W.heap.size W w':=by
 obtain⟨W1,hW1,hb1⟩:∃ W1,W.alloc (.cells (rcs r) 51)=W1∧Below W.heap.size W W1:=⟨_,rfl,(Below.refl _ _).alloc (Nat.le_refl _) _⟩
 obtain⟨B,hB⟩:∃ B,W.heap.size=B:=⟨_,rfl⟩
 have hrb:=RB.new W r
 rw [hW1,hB] at hrb
 have HX1:=hid hrb
 have HW1:=hid hW1
 have HB1:=hid hb1
 have HRE:=hid hB
 obtain⟨c0,c1,c2,c3,c4,c5,c6,c7,c8,c9⟩:=hrb.at
 clear hW1 hb1 hB hrb
 clear c0 c1 c2 c3 c4 c5 c6 c7 c8
 generalize r.o=o at *
 cases h with
 | false =>
  go_enter Tryz.func123,Tryz.ntmps123
  go_upto_region 1 with (fail)
  rw [HW1.out,HRE.out]
  go_wp2_with fail
  go_ret
  exact⟨by simp [outB],HB1.out⟩
 | true =>
  cases hs:(o==1) with
  | false =>
   go_enter Tryz.func123,Tryz.ntmps123
   go_upto_region 1 with (fail)
   rw [HW1.out,HRE.out]
   go_wp2_with fail
   go_ret
   exact⟨by simp [outB,hs],HB1.out⟩
  | true =>
   go_enter Tryz.func123,Tryz.ntmps123
   go_upto_region 1 with (fail)
   rw [HW1.out,HRE.out]
   go_wp2_with fail
   go_ret
   exact⟨by simp [outB,hs],HB1.out⟩
theorem gadd_any (h:Bool) (r:Rv) (hb:(0≤r.kb∧r.kb≤255)∧(0≤r.kc∧r.kc≤255)) (W:World):Calls Tryz.prog 122 #[.bool h,.agg (rcs r)] W fun e w'=>e=.returned (.bool (addB h (r.ka,r.kb,r.kc) r.d))∧Below W.heap.size W w':=by
 obtain⟨W1,hW1,hb1⟩:∃ W1,W.alloc (.cells (rcs r) 51)=W1∧Below W.heap.size W W1:=⟨_,rfl,(Below.refl _ _).alloc (Nat.le_refl _) _⟩
 obtain⟨B,hB⟩:∃ B,W.heap.size=B:=⟨_,rfl⟩
 have hrb:=RB.new W r
 rw [hW1,hB] at hrb
 have HX1:=hid hrb
 have HW1:=hid hW1
 have HB1:=hid hb1
 have HRE:=hid hB
 obtain⟨c0,c1,c2,c3,c4,c5,c6,c7,c8,c9⟩:=hrb.at
 clear hW1 hb1 hB hrb
 clear c0 c1 c2 c3 c4 c5 c6 c7 c9
 have hkg:=fun W=>good_any 4 4 r.ka r.kb r.kc hb.1 hb.2 W
 have hke:=fun w=>key_eql r.ka r.kb r.kc 0 0 0 w
 clear hb
 generalize hdd:r.d=d at *
 cases h with
 | false =>
  clear hkg
  have HA:Hid (addB false (r.ka,r.kb,r.kc) d=(decide (((r.ka,r.kb,r.kc):K)=(0,0,0)) && d==0)):=hid rfl
  generalize decide (((r.ka,r.kb,r.kc):K)=(0,0,0))=y at *
  cases y with
  | false =>
   go_enter Tryz.func122,Tryz.ntmps122
   go_upto_region 1 with (fail)
   rw [HW1.out,HRE.out]
   go_wp2_with ((with_reducible refine z2i HX1.out ?_ ?_);rfl)
   go_ret
   exact⟨by rw [HA.out];rfl,HB1.out⟩
  | true =>
   go_enter Tryz.func122,Tryz.ntmps122
   go_upto_region 1 with (fail)
   rw [HW1.out,HRE.out]
   go_wp2_with ((with_reducible refine z2i HX1.out ?_ ?_);rfl)
   go_ret
   exact⟨by rw [HA.out];rfl,HB1.out⟩
 | true =>
  clear hke
  have HA:Hid (addB true (r.ka,r.kb,r.kc) d=((z4p 4 4 r.ka r.kb r.kc && d != 0) && d != -9223372036854775808)):=hid rfl
  generalize z4p 4 4 r.ka r.kb r.kc=y at *
  cases y with
  | false =>
   go_enter Tryz.func122,Tryz.ntmps122
   go_upto_region 1 with (fail)
   rw [HW1.out,HRE.out]
   go_wp2_with ((with_reducible refine z2i HX1.out ?_ ?_);rfl)
   refine (hkg _).mono ?_
   rintro e w2 ⟨rfl,h2⟩
   have HB2:=hid (HB1.out.trans (h2.below.mono HB1.out.size))
   clear h2 c8
   go_wp2_with fail
   go_ret
   exact⟨by rw [HA.out];rfl,HB2.out⟩
  | true =>
   cases hz:(d != 0) with
   | false =>
    go_enter Tryz.func122,Tryz.ntmps122
    go_upto_region 1 with (fail)
    rw [HW1.out,HRE.out]
    go_wp2_with ((with_reducible refine z2i HX1.out ?_ ?_);rfl)
    refine (hkg _).mono ?_
    rintro e w2 ⟨rfl,h2⟩
    have HB2:=hid (HB1.out.trans (h2.below.mono HB1.out.size))
    have c8':w2.cell? ⟨B,8,none⟩=some (.int .i64 d):=by rw [← hdd];exact z0a (HX1.out.later h2.below) rfl
    clear h2 c8 hdd
    go_wp2_with fail
    go_ret
    exact⟨by rw [HA.out,hz];rfl,HB2.out⟩
   | true =>
    go_enter Tryz.func122,Tryz.ntmps122
    go_upto_region 1 with (fail)
    rw [HW1.out,HRE.out]
    go_wp2_with ((with_reducible refine z2i HX1.out ?_ ?_);rfl)
    refine (hkg _).mono ?_
    rintro e w2 ⟨rfl,h2⟩
    have HB2:=hid (HB1.out.trans (h2.below.mono HB1.out.size))
    have c8':w2.cell? ⟨B,8,none⟩=some (.int .i64 d):=by rw [← hdd];exact z0a (HX1.out.later h2.below) rfl
    clear h2 c8 hdd
    go_wp2_with fail
    go_ret
    exact⟨by rw [HA.out,hz];rfl,HB2.out⟩
theorem gprog_any (h:Bool) (r:Rv) (L:List Ln) (T:List Tk) (M:List Ln) (W:World) (hw:Words W) (hP:RvM W r L T M) (hok:Pgok (r.pg L T M)) (h1:r.ln≤400∧r.tn≤400∧r.wn≤400):Calls Tryz.prog 124 #[.bool h,.agg (rcs r)] W fun e w'=>e=.returned (.bool (z7y h (r.pg L T M)))∧Below W.heap.size W w':=by
 obtain⟨W1,hW1,hb1⟩:∃ W1,W.alloc (.cells (rcs r) 51)=W1∧Below W.heap.size W W1:=⟨_,rfl,(Below.refl _ _).alloc (Nat.le_refl _) _⟩
 obtain⟨B,hB⟩:∃ B,W.heap.size=B:=⟨_,rfl⟩
 have hrb:=RB.new W r
 rw [hW1,hB] at hrb
 have HX1:=hid hrb
 have HW1:=hid hW1
 have HB1:=hid hb1
 have HRE:=hid hB
 obtain⟨c0,c1,c2,c3,c4,c5,c6,c7,c8,c9⟩:=hrb.at
 clear hW1 hb1 hB hrb
 clear c0 c1 c2 c3 c4 c5 c6 c7 c8 c9
 have hs:=same_p r.pk r.od r.po r.lp r.ln r.lcp r.tp r.tn r.tcp r.wp r.wn r.wcp r.sk r.fr r.to r.q 0 0 0 none 0 0 none 0 0 none 0 0 0 0 0 0 L T M [] [] [] W1 (hP.later HB1.out) ⟨SlG.empty _,SlG.empty _,SlG.empty _⟩ ⟨by omega,by omega,by omega⟩ ⟨by omega,by omega,by omega⟩
 have hg:=q1z 4 4 r.pk r.od r.po r.lp r.ln r.lcp r.tp r.tn r.tcp r.wp r.wn r.wcp r.sk r.fr r.to r.q L T M W1 (hw.later HB1.out) (hP.later HB1.out) hok h1
 clear hw hP hok h1
 obtain⟨y,hy⟩:∃ y,decide ((⟨r.pk,r.od,r.po,L,T,M,r.sk,r.fr,r.to,r.q⟩:Pg)=⟨0,0,0,[],[],[],0,0,0,0⟩)=y:=⟨_,rfl⟩
 rw [hy] at hs
 have HA:Hid (z7y false (r.pg L T M)=y):=hid hy
 clear hy
 cases h with
 | false =>
  clear hg
  go_enter Tryz.func124,Tryz.ntmps124
  go_upto_region 1 with (fail)
  rw [HW1.out,HRE.out]
  go_wp2_with ((with_reducible refine z3y HX1.out ?_ ?_);rfl)
  refine hs.mono ?_
  rintro e w2 ⟨rfl,h2⟩
  have HB2:=hid (HB1.out.trans (h2.mono HB1.out.size))
  clear h2 hs
  go_wp2_with fail
  go_ret
  exact⟨by rw [HA.out];rfl,HB2.out⟩
 | true =>
  clear hs
  go_enter Tryz.func124,Tryz.ntmps124
  go_upto_region 1 with (fail)
  rw [HW1.out,HRE.out]
  go_wp2_with ((with_reducible refine z3y HX1.out ?_ ?_);rfl)
  refine hg.mono ?_
  rintro e w2 ⟨rfl,h2⟩
  have HB2:=hid (HB1.out.trans (h2.mono HB1.out.size))
  clear h2 hg
  go_wp2_with fail
  go_ret
  exact⟨rfl,HB2.out⟩
theorem rec_good (r:Rv) (L:List Ln) (T:List Tk) (M:List Ln) (W:World) (hw:Words W) (hP:RvM W r L T M) (hok:Rxok (r.x L T M)) (h1:r.ln≤400∧r.tn≤400∧r.wn≤400):Calls Tryz.prog 83 #[.agg (rcs r)] W fun e w'=>e=.returned (.bool (z1f (r.x L T M)))∧Below W.heap.size W w':=by
 obtain⟨W1,hW1,hb1⟩:∃ W1,W.alloc (.cells (rcs r) 51)=W1∧Below W.heap.size W W1:=⟨_,rfl,(Below.refl _ _).alloc (Nat.le_refl _) _⟩
 obtain⟨B,hB⟩:∃ B,W.heap.size=B:=⟨_,rfl⟩
 have hrb:=RB.new W r
 rw [hW1,hB] at hrb
 have HX1:=hid hrb
 have HW1:=hid hW1
 have HB1:=hid hb1
 have HRE:=hid hB
 have c0:W1.cell? ⟨B,0,none⟩=some (.int .u8 r.k):=z0a hrb rfl
 clear hW1 hb1 hB hrb
 obtain⟨b0,hb0⟩:∃ b,kOk r.k=b:=⟨_,rfl⟩
 obtain⟨b1,hb1⟩:∃ b,kS r.k=b:=⟨_,rfl⟩
 obtain⟨b2,hb2⟩:∃ b,kT r.k=b:=⟨_,rfl⟩
 obtain⟨b3,hb3⟩:∃ b,kB r.k=b:=⟨_,rfl⟩
 obtain⟨b4,hb4⟩:∃ b,kA r.k=b:=⟨_,rfl⟩
 obtain⟨b5,hb5⟩:∃ b,kO r.k=b:=⟨_,rfl⟩
 obtain⟨b6,hb6⟩:∃ b,kP r.k=b:=⟨_,rfl⟩
 have hpt:ptc r.k=#[.bool b1,.bool b2,.bool b3,.bool b4,.bool b5,.bool b6]:=by unfold ptc;rw [hb1,hb2,hb3,hb4,hb5,hb6]
 have hpa:=z1m r.k W1
 unfold z1k at hpa
 rw [hpt,hb0] at hpa
 obtain⟨s,hs⟩:∃ y,z7u b3 r.st r.cp=y:=⟨_,rfl⟩
 obtain⟨a,ha⟩:∃ y,addB b4 (r.ka,r.kb,r.kc) r.d=y:=⟨_,rfl⟩
 obtain⟨o,ho⟩:∃ y,outB b5 r.o=y:=⟨_,rfl⟩
 obtain⟨p,hp⟩:∃ y,z7y b6 (r.pg L T M)=y:=⟨_,rfl⟩
 have HR:Hid (z1f (r.x L T M)=(b0 && (b1==(r.sg != 0)) && (b2==(r.tx != 0)) && s && a && o && p)):=hid (by
  rw [← hs,← ha,← ho,← hp,← hb0,← hb1,← hb2,← hb3,← hb4,← hb5,← hb6]
  rfl)
 have HCS:=hid (fun W=>gstep_any b3 r W)
 have HCA:=hid (fun W=>gadd_any b4 r ⟨hok.key.2.1,hok.key.2.2⟩ W)
 have HCO:=hid (fun W=>gout_any b5 r W)
 have HCP:=hid (fun W' (hb:Below W.heap.size W W')=>gprog_any b6 r L T M W' (hw.later hb) (hP.later hb) hok.pg h1)
 rw [hs] at HCS
 rw [ha] at HCA
 rw [ho] at HCO
 rw [hp] at HCP
 clear hpt hb0 hb1 hb2 hb3 hb4 hb5 hb6 hs ha ho hp hw hP hok h1
 go_enter Tryz.func83,Tryz.ntmps83
 go_upto_region 1 with (fail)
 rw [HW1.out,HRE.out]
 go_wp2_with fail
 refine hpa.mono ?_
 rintro e w2 ⟨rfl,h2⟩
 have HB2:=hid (HB1.out.trans (h2.mono HB1.out.size))
 have HX2:=hid (HX1.out.later h2)
 clear h2 hpa c0
 obtain⟨N2,hN2⟩:∃ n,w2.heap.size=n:=⟨_,rfl⟩
 obtain⟨w3,hwn,hxn,hbn⟩:∃ w3,(w2.alloc (.cells pz 194)).setRow N2 #[.bool b1,.bool b2,.bool b3,.bool b4,.bool b5,.bool b6]=w3∧w3.heap[N2]?=some (.cells #[.bool b1,.bool b2,.bool b3,.bool b4,.bool b5,.bool b6] 194 (0,0))∧Below w2.heap.size w2 w3:=⟨_,rfl,by rw [← hN2];exact setRow_heap _ _ _ _ _ _ (z0b w2 _),below_setRow ((Below.refl _ _).alloc (Nat.le_refl _) _) (by omega) _⟩
 have hx2:=z0b w2 (.cells pz 194)
 rw [hN2] at hx2
 have HPX:=hid hxn
 have HPZ:=hid hx2
 have HBN:=hid hbn
 have HWN:=hid hwn
 have HNN:=hid hN2
 have HS6:Hid ((#[.bool b1,.bool b2,.bool b3,.bool b4,.bool b5,.bool b6]:Array Value).size=6):=hid rfl
 have HA6:Hid ((#[.bool b1,.bool b2,.bool b3,.bool b4,.bool b5,.bool b6]:Array Value).all (·.oneCell')=true):=hid (by simp [Value.oneCell'])
 clear hx2 hxn hbn hwn hN2
 have HB3:=hid (HB2.out.trans (HBN.out.mono HB2.out.size))
 have HX3:=hid (HX2.out.later HBN.out)
 have gp:=z0c HPX.out (Below.refl _ _)
 have gx:=HX3.out.later (Below.refl _ _)
 have p0:w3.cell? ⟨N2,0,none⟩=some (.bool b1):=z0a gp rfl
 have p1:w3.cell? ⟨N2,1,none⟩=some (.bool b2):=z0a gp rfl
 have p2:w3.cell? ⟨N2,2,none⟩=some (.bool b3):=z0a gp rfl
 have p3:w3.cell? ⟨N2,3,none⟩=some (.bool b4):=z0a gp rfl
 have p4:w3.cell? ⟨N2,4,none⟩=some (.bool b5):=z0a gp rfl
 have p5:w3.cell? ⟨N2,5,none⟩=some (.bool b6):=z0a gp rfl
 have c1:w3.cell? ⟨B,1,none⟩=some (.int .u32 r.sg):=z0a gx rfl
 have c2:w3.cell? ⟨B,2,none⟩=some (.int .u32 r.tx):=z0a gx rfl
 have HGX:=hid gx
 clear gp gx
 cases b0
 case false =>
  go_wp2_with (first | ((try rw [HNN.out]);(with_reducible refine z0l #[.bool b1,.bool b2,.bool b3,.bool b4,.bool b5,.bool b6] HS6.out HA6.out HPZ.out ?_ ?_ ?_);rfl;rfl;rw [HWN.out]) | ((with_reducible refine z0d HGX.out ?_ ?_ ?_);rfl;rfl))
  go_ret
  exact⟨by rw [HR.out];rfl,HB3.out⟩
 cases hq1:(b1==(r.sg != 0))
 case false =>
  go_wp2_with (first | ((try rw [HNN.out]);(with_reducible refine z0l #[.bool b1,.bool b2,.bool b3,.bool b4,.bool b5,.bool b6] HS6.out HA6.out HPZ.out ?_ ?_ ?_);rfl;rfl;rw [HWN.out]) | ((with_reducible refine z0d HGX.out ?_ ?_ ?_);rfl;rfl))
  go_ret
  exact⟨by rw [HR.out,hq1];rfl,HB3.out⟩
 cases hq2:(b2==(r.tx != 0))
 case false =>
  go_wp2_with (first | ((try rw [HNN.out]);(with_reducible refine z0l #[.bool b1,.bool b2,.bool b3,.bool b4,.bool b5,.bool b6] HS6.out HA6.out HPZ.out ?_ ?_ ?_);rfl;rfl;rw [HWN.out]) | ((with_reducible refine z0d HGX.out ?_ ?_ ?_);rfl;rfl))
  go_ret
  exact⟨by rw [HR.out,hq1,hq2];rfl,HB3.out⟩
 have HQ:=hid (And.intro hq1 hq2)
 go_wp2_with (first | ((try rw [HNN.out]);(with_reducible refine z0l #[.bool b1,.bool b2,.bool b3,.bool b4,.bool b5,.bool b6] HS6.out HA6.out HPZ.out ?_ ?_ ?_);rfl;rfl;rw [HWN.out]) | ((with_reducible refine z0d HGX.out ?_ ?_ ?_);rfl;rfl))
 refine (HCS.out _).mono ?_
 rintro e w4 ⟨rfl,h4⟩
 have HB4:=hid (HB3.out.trans (h4.mono HB3.out.size))
 have HD4:Hid (Below w3.heap.size w3 w4):=hid h4
 clear h4
 clear p0 p1 p2 p3 p4 p5 c1 c2
 clear HGX
 have gp:=z0c HPX.out HD4.out
 have gx:=HX3.out.later HD4.out
 have p0:w4.cell? ⟨N2,0,none⟩=some (.bool b1):=z0a gp rfl
 have p1:w4.cell? ⟨N2,1,none⟩=some (.bool b2):=z0a gp rfl
 have p2:w4.cell? ⟨N2,2,none⟩=some (.bool b3):=z0a gp rfl
 have p3:w4.cell? ⟨N2,3,none⟩=some (.bool b4):=z0a gp rfl
 have p4:w4.cell? ⟨N2,4,none⟩=some (.bool b5):=z0a gp rfl
 have p5:w4.cell? ⟨N2,5,none⟩=some (.bool b6):=z0a gp rfl
 have c1:w4.cell? ⟨B,1,none⟩=some (.int .u32 r.sg):=z0a gx rfl
 have c2:w4.cell? ⟨B,2,none⟩=some (.int .u32 r.tx):=z0a gx rfl
 have HGX:=hid gx
 clear gp gx
 clear hq1 hq2
 cases s
 case false =>
  go_wp2_with ((with_reducible refine z0d HGX.out ?_ ?_ ?_);rfl;rfl)
  go_ret
  exact⟨by rw [HR.out,HQ.out.1,HQ.out.2];rfl,HB4.out⟩
 go_wp2_with ((with_reducible refine z0d HGX.out ?_ ?_ ?_);rfl;rfl)
 refine (HCA.out _).mono ?_
 rintro e w5 ⟨rfl,h5⟩
 have HB5:=hid (HB4.out.trans (h5.mono HB4.out.size))
 have HD5:Hid (Below w3.heap.size w3 w5):=hid (HD4.out.trans (h5.mono HD4.out.size))
 clear h5
 clear p0 p1 p2 p3 p4 p5 c1 c2
 clear HGX
 have gp:=z0c HPX.out HD5.out
 have gx:=HX3.out.later HD5.out
 have p0:w5.cell? ⟨N2,0,none⟩=some (.bool b1):=z0a gp rfl
 have p1:w5.cell? ⟨N2,1,none⟩=some (.bool b2):=z0a gp rfl
 have p2:w5.cell? ⟨N2,2,none⟩=some (.bool b3):=z0a gp rfl
 have p3:w5.cell? ⟨N2,3,none⟩=some (.bool b4):=z0a gp rfl
 have p4:w5.cell? ⟨N2,4,none⟩=some (.bool b5):=z0a gp rfl
 have p5:w5.cell? ⟨N2,5,none⟩=some (.bool b6):=z0a gp rfl
 have c1:w5.cell? ⟨B,1,none⟩=some (.int .u32 r.sg):=z0a gx rfl
 have c2:w5.cell? ⟨B,2,none⟩=some (.int .u32 r.tx):=z0a gx rfl
 have HGX:=hid gx
 clear gp gx
 cases a
 case false =>
  go_wp2_with ((with_reducible refine z0d HGX.out ?_ ?_ ?_);rfl;rfl)
  go_ret
  exact⟨by rw [HR.out,HQ.out.1,HQ.out.2];rfl,HB5.out⟩
 go_wp2_with ((with_reducible refine z0d HGX.out ?_ ?_ ?_);rfl;rfl)
 refine (HCO.out _).mono ?_
 rintro e w6 ⟨rfl,h6⟩
 have HB6:=hid (HB5.out.trans (h6.mono HB5.out.size))
 have HD6:Hid (Below w3.heap.size w3 w6):=hid (HD5.out.trans (h6.mono HD5.out.size))
 clear h6
 clear p0 p1 p2 p3 p4 p5 c1 c2
 clear HGX
 have gp:=z0c HPX.out HD6.out
 have gx:=HX3.out.later HD6.out
 have p0:w6.cell? ⟨N2,0,none⟩=some (.bool b1):=z0a gp rfl
 have p1:w6.cell? ⟨N2,1,none⟩=some (.bool b2):=z0a gp rfl
 have p2:w6.cell? ⟨N2,2,none⟩=some (.bool b3):=z0a gp rfl
 have p3:w6.cell? ⟨N2,3,none⟩=some (.bool b4):=z0a gp rfl
 have p4:w6.cell? ⟨N2,4,none⟩=some (.bool b5):=z0a gp rfl
 have p5:w6.cell? ⟨N2,5,none⟩=some (.bool b6):=z0a gp rfl
 have c1:w6.cell? ⟨B,1,none⟩=some (.int .u32 r.sg):=z0a gx rfl
 have c2:w6.cell? ⟨B,2,none⟩=some (.int .u32 r.tx):=z0a gx rfl
 have HGX:=hid gx
 clear gp gx
 cases o
 case false =>
  go_wp2_with ((with_reducible refine z0d HGX.out ?_ ?_ ?_);rfl;rfl)
  go_ret
  exact⟨by rw [HR.out,HQ.out.1,HQ.out.2];rfl,HB6.out⟩
 go_wp2_with ((with_reducible refine z0d HGX.out ?_ ?_ ?_);rfl;rfl)
 refine (HCP.out _ HB6.out).mono ?_
 rintro e w7 ⟨rfl,h7⟩
 have HB7:=hid (HB6.out.trans (h7.mono HB6.out.size))
 clear h7
 clear p0 p1 p2 p3 p4 p5 c1 c2
 go_wp2_with fail
 go_ret
 exact⟨by rw [HR.out,HQ.out.1,HQ.out.2];rfl,HB7.out⟩
def z3v (W:World) (Y:List Nat) (e:Ending) (w':World):Prop:=∃ p c,e=.returned (.tuple #[.slice p Y.length c,.int .i64 0])∧Sl w' p Y.length c Y∧Below W.heap.size W w'
theorem z4v {W w:World} {B:Nat} {L:List Nat} (h:WrOk W w B 512 (0,L)) (x:Int) (h0:0≤x∧x≤255) (hl:L.length+1≤512):Calls Tryz.prog 108 #[.pointer (some ⟨B,0,none⟩),.int .u64 x,.int .i64 1] w (z9u W B 512 (0,L++le x.toNat 1)):=by
 refine h.step fun v hv=>?_
 have:=z7n B v L x.toNat 1 w hv (by omega) (by omega) (by omega) hl
 rw [Int.toNat_of_nonneg h0.1] at this
 exact this
theorem z5j {W w:World} {B:Nat} {L:List Nat} (h:WrOk W w B 512 (0,L)) (x:Int) (h0:0≤x∧x≤4294967295) (hl:L.length+4≤512):Calls Tryz.prog 108 #[.pointer (some ⟨B,0,none⟩),.int .u64 x,.int .i64 4] w (z9u W B 512 (0,L++le x.toNat 4)):=by
 refine h.step fun v hv=>?_
 have:=z7n B v L x.toNat 4 w hv (by omega) (by omega) (by omega) hl
 rw [Int.toNat_of_nonneg h0.1] at this
 exact this
theorem wo_int {W w:World} {B:Nat} {L:List Nat} (h:WrOk W w B 512 (0,L)) (q:Int) (hq:In64 q) (hl:L.length+8≤512):Calls Tryz.prog 126 #[.pointer (some ⟨B,0,none⟩),.int .i64 q] w (z9u W B 512 (0,L++le (u64 q) 8)) :=
 h.step fun v hv=>q2y B v L q w hv hq hl
theorem bit_bitN (b:Bool):bit b=bitN b:=rfl
theorem wo_bool {W w:World} {B:Nat} {L:List Nat} (h:WrOk W w B 512 (0,L)) (b:Bool) (hl:L.length+1≤512):Calls Tryz.prog 125 #[.pointer (some ⟨B,0,none⟩),.bool b] w (z9u W B 512 (0,L ++ [bitN b])):=by
 refine h.step fun v hv=>?_
 have:=bool_wr B v 512 (0,L) b w hv (by omega) (by omega) (by dsimp only;omega)
 rwa [z7l (by simpa using hl),bit_bitN] at this
theorem wo_raw {W w:World} {B:Nat} {L:List Nat} (h:WrOk W w B 512 (0,L)) (p:Option Addr) (m c:Nat) (M:List Nat) (hs:Sl w p m c M) (hl:L.length+m≤512):Calls Tryz.prog 110 #[.pointer (some ⟨B,0,none⟩),.slice p m c] w (z9u W B 512 (0,L++M)):=by
 refine h.step fun v hv=>?_
 have:=z7x B v 512 (0,L) w hv p m c M hs (by omega) (by omega) (by dsimp only;omega)
 rwa [z7l (by rw [hs.len];exact hl)] at this
theorem wo_bytes {W w:World} {B:Nat} {L:List Nat} (h:WrOk W w B 512 (0,L)) (p:Option Addr) (m c:Nat) (M:List Nat) (hs:Sl w p m c M) (hl:L.length+(m+2)≤512):Calls Tryz.prog 128 #[.pointer (some ⟨B,0,none⟩),.slice p m c] w (z9u W B 512 (0,L++(le M.length 2++M))):=by
 refine h.step fun v hv=>?_
 have:=bytes_wr B v 512 (0,L) p m c M w hv hs (by omega) (by omega) (by dsimp only;omega) (by omega)
 have e:q2a 512 (0,L) M=(0,L++(le M.length 2++M)):=by
  unfold q2a
  have:=hs.len
  rw [if_neg (by omega),z7l (by rw [List.length_append,z0r];omega)]
 rwa [e] at this
theorem sl_three (x y z:Int) (hx:0≤x∧x≤255) (hy:0≤y∧y≤255) (hz:0≤z∧z≤255) (w:World):Sl (w.alloc (.cells #[.int .u8 x,.int .u8 y,.int .u8 z] 5)) (some ⟨w.heap.size,0,none⟩) 3 3 (keyB (x,y,z)) :=
 ⟨rfl,Nat.le_refl _,(fun h=>by cases h),(fun u hu=>by simp [keyB] at hu;omega),fun _=>⟨_,0,rfl,fun j hj=>by
  match j,hj with
  | 0,_=>simp [keyB];omega
  | 1,_=>simp [keyB];omega
  | 2,_=>simp [keyB];omega⟩⟩
theorem z0x {x:Int} (h:0≤x∧x≤4294967295):IntKind.u64.wrap x=x:=by simp [IntKind.wrap,IntKind.bits,IntKind.signed];omega
def z3x (W:World) (r:Int × Pg) (e:Ending) (w':World):Prop:=∃ lp lc tp tc wp wc,e=.returned (.tuple #[.agg #[.int .u8 r.2.kind,.int .u32 r.2.order,.int .u8 r.2.policy,.slice lp r.2.lines.length lc,.slice tp r.2.takes.length tc,.slice wp r.2.owes.length wc,.int .u8 r.2.sku,.int .u8 r.2.frm,.int .u8 r.2.to,.int .i64 r.2.qty],.int .i64 r.1])∧PgM w' lp r.2.lines.length lc r.2.lines tp r.2.takes.length tc r.2.takes wp r.2.owes.length wc r.2.owes∧Below W.heap.size W w'∧(∀ a,lp=some a→W.heap.size≤a.block)∧(∀ a,tp=some a→W.heap.size≤a.block)∧(∀ a,wp=some a→W.heap.size≤a.block)
theorem z2l {fn:Func} (h:fn.results=#[.cell 2 49,.tmp 3]) (tmps:Array Value) (W:World) (R:Nat) (C:Array Value) (v:Value) (hp:tmps.getD 2 undef=.pointer (some ⟨R,0,none⟩)) (hv:tmps.getD 3 undef=v)
 (hB:W.heap[R]?=some (.cells C 49 (0,0))) (hC:C.size=10):(results fn tmps).run Tryz.prog W=.ok (.tuple #[.agg C,v]) W:=by
 rw [results_cell_tmp h,hp,hv]
 simp [asAddr,Result.andThen,run_loadVar_row W R 49 49 C (0,0) _ hB Tryz.underlying49 rfl (by rw [hC];kernel_rfl)]
theorem z0y (k od po:Int) (lp:Option Addr) (ln lcp:Nat) (tp:Option Addr) (tn tcp:Nat) (wp:Option Addr) (wn wcp:Nat) (sk fr to q:Int) {ops:Array Oper} {rest:List Oper} {a:Act} {w:World} {Q:Exit→Act→World→Prop} {dst:Option Tmp} {x y:Operand} {ty:TypeId} {pos:String} {after:Array Edge} {B:Nat} (hB:w.heap[B]?=some (.cells zc 49 (0,0)))
 (hx:a.eval x=.pointer (some ⟨B,0,none⟩)) (hy:a.eval y=.agg #[.int .u8 k,.int .u32 od,.int .u8 po,.slice lp ln lcp,.slice tp tn tcp,.slice wp wn wcp,.int .u8 sk,.int .u8 fr,.int .u8 to,.int .i64 q])
 (h:wpList Tryz.prog ops Q rest (a.put dst undef) (w.setRow B #[.int .u8 k,.int .u32 od,.int .u8 po,.slice lp ln lcp,.slice tp tn tcp,.slice wp wn wcp,.int .u8 sk,.int .u8 fr,.int .u8 to,.int .i64 q])):wpList Tryz.prog ops Q (Oper.mk dst (.store 49 x y) ty pos after none::rest) a w :=
 wpList_store_row rfl 49 x y rfl B #[.int .u8 k,.int .u32 od,.int .u8 po,.slice lp ln lcp,.slice tp tn tcp,.slice wp wn wcp,.int .u8 sk,.int .u8 fr,.int .u8 to,.int .i64 q] hx hy 49 zc hB (by kernel_rfl) rfl (by simp [Value.oneCell']) h
theorem zdecode2 (p:Option Addr) (n c:Nat) (Bs:List Nat) (W:World) (hw:Words W) (hS:Sl W p n c Bs) (hn:n≤600) :
 Calls Tryz.prog 140 #[.slice p n c] W (z3x W (decP Bs)):=by
 obtain⟨R,hR⟩:∃ R,W.heap.size=R:=⟨_,rfl⟩
 obtain⟨W0,hW0,hs0,hr0,hb0⟩:∃ W0,W.alloc (.cells zc 49)=W0∧W0.heap.size=R+1∧W0.heap[R]?=some (.cells zc 49 (0,0))∧Below W.heap.size W W0:=⟨_,rfl,by simp [hR],by rw [← hR];exact z0b W _,(Below.refl _ _).alloc (Nat.le_refl _) _⟩
 have hrd:=q0l p n c Bs W0 (hS.later hb0) (by omega)
 have HRD:=hid hrd
 have HLN:=hid hS.len
 have HBY:Hid (∀ y∈Bs,y<256):=hid hS.lt
 have HW0:=hid hW0
 have HS0:=hid hs0
 have HR0:=hid hr0
 have HB0:=hid hb0
 have HWD:=hid hw
 have HRE:=hid hR
 clear hW0 hs0 hr0 hb0 hrd hS hw hR
 go_enter Tryz.func140,Tryz.ntmps140
 go_upto_region 1 with (fail)
 rw [HW0.out,HRE.out]
 go_wp2_with fail
 refine HRD.out.mono ?_
 rintro e w1 ⟨B,p',c',rfl,hB,hrd,hpb,hb1⟩
 obtain⟨X,hX⟩:∃ X,w1.heap.size=X:=⟨_,rfl⟩
 obtain⟨w3,hw3,hs3,hx3,hy3,hb3⟩:∃ w3,(w1.alloc (.cells #[.pointer (some ⟨B,0,none⟩),.int .i64 0] 245)).alloc (.cells zc 49)=w3∧w3.heap.size=X+2∧w3.heap[X]?=some (.cells #[.pointer (some ⟨B,0,none⟩),.int .i64 0] 245 (0,0))∧w3.heap[X+1]?=some (.cells zc 49 (0,0))∧Below w1.heap.size w1 w3:=⟨_,rfl,by simp [hX],by rw [← hX];exact (Below.heap_alloc _ _ _ (by simp)).trans (z0b w1 _),by have:=z0b (w1.alloc (.cells #[.pointer (some ⟨B,0,none⟩),.int .i64 0] 245)) (.cells zc 49);rwa [World.size_alloc,hX] at this,((Below.refl _ _).alloc (Nat.le_refl _) _).alloc (by simp) _⟩
 have hBl:=hrd.lt
 have hW:=HS0.out
 have hWe:=HRE.out
 have hD:Dz W w3 (X+1) B X (X+1) R 0 (0,Bs) zc:=by
  refine⟨⟨⟨p',c',hrd.chg (Chg.of_below (S:=fun _=>False) hb3) (fun h=>h) (fun _ _ h=>h),fun a ha=>⟨by have:=(hpb a ha).2;omega,by have:=(hpb a ha).2;omega⟩⟩,hx3,by omega,⟨by omega,by omega⟩,by omega,by show Bs.length≤1000;rw [HLN.out];omega,HBY.out⟩,hy3,z0c (z0c HR0.out hb1) hb3,Nat.le_refl _,⟨by omega,by omega,by omega⟩,HB0.out.trans ((hb1.trans (hb3.mono hb1.size)).mono HB0.out.size),⟨by omega,by omega,by omega⟩⟩
 have HD0:=hid hD
 have HW3:=hid hw3
 have HXE:=hid hX
 have x0:=HD0.out.z.c0
 clear hB hrd hpb hb1 hX hw3 hs3 hx3 hy3 hb3 hBl hW hWe hD
 go_upto_region 3 with (fail)
 rw [HW3.out,HXE.out]
 clear HW3 HXE HRD
 obtain⟨R0,hR0⟩:∃ R,numR ((0,Bs):St) 1=R:=⟨_,rfl⟩
 have hn:=z8s HD0.out.z 1
 rw [hR0] at hn
 have hf:R0.2<256:=by rw [← hR0];exact fit1 HD0.out.z.bytes
 have hx0:IntKind.u8.wrap ((R0.2:Nat):Int)=(R0.2:Nat):=by simp [IntKind.wrap,IntKind.bits,IntKind.signed];omega
 have HFT0:=hid hf
 clear hf
 have HR0:=hid hR0
 clear hR0
 go_wp2_with fail
 refine hn.mono ?_
 rintro e y0 ⟨rfl,hz,hc⟩
 have HDb:=hid (HD0.out.low hz hc)
 clear hz hc hn x0
 obtain⟨cy,cf⟩:=HDb.out.cy (j:=0) rfl
 go_upto_region 4 with (fail)
 clear cy cf
 have hd:=HDb.out.put 0 (.int .u8 ((R0.2:Nat):Int))
 simp only [sIB,sCZ,sCS] at hd
 generalize y0.setCell ⟨X+1,0,none⟩ (.int .u8 ((R0.2:Nat):Int))=z0 at *
 have HD1:=hid hd
 have x0:=HD1.out.z.c0
 clear hd HDb HD0 
 obtain⟨R1,hR1⟩:∃ R,numR R0.1 4=R:=⟨_,rfl⟩
 have hn:=z8s HD1.out.z 4
 rw [hR1] at hn
 have hf:R1.2<4294967296:=by rw [← hR1];exact fit4 HD1.out.z.bytes
 have hx1:IntKind.u32.wrap ((R1.2:Nat):Int)=(R1.2:Nat):=by simp [IntKind.wrap,IntKind.bits,IntKind.signed];omega
 have HFT1:=hid hf
 clear hf
 have HR1:=hid hR1
 clear hR1
 go_wp2_with fail
 refine hn.mono ?_
 rintro e y1 ⟨rfl,hz,hc⟩
 have HDb:=hid (HD1.out.low hz hc)
 clear hz hc hn x0
 obtain⟨cy,cf⟩:=HDb.out.cy (j:=1) rfl
 go_upto_region 5 with (fail)
 clear cy cf
 have hd:=HDb.out.put 1 (.int .u32 ((R1.2:Nat):Int))
 simp only [sIB,sCZ,sCS] at hd
 generalize y1.setCell ⟨X+1,1,none⟩ (.int .u32 ((R1.2:Nat):Int))=z1 at *
 have HD2:=hid hd
 have x0:=HD2.out.z.c0
 clear hd HDb HD1 
 obtain⟨R2,hR2⟩:∃ R,numR R1.1 1=R:=⟨_,rfl⟩
 have hn:=z8s HD2.out.z 1
 rw [hR2] at hn
 have hf:R2.2<256:=by rw [← hR2];exact fit1 HD2.out.z.bytes
 have hx2:IntKind.u8.wrap ((R2.2:Nat):Int)=(R2.2:Nat):=by simp [IntKind.wrap,IntKind.bits,IntKind.signed];omega
 have HFT2:=hid hf
 clear hf
 have HR2:=hid hR2
 clear hR2
 go_wp2_with fail
 refine hn.mono ?_
 rintro e y2 ⟨rfl,hz,hc⟩
 have HDb:=hid (HD2.out.low hz hc)
 clear hz hc hn x0
 obtain⟨cy,cf⟩:=HDb.out.cy (j:=2) rfl
 go_upto_region 6 with (fail)
 clear cy cf
 have hd:=HDb.out.put 2 (.int .u8 ((R2.2:Nat):Int))
 simp only [sIB,sCZ,sCS] at hd
 generalize y2.setCell ⟨X+1,2,none⟩ (.int .u8 ((R2.2:Nat):Int))=z2 at *
 have HD3:=hid hd
 have x0:=HD3.out.z.c0
 clear hd HDb HD2 
 obtain⟨R3,hR3⟩:∃ R,z2n z1c 3 R2.1=R:=⟨_,rfl⟩
 have hn:=zlist_ln HD3.out.z 3 (by omega)
 rw [hR3] at hn
 have HOKl:Hid (∀ x∈R3.1.2,Lnok x):=hid (by rw [← hR3];exact z3r (fun S h=>z3h h) (fun S h=>z6s h) 3 HD3.out.z.bytes)
 have HMSl:Hid (R3.1.2.length≤3):=hid (by rw [← hR3];exact z4s z1c 3 _)
 have HR3:=hid hR3
 clear hR3
 obtain⟨nl,hnl⟩:∃ n,R3.1.2.length=n:=⟨_,rfl⟩
 rw [hnl] at hn HMSl
 have HNl:=hid hnl
 clear hnl
 obtain⟨m3,hm3⟩:∃ m,(if R3.2=true then (8:Int) else 0)=m:=⟨_,rfl⟩
 rw [hm3] at hn
 have HM3:=hid hm3
 clear hm3
 go_wp2_with fail
 refine hn.mono ?_
 rintro e y3 ⟨pl,cl,rfl,hl,hfar,hz,hc⟩
 have HFl:Hid (Far (X+1) pl):=hid fun a ha=>by have:=hfar a ha;have:=z0g HD3.out.y;omega
 have HLlb:=hid hl
 clear hl hfar
 have HDb:=hid (HD3.out.low hz hc)
 clear hz hc hn x0
 obtain⟨cy,cf⟩:=HDb.out.cy (j:=3) rfl
 go_upto_region 7 with (fail)
 clear cy cf
 have hd:=HDb.out.put 3 (.slice pl nl cl)
 simp only [sIB,sCZ,sCS] at hd
 have HLlc:=hid (z2d HFl.out HLlb.out 3 (.slice pl nl cl))
 generalize y3.setCell ⟨X+1,3,none⟩ (.slice pl nl cl)=z3 at *
 have HD4:=hid hd
 have HLl:=HLlc
 have x0:=HD4.out.z.c0
 clear hd HDb HD3 HLlb HLlc
 obtain⟨R4,hR4⟩:∃ R,z2n tkR 12 R3.1.1=R:=⟨_,rfl⟩
 have hn:=zlist_tk HD4.out.z 12 (by omega)
 rw [hR4] at hn
 have HOKt:Hid (∀ x∈R4.1.2,Tkok x):=hid (by rw [← hR4];exact z3r (fun S h=>z9y h) (fun S h=>q2l h) 12 HD4.out.z.bytes)
 have HMSt:Hid (R4.1.2.length≤12):=hid (by rw [← hR4];exact z4s tkR 12 _)
 have HR4:=hid hR4
 clear hR4
 obtain⟨nt,hnt⟩:∃ n,R4.1.2.length=n:=⟨_,rfl⟩
 rw [hnt] at hn HMSt
 have HNt:=hid hnt
 clear hnt
 obtain⟨m4,hm4⟩:∃ m,(if R4.2=true then (8:Int) else m3)=m:=⟨_,rfl⟩
 rw [hm4] at hn
 have HM4:=hid hm4
 clear hm4
 go_wp2_with fail
 refine hn.mono ?_
 rintro e y4 ⟨pt,ct,rfl,hl,hfar,hz,hc⟩
 have HFt:Hid (Far (X+1) pt):=hid fun a ha=>by have:=hfar a ha;have:=z0g HD4.out.y;omega
 have HLlb:=hid (z3j HD4.out HFl.out HLl.out hc)
 have HLtb:=hid hl
 clear hl hfar
 have HDb:=hid (HD4.out.low hz hc)
 clear hz hc hn x0
 obtain⟨cy,cf⟩:=HDb.out.cy (j:=4) rfl
 go_upto_region 8 with (fail)
 clear cy cf
 have hd:=HDb.out.put 4 (.slice pt nt ct)
 simp only [sIB,sCZ,sCS] at hd
 have HLlc:=hid (z2d HFl.out HLlb.out 4 (.slice pt nt ct))
 have HLtc:=hid (z2d HFt.out HLtb.out 4 (.slice pt nt ct))
 generalize y4.setCell ⟨X+1,4,none⟩ (.slice pt nt ct)=z4 at *
 have HD5:=hid hd
 clear HLl
 have HLl:=HLlc
 have HLt:=HLtc
 have x0:=HD5.out.z.c0
 clear hd HDb HD4 HLlb HLlc HLtb HLtc
 obtain⟨R5,hR5⟩:∃ R,z2n z1c 3 R4.1.1=R:=⟨_,rfl⟩
 have hn:=zlist_ln HD5.out.z 3 (by omega)
 rw [hR5] at hn
 have HOKo:Hid (∀ x∈R5.1.2,Lnok x):=hid (by rw [← hR5];exact z3r (fun S h=>z3h h) (fun S h=>z6s h) 3 HD5.out.z.bytes)
 have HMSo:Hid (R5.1.2.length≤3):=hid (by rw [← hR5];exact z4s z1c 3 _)
 have HR5:=hid hR5
 clear hR5
 obtain⟨no,hno⟩:∃ n,R5.1.2.length=n:=⟨_,rfl⟩
 rw [hno] at hn HMSo
 have HNo:=hid hno
 clear hno
 obtain⟨m5,hm5⟩:∃ m,(if R5.2=true then (8:Int) else m4)=m:=⟨_,rfl⟩
 rw [hm5] at hn
 have HM5:=hid hm5
 clear hm5
 go_wp2_with fail
 refine hn.mono ?_
 rintro e y5 ⟨po,co,rfl,hl,hfar,hz,hc⟩
 have HFo:Hid (Far (X+1) po):=hid fun a ha=>by have:=hfar a ha;have:=z0g HD5.out.y;omega
 have HLlb:=hid (z3j HD5.out HFl.out HLl.out hc)
 have HLtb:=hid (z3j HD5.out HFt.out HLt.out hc)
 have HLob:=hid hl
 clear hl hfar
 have HDb:=hid (HD5.out.low hz hc)
 clear hz hc hn x0
 obtain⟨cy,cf⟩:=HDb.out.cy (j:=5) rfl
 go_upto_region 9 with (fail)
 clear cy cf
 have hd:=HDb.out.put 5 (.slice po no co)
 simp only [sIB,sCZ,sCS] at hd
 have HLlc:=hid (z2d HFl.out HLlb.out 5 (.slice po no co))
 have HLtc:=hid (z2d HFt.out HLtb.out 5 (.slice po no co))
 have HLoc:=hid (z2d HFo.out HLob.out 5 (.slice po no co))
 generalize y5.setCell ⟨X+1,5,none⟩ (.slice po no co)=z5 at *
 have HD6:=hid hd
 clear HLl HLt
 have HLl:=HLlc
 have HLt:=HLtc
 have HLo:=HLoc
 have x0:=HD6.out.z.c0
 clear hd HDb HD5 HLlb HLlc HLtb HLtc HLob HLoc
 obtain⟨R6,hR6⟩:∃ R,numR R5.1.1 1=R:=⟨_,rfl⟩
 have hn:=z8s HD6.out.z 1
 rw [hR6] at hn
 have hf:R6.2<256:=by rw [← hR6];exact fit1 HD6.out.z.bytes
 have hx6:IntKind.u8.wrap ((R6.2:Nat):Int)=(R6.2:Nat):=by simp [IntKind.wrap,IntKind.bits,IntKind.signed];omega
 have HFT6:=hid hf
 clear hf
 have HR6:=hid hR6
 clear hR6
 go_wp2_with fail
 refine hn.mono ?_
 rintro e y6 ⟨rfl,hz,hc⟩
 have HLlb:=hid (z3j HD6.out HFl.out HLl.out hc)
 have HLtb:=hid (z3j HD6.out HFt.out HLt.out hc)
 have HLob:=hid (z3j HD6.out HFo.out HLo.out hc)
 have HDb:=hid (HD6.out.low hz hc)
 clear hz hc hn x0
 obtain⟨cy,cf⟩:=HDb.out.cy (j:=6) rfl
 go_upto_region 10 with (fail)
 clear cy cf
 have hd:=HDb.out.put 6 (.int .u8 ((R6.2:Nat):Int))
 simp only [sIB,sCZ,sCS] at hd
 have HLlc:=hid (z2d HFl.out HLlb.out 6 (.int .u8 ((R6.2:Nat):Int)))
 have HLtc:=hid (z2d HFt.out HLtb.out 6 (.int .u8 ((R6.2:Nat):Int)))
 have HLoc:=hid (z2d HFo.out HLob.out 6 (.int .u8 ((R6.2:Nat):Int)))
 generalize y6.setCell ⟨X+1,6,none⟩ (.int .u8 ((R6.2:Nat):Int))=z6 at *
 have HD7:=hid hd
 clear HLl HLt HLo
 have HLl:=HLlc
 have HLt:=HLtc
 have HLo:=HLoc
 have x0:=HD7.out.z.c0
 clear hd HDb HD6 HLlb HLlc HLtb HLtc HLob HLoc
 obtain⟨R7,hR7⟩:∃ R,numR R6.1 1=R:=⟨_,rfl⟩
 have hn:=z8s HD7.out.z 1
 rw [hR7] at hn
 have hf:R7.2<256:=by rw [← hR7];exact fit1 HD7.out.z.bytes
 have hx7:IntKind.u8.wrap ((R7.2:Nat):Int)=(R7.2:Nat):=by simp [IntKind.wrap,IntKind.bits,IntKind.signed];omega
 have HFT7:=hid hf
 clear hf
 have HR7:=hid hR7
 clear hR7
 go_wp2_with fail
 refine hn.mono ?_
 rintro e y7 ⟨rfl,hz,hc⟩
 have HLlb:=hid (z3j HD7.out HFl.out HLl.out hc)
 have HLtb:=hid (z3j HD7.out HFt.out HLt.out hc)
 have HLob:=hid (z3j HD7.out HFo.out HLo.out hc)
 have HDb:=hid (HD7.out.low hz hc)
 clear hz hc hn x0
 obtain⟨cy,cf⟩:=HDb.out.cy (j:=7) rfl
 go_upto_region 11 with (fail)
 clear cy cf
 have hd:=HDb.out.put 7 (.int .u8 ((R7.2:Nat):Int))
 simp only [sIB,sCZ,sCS] at hd
 have HLlc:=hid (z2d HFl.out HLlb.out 7 (.int .u8 ((R7.2:Nat):Int)))
 have HLtc:=hid (z2d HFt.out HLtb.out 7 (.int .u8 ((R7.2:Nat):Int)))
 have HLoc:=hid (z2d HFo.out HLob.out 7 (.int .u8 ((R7.2:Nat):Int)))
 generalize y7.setCell ⟨X+1,7,none⟩ (.int .u8 ((R7.2:Nat):Int))=z7 at *
 have HD8:=hid hd
 clear HLl HLt HLo
 have HLl:=HLlc
 have HLt:=HLtc
 have HLo:=HLoc
 have x0:=HD8.out.z.c0
 clear hd HDb HD7 HLlb HLlc HLtb HLtc HLob HLoc
 obtain⟨R8,hR8⟩:∃ R,numR R7.1 1=R:=⟨_,rfl⟩
 have hn:=z8s HD8.out.z 1
 rw [hR8] at hn
 have hf:R8.2<256:=by rw [← hR8];exact fit1 HD8.out.z.bytes
 have hx8:IntKind.u8.wrap ((R8.2:Nat):Int)=(R8.2:Nat):=by simp [IntKind.wrap,IntKind.bits,IntKind.signed];omega
 have HFT8:=hid hf
 clear hf
 have HR8:=hid hR8
 clear hR8
 go_wp2_with fail
 refine hn.mono ?_
 rintro e y8 ⟨rfl,hz,hc⟩
 have HLlb:=hid (z3j HD8.out HFl.out HLl.out hc)
 have HLtb:=hid (z3j HD8.out HFt.out HLt.out hc)
 have HLob:=hid (z3j HD8.out HFo.out HLo.out hc)
 have HDb:=hid (HD8.out.low hz hc)
 clear hz hc hn x0
 obtain⟨cy,cf⟩:=HDb.out.cy (j:=8) rfl
 go_upto_region 12 with (fail)
 clear cy cf
 have hd:=HDb.out.put 8 (.int .u8 ((R8.2:Nat):Int))
 simp only [sIB,sCZ,sCS] at hd
 have HLlc:=hid (z2d HFl.out HLlb.out 8 (.int .u8 ((R8.2:Nat):Int)))
 have HLtc:=hid (z2d HFt.out HLtb.out 8 (.int .u8 ((R8.2:Nat):Int)))
 have HLoc:=hid (z2d HFo.out HLob.out 8 (.int .u8 ((R8.2:Nat):Int)))
 generalize y8.setCell ⟨X+1,8,none⟩ (.int .u8 ((R8.2:Nat):Int))=z8 at *
 have HD9:=hid hd
 clear HLl HLt HLo
 have HLl:=HLlc
 have HLt:=HLtc
 have HLo:=HLoc
 have x0:=HD9.out.z.c0
 clear hd HDb HD8 HLlb HLlc HLtb HLtc HLob HLoc
 obtain⟨R9,hR9⟩:∃ R,numR R8.1 8=R:=⟨_,rfl⟩
 have hn:=q3b HD9.out.z
 rw [hR9] at hn
 have HFT9:Hid (R9.2<18446744073709551616):=hid (by rw [← hR9];exact fit8 HD9.out.z.bytes)
 have HR9:=hid hR9
 clear hR9
 go_wp2_with fail
 refine hn.mono ?_
 rintro e y9 ⟨rfl,hz,hc⟩
 have HLlb:=hid (z3j HD9.out HFl.out HLl.out hc)
 have HLtb:=hid (z3j HD9.out HFt.out HLt.out hc)
 have HLob:=hid (z3j HD9.out HFo.out HLo.out hc)
 have HDb:=hid (HD9.out.low hz hc)
 clear hz hc hn x0
 obtain⟨cy,cf⟩:=HDb.out.cy (j:=9) rfl
 go_upto_region 13 with (fail)
 clear cy cf
 have hd:=HDb.out.put 9 (.int .i64 (sgn R9.2))
 simp only [sIB,sCZ,sCS] at hd
 have HLlc:=hid (z2d HFl.out HLlb.out 9 (.int .i64 (sgn R9.2)))
 have HLtc:=hid (z2d HFt.out HLtb.out 9 (.int .i64 (sgn R9.2)))
 have HLoc:=hid (z2d HFo.out HLob.out 9 (.int .i64 (sgn R9.2)))
 generalize y9.setCell ⟨X+1,9,none⟩ (.int .i64 (sgn R9.2))=z9 at *
 have HD10:=hid hd
 clear HLl HLt HLo
 have HLl:=HLlc
 have HLt:=HLtc
 have HLo:=HLoc
 have x0:=HD10.out.z.c0
 clear hd HDb HD9 HLlb HLlc HLtb HLtc HLob HLoc
 have HDEC:Hid (decR Bs=⟨R9.1,⟨((R0.2:Nat):Int),((R1.2:Nat):Int),((R2.2:Nat):Int),R3.1.2,R4.1.2,R5.1.2,((R6.2:Nat):Int),((R7.2:Nat):Int),((R8.2:Nat):Int),sgn R9.2⟩,R3.2 || R4.2 || R5.2⟩):=hid (by
  unfold decR
  dsimp only
  rw [HR0.out,HR1.out,HR2.out,HR3.out,HR4.out,HR5.out,HR6.out,HR7.out,HR8.out,HR9.out])
 obtain⟨er,her⟩:∃ er,(if m5≠0 then m5 else endR R9.1)=er:=⟨_,rfl⟩
 have HER:=hid her
 have HE:Hid (decE Bs=er):=hid (by
  unfold decE
  rw [HDEC.out,← her,← HM5.out,← HM4.out,← HM3.out]
  dsimp only
  cases R3.2 <;> cases R4.2 <;> cases R5.2 <;> simp)
 have HPO:Hid (Pgok ⟨((R0.2:Nat):Int),((R1.2:Nat):Int),((R2.2:Nat):Int),R3.1.2,R4.1.2,R5.1.2,((R6.2:Nat):Int),((R7.2:Nat):Int),((R8.2:Nat):Int),sgn R9.2⟩):=hid ⟨⟨by show (0:Int)≤(R0.2:Nat);omega,by have:=HFT0.out;show ((R0.2:Nat):Int)≤255;omega⟩,⟨by show (0:Int)≤(R1.2:Nat);omega,by have:=HFT1.out;show ((R1.2:Nat):Int)≤4294967295;omega⟩,⟨by show (0:Int)≤(R2.2:Nat);omega,by have:=HFT2.out;show ((R2.2:Nat):Int)≤255;omega⟩,HOKl.out,HOKt.out,HOKo.out,⟨by show (0:Int)≤(R6.2:Nat);omega,by have:=HFT6.out;show ((R6.2:Nat):Int)≤255;omega⟩,⟨by show (0:Int)≤(R7.2:Nat);omega,by have:=HFT7.out;show ((R7.2:Nat):Int)≤255;omega⟩,⟨by show (0:Int)≤(R8.2:Nat);omega,by have:=HFT8.out;show ((R8.2:Nat):Int)≤255;omega⟩,z9g HFT9.out⟩
 have HPM:Hid (PgM z9 pl nl cl R3.1.2 pt nt ct R4.1.2 po no co R5.1.2):=hid ⟨HLl.out,HLt.out,HLo.out⟩
 clear her x0 HLl HLt HLo
 have HBX:Hid (z9.drew.heap[X]?=some (.cells #[.pointer (some ⟨B,0,none⟩),.int .i64 m5] 245 (0,0))):=hid HD10.out.z.box
 have HDd:=hid (HD10.out.keep (show Below z9.heap.size z9 z9.drew from (Below.refl _ _).drew))
 have HPd:=hid (HPM.out.later (show Below z9.heap.size z9 z9.drew from (Below.refl _ _).drew))
 refine wp_region_held_drew (S:=fun w'=>Hid (w'.heap[X]?=some (.cells #[.pointer (some ⟨B,0,none⟩),.int .i64 m5] 245 (0,0)))) (by kernel_rfl) HBX (fun hHeld=>?_)
 refine wpAnyH_take (i:=0) (oi:=⟨some 74,_,_,_,_,_⟩) (v:=(.pointer (some ⟨X,0,none⟩))) rfl (by kernel_rfl) (by kernel_rfl) (by kernel_rfl) (fun _ _ _ h=>h) (Or.inl ⟨by rfl,fun w' hw'=>?_⟩) (by assumption) ?_
 · clear hHeld
   go_simp
 simp only [Act.put,sIB,sCZ,sCS]
 refine wpAnyH_take (i:=1) (oi:=⟨some 75,_,_,_,_,_⟩) (v:=(.pointer (some ⟨X,0,none⟩))) rfl (by kernel_rfl) (by kernel_rfl) (by kernel_rfl) (fun _ _ _ h=>h) (Or.inl ⟨by rfl,fun w' hw'=>?_⟩) (by assumption) ?_
 · clear hHeld
   go_simp
 simp only [Act.put,sIB,sCZ,sCS]
 refine wpAnyH_take (i:=2) (oi:=⟨some 76,_,_,_,_,_⟩) (v:=(.pointer (some ⟨X,1,none⟩))) rfl (by kernel_rfl) (by kernel_rfl) (by kernel_rfl) (fun _ _ _ h=>h) (Or.inl ⟨by rfl,fun w' hw'=>?_⟩) (by assumption) ?_
 · clear hHeld
   go_simp
 simp only [Act.put,sIB,sCZ,sCS]
 refine wpAnyH_take (i:=3) (oi:=⟨some 77,_,_,_,_,_⟩) (v:=(.int .i64 m5)) rfl (by kernel_rfl) (by kernel_rfl) (by kernel_rfl) (fun _ _ _ h=>h) (Or.inl ⟨by rfl,fun w' hw'=>?_⟩) (by assumption) ?_
 · have g0:=z0a (j:=0) (v:=.pointer (some ⟨B,0,none⟩)) hw'.out rfl
   have g1:=z0a (j:=1) (v:=.int .i64 m5) hw'.out rfl
   clear hHeld
   go_simp
 simp only [Act.put,sIB,sCZ,sCS]
 refine wpAnyH_take (i:=4) (oi:=⟨some 78,_,_,_,_,_⟩) (v:=(.pointer (some ⟨X,0,none⟩))) rfl (by kernel_rfl) (by kernel_rfl) (by kernel_rfl) (fun _ _ _ h=>h) (Or.inl ⟨by rfl,fun w' hw'=>?_⟩) (by assumption) ?_
 · clear hHeld
   go_simp
 simp only [Act.put,sIB,sCZ,sCS]
 refine wpAnyH_take (i:=5) (oi:=⟨some 79,_,_,_,_,_⟩) (v:=(.pointer (some ⟨X,0,none⟩))) rfl (by kernel_rfl) (by kernel_rfl) (by kernel_rfl) (fun _ _ _ h=>h) (Or.inl ⟨by rfl,fun w' hw'=>?_⟩) (by assumption) ?_
 · clear hHeld
   go_simp
 simp only [Act.put,sIB,sCZ,sCS]
 refine wpAnyH_take (i:=6) (oi:=⟨some 80,_,_,_,_,_⟩) (v:=(.pointer (some ⟨X,0,none⟩))) rfl (by kernel_rfl) (by kernel_rfl) (by kernel_rfl) (fun _ _ _ h=>h) (Or.inl ⟨by rfl,fun w' hw'=>?_⟩) (by assumption) ?_
 · clear hHeld
   go_simp
 simp only [Act.put,sIB,sCZ,sCS]
 refine wpAnyH_take (i:=7) (oi:=⟨some 81,_,_,_,_,_⟩) (v:=(.pointer (some ⟨B,0,none⟩))) rfl (by kernel_rfl) (by kernel_rfl) (by kernel_rfl) (fun _ _ _ h=>h) (Or.inl ⟨by rfl,fun w' hw'=>?_⟩) (by assumption) ?_
 · have g0:=z0a (j:=0) (v:=.pointer (some ⟨B,0,none⟩)) hw'.out rfl
   have g1:=z0a (j:=1) (v:=.int .i64 m5) hw'.out rfl
   clear hHeld
   go_simp
 simp only [Act.put,sIB,sCZ,sCS]
 generalize z9.drew=Wd at *
 refine wpAnyH_ready (rs:=[8]) (by kernel_rfl) (by simp) (AllReadyH.cons rfl (fun K hK=>?_) AllReadyH.nil)
 go_simp
 go_wp2_with fail
 refine (z_end HDd.out.z).mono ?_
 rintro e x5 ⟨rfl,rfl⟩
 go_wp2_with fail
 refine hK.out _ _ HBX (fun hHeld2=>?_)
 clear hK K hHeld
 have hHeld:=hHeld2
 clear hHeld2
 try simp only [Act.put,sIB,sCZ,sCS]
 obtain⟨w6,hw6,hbx6,hb6⟩:∃ w6,(Wd.alloc (.cells #[.int .i64 m5,.int .i64 (endR R9.1)] 56))=w6∧w6.heap[Wd.heap.size]?=some (.cells #[.int .i64 m5,.int .i64 (endR R9.1)] 56 (0,0))∧Below Wd.heap.size Wd w6:=⟨_,rfl,z0b Wd _,(Below.refl _ _).alloc (Nat.le_refl _) _⟩
 have HD6:=hid (HDd.out.keep hb6)
 have HP6:=hid (HPd.out.later hb6)
 have HB6:Hid (w6.heap[X]?=some (.cells #[.pointer (some ⟨B,0,none⟩),.int .i64 m5] 245 (0,0))):=hid HD6.out.z.box
 have HX6:=hid hbx6
 have HW6:=hid hw6
 clear hw6 hbx6 hb6
 refine wpAnyH_ready (rs:=[9]) (by kernel_rfl) (by simp) (AllReadyH.cons rfl (fun K hK=>?_) AllReadyH.nil)
 go_simp
 rw [HW6.out]
 refine hK.out _ _ HB6 (fun hHeld2=>?_)
 clear hK K hHeld
 have hHeld:=hHeld2
 clear hHeld2
 try simp only [Act.put,sIB,sCZ,sCS]
 refine wpAnyH_ready (rs:=[10]) (by kernel_rfl) (by simp) (AllReadyH.cons rfl (fun K hK=>?_) AllReadyH.nil)
 go_simp
 go_wp2_with fail
 have hor:=or_errno Wd.heap.size m5 (endR R9.1) w6 (z0a HX6.out rfl) (z0a HX6.out rfl)
 rw [HER.out] at hor
 refine hor.mono ?_
 rintro e x7 ⟨rfl,hb7⟩
 have HD7:=hid (HD6.out.keep hb7)
 have HP7:=hid (HP6.out.later hb7)
 have HB7:Hid (x7.heap[X]?=some (.cells #[.pointer (some ⟨B,0,none⟩),.int .i64 m5] 245 (0,0))):=hid HD7.out.z.box
 clear hb7 hor
 go_wp2_with fail
 refine hK.out _ _ HB7 (fun hHeld2=>?_)
 clear hK K hHeld
 have hHeld:=hHeld2
 clear hHeld2
 try simp only [Act.put,sIB,sCZ,sCS]
 refine wpAnyH_take (i:=11) (oi:=⟨some 6,_,_,_,_,_⟩) (v:=(.int .i64 er)) rfl (by kernel_rfl) (by kernel_rfl) (by kernel_rfl) (fun _ _ _ h=>h) (Or.inl ⟨by rfl,fun w' hw'=>?_⟩) (by assumption) ?_
 · clear hHeld
   go_simp
 simp only [Act.put,sIB,sCZ,sCS]
 refine wpAnyH_done (by kernel_rfl) ?_ _
 clear hHeld
 by_cases h0:er=0
 case neg =>
  have d0:(er != 0)=true:=by simpa using h0
  have HRF:=hid (setRow_heap x7 R _ zc _ _ HD7.out.r)
  have HG:Hid (z3x W (decP Bs) (.returned (.tuple #[.agg zc,.int .i64 er])) (x7.setRow R zc)):=hid (by
   have hp:decP Bs=(er,noP):=by
    unfold decP
    rw [HE.out,if_pos h0]
   rw [hp]
   exact⟨none,0,none,0,none,0,rfl,⟨SlG.empty _,SlG.empty _,SlG.empty _⟩,below_setRow HD7.out.below HD7.out.base.2.2 zc,(fun a h=>by cases h),(fun a h=>by cases h),(fun a h=>by cases h)⟩)
  go_wp2_with ((with_reducible refine z0y 0 0 0 none 0 0 none 0 0 none 0 0 0 0 0 0 HD7.out.r ?_ ?_ ?_);rfl;rfl)
  (try simp only [Exit.inBlock,Exit.then])
  refine bodyPost_ret (v:=.tuple #[.agg zc,.int .i64 er]) ?_ rfl HG.out
  exact z2l rfl _ _ R zc _ rfl rfl HRF.out rfl
 have d0:(er != 0)=false:=by simp [h0]
 have HE0:Hid (decE Bs=0):=hid (by rw [HE.out,h0])
 clear h0
 have hgd:=q1z 4 4 ((R0.2:Nat):Int) ((R1.2:Nat):Int) ((R2.2:Nat):Int) pl nl cl pt nt ct po no co ((R6.2:Nat):Int) ((R7.2:Nat):Int) ((R8.2:Nat):Int) (sgn R9.2) R3.1.2 R4.1.2 R5.1.2 x7 (HWD.out.later HD7.out.below) HP7.out HPO.out ⟨by have:=HMSl.out;omega,by have:=HMSt.out;omega,by have:=HMSo.out;omega⟩
 obtain⟨a0,a1,a2,a3,a4,a5,a6,a7,a8,a9⟩:=z0j _ _ _ _ _ _ _ _ _ _ _ _ _ _ _ _ HD7.out.y
 go_wp2_with fail
 refine hgd.mono ?_
 rintro e x8 ⟨rfl,hb8⟩
 have HD8:=hid (HD7.out.keep hb8)
 have HP8:=hid (HP7.out.later hb8)
 clear hb8 hgd a0 a1 a2 a3 a4 a5 a6 a7 a8 a9
 cases hg:z0w 4 4 (⟨((R0.2:Nat):Int),((R1.2:Nat):Int),((R2.2:Nat):Int),R3.1.2,R4.1.2,R5.1.2,((R6.2:Nat):Int),((R7.2:Nat):Int),((R8.2:Nat):Int),sgn R9.2⟩:Pg)
 case false =>
  have HRF:=hid (setRow_heap x8 R _ zc _ _ HD8.out.r)
  have HG:Hid (z3x W (decP Bs) (.returned (.tuple #[.agg zc,.int .i64 8])) (x8.setRow R zc)):=hid (by
   have hp:decP Bs=(8,noP):=by
    unfold decP
    rw [HE0.out,if_neg (fun h=>h rfl),HDEC.out,if_neg (by rw [hg];decide)]
   rw [hp]
   exact⟨none,0,none,0,none,0,rfl,⟨SlG.empty _,SlG.empty _,SlG.empty _⟩,below_setRow HD8.out.below HD8.out.base.2.2 zc,(fun a h=>by cases h),(fun a h=>by cases h),(fun a h=>by cases h)⟩)
  go_wp2_with ((with_reducible refine z0y 0 0 0 none 0 0 none 0 0 none 0 0 0 0 0 0 HD8.out.r ?_ ?_ ?_);rfl;rfl)
  (try simp only [Exit.inBlock,Exit.then])
  refine bodyPost_ret (v:=.tuple #[.agg zc,.int .i64 8]) ?_ rfl HG.out
  exact z2l rfl _ _ R zc _ rfl rfl HRF.out rfl
 obtain⟨a0,a1,a2,a3,a4,a5,a6,a7,a8,a9⟩:=z0j _ _ _ _ _ _ _ _ _ _ _ _ _ _ _ _ HD8.out.y
 obtain⟨C,hC⟩:∃ C:Array Value,#[.int .u8 ((R0.2:Nat):Int),.int .u32 ((R1.2:Nat):Int),.int .u8 ((R2.2:Nat):Int),.slice pl nl cl,.slice pt nt ct,.slice po no co,.int .u8 ((R6.2:Nat):Int),.int .u8 ((R7.2:Nat):Int),.int .u8 ((R8.2:Nat):Int),.int .i64 (sgn R9.2)]=C:=⟨_,rfl⟩
 have HRF:=hid (setRow_heap x8 R _ C _ _ HD8.out.r)
 have HCS:Hid (C.size=10):=hid (by rw [← hC];rfl)
 have HG:Hid (z3x W (decP Bs) (.returned (.tuple #[.agg C,.int .i64 0])) (x8.setRow R C)):=hid (by
  have hp:decP Bs=(0,⟨((R0.2:Nat):Int),((R1.2:Nat):Int),((R2.2:Nat):Int),R3.1.2,R4.1.2,R5.1.2,((R6.2:Nat):Int),((R7.2:Nat):Int),((R8.2:Nat):Int),sgn R9.2⟩):=by
   unfold decP
   rw [HE0.out,if_neg (fun h=>h rfl),HDEC.out,if_pos hg]
  rw [hp]
  have hfar:∀ q:Option Addr,Far (X+1) q→∀ a,q=some a→a.block≠R:=fun q h a ha=>by have:=h a ha;have:=HD8.out.rn.2.2;omega
  refine⟨pl,cl,pt,ct,po,co,by rw [HNl.out,HNt.out,HNo.out,← hC],?_,below_setRow HD8.out.below HD8.out.base.2.2 C,(fun a h=>by have:=HFl.out a h;have:=HD8.out.base.2.1;omega),(fun a h=>by have:=HFt.out a h;have:=HD8.out.base.2.1;omega),(fun a h=>by have:=HFo.out a h;have:=HD8.out.base.2.1;omega)⟩
  rw [HNl.out,HNt.out,HNo.out]
  exact⟨HP8.out.l.turn (by simp [World.setRow]) fun _ a ha _=>setRow_other _ _ _ _ (hfar _ HFl.out a ha),HP8.out.t.turn (by simp [World.setRow]) fun _ a ha _=>setRow_other _ _ _ _ (hfar _ HFt.out a ha),HP8.out.o.turn (by simp [World.setRow]) fun _ a ha _=>setRow_other _ _ _ _ (hfar _ HFo.out a ha)⟩)
 subst hC
 clear hg
 go_wp2_with ((with_reducible refine z0y ((R0.2:Nat):Int) ((R1.2:Nat):Int) ((R2.2:Nat):Int) pl nl cl pt nt ct po no co ((R6.2:Nat):Int) ((R7.2:Nat):Int) ((R8.2:Nat):Int) (sgn R9.2) HD8.out.r ?_ ?_ ?_);rfl;rfl)
 (try simp only [Exit.inBlock,Exit.then])
 refine bodyPost_ret (v:=.tuple #[.agg #[.int .u8 ((R0.2:Nat):Int),.int .u32 ((R1.2:Nat):Int),.int .u8 ((R2.2:Nat):Int),.slice pl nl cl,.slice pt nt ct,.slice po no co,.int .u8 ((R6.2:Nat):Int),.int .u8 ((R7.2:Nat):Int),.int .u8 ((R8.2:Nat):Int),.int .i64 (sgn R9.2)],.int .i64 0]) ?_ rfl HG.out
 exact z2l rfl _ _ R _ _ rfl rfl HRF.out rfl
structure Zw (w:World) (N B:Nat) (S:St):Prop where
 rd:∃ p c,Rd w B p c S∧∀ a,p=some a→a.block<N
 low:B<N
 size:N≤w.heap.size
 small:S.2.length≤1000
 bytes:∀ y∈S.2,y<256
theorem Zw.later {w w':World} {N B:Nat} {S:St} (h:Zw w N B S) (hc:Chg (fun k=>N≤k) w w'):Zw w' N B S:=by
 obtain⟨p,c,hr,hp⟩:=h.rd
 have hs:=h.size
 exact⟨⟨p,c,hr.chg hc (by have:=h.low;omega) (fun a ha=>by have:=hp a ha;omega),hp⟩,h.low,Nat.le_trans hs hc.size,h.small,h.bytes⟩
theorem Zw.below {w w':World} {N B:Nat} {S:St} (h:Zw w N B S) (hb:Below w.heap.size w w'):Zw w' N B S:=h.later (Chg.of_below hb)
theorem Zw.went {w w':World} {N B:Nat} {S T:St} {p:Option Addr} {c:Nat} (h:Zw w N B S) (hp:∀ a,p=some a→a.block<N) (hw:Went w B p T w') (hl:T.2.length≤S.2.length) (hb:∀ y∈T.2,y<256):Zw w' N B T∧Chg (fun k=>k=B) w w':=by
 obtain⟨p',c',h1,h2⟩:=hw.rd
 refine⟨⟨⟨p',c',h1,fun a ha=>?_⟩,h.low,Nat.le_trans h.size hw.chg.size,Nat.le_trans hl h.small,hb⟩,hw.chg⟩
 obtain⟨a',e1,e2⟩:=h2 a ha
 rw [e2]
 exact hp a' e1
theorem z2k {w:World} {N B:Nat} {S:St} (h:Zw w N B S) (size:Int):Calls Tryz.prog 134 #[.pointer (some ⟨B,0,none⟩),.int .i64 size] w fun e w'=>e=.returned (.int .u64 (((numR S size).2:Nat):Int))∧Zw w' N B (numR S size).1∧Chg (fun k=>k=B) w w':=by
 obtain⟨p,c,hr,hp⟩:=h.rd
 refine (z7z B c p S size w hr (by have:=h.small;omega)).mono ?_
 rintro e w' ⟨rfl,hw⟩
 obtain⟨h1,h2⟩:=h.went (c:=c) hp hw (z4z S size) (z0k h.bytes size)
 exact⟨rfl,h1,h2⟩
theorem zw_int {w:World} {N B:Nat} {S:St} (h:Zw w N B S):Calls Tryz.prog 138 #[.pointer (some ⟨B,0,none⟩)] w fun e w'=>e=.returned (.int .i64 (sgn (numR S 8).2))∧Zw w' N B (numR S 8).1∧Chg (fun k=>k=B) w w':=by
 obtain⟨p,c,hr,hp⟩:=h.rd
 refine (int_any B c p S w hr (by have:=h.small;omega)).mono ?_
 rintro e w' ⟨rfl,hw⟩
 obtain⟨h1,h2⟩:=h.went (c:=c) hp hw (z4z S 8) (z0k h.bytes 8)
 exact⟨rfl,h1,h2⟩
theorem q3a (e:Int) (S:St):(bad e S).2=S.2:=by unfold bad;split <;> rfl
theorem boolR_2 (S:St):(z2v S).1.2=(numR S 1).1.2:=by unfold z2v;split;exact q3a _ _;rfl
theorem zw_bool {w:World} {N B:Nat} {S:St} (h:Zw w N B S):Calls Tryz.prog 137 #[.pointer (some ⟨B,0,none⟩)] w fun e w'=>e=.returned (.bool (z2v S).2)∧Zw w' N B (z2v S).1∧Chg (fun k=>k=B) w w':=by
 obtain⟨p,c,hr,hp⟩:=h.rd
 refine (bool_any B c p S w hr (by have:=h.small;omega)).mono ?_
 rintro e w' ⟨rfl,hw⟩
 obtain⟨h1,h2⟩:=h.went (c:=c) hp hw (by rw [boolR_2];exact z4z S 1) (by rw [boolR_2];exact z0k h.bytes 1)
 exact⟨rfl,h1,h2⟩
theorem takeR_less (S:St) (n:Nat):(z1i S n).1.2.length≤S.2.length:=by
 unfold z1i
 split
 · split
   · exact Nat.le_refl _
   · show (S.2.drop n).length≤_
     rw [List.length_drop];omega
 · exact Nat.le_refl _
theorem takeR_bytes {S:St} (h:∀ y∈S.2,y<256) (n:Nat):∀ y∈(z1i S n).1.2,y<256:=by
 unfold z1i
 split
 · split
   · exact h
   · intro y hy
     exact h y (List.mem_of_mem_drop hy)
 · exact h
theorem bytesR_less (S:St) (most:Int):(z1d S most).1.2.length≤S.2.length:=by
 unfold z1d
 refine Nat.le_trans (takeR_less _ _) ?_
 split
 · rw [q3a];exact z4z S 2
 · exact z4z S 2
theorem bytesR_bytes {S:St} (h:∀ y∈S.2,y<256) (most:Int):∀ y∈(z1d S most).1.2,y<256:=by
 unfold z1d
 refine takeR_bytes ?_ _
 split
 · rw [q3a];exact z0k h 2
 · exact z0k h 2
theorem bytesR_most (S:St):(z1d S 512).2.length≤512:=by
 unfold z1d
 by_cases h:(512:Int)<((numR S 2).2:Int)
 · rw [if_pos h]
   unfold z1i
   rw [if_neg]
   · exact Nat.zero_le _
   · unfold bad
     split
     · show ¬ (7:Int)=0
       decide
     · assumption
 · rw [if_neg h]
   have:=z4w (numR S 2).1 (numR S 2).2
   omega
theorem z9t {S:St} (h:∀ y∈S.2,y<256) (most:Int):∀ y∈(z1d S most).2,y<256:=by
 unfold z1d
 refine z7i _ _ ?_
 split
 · rw [q3a];exact z0k h 2
 · exact z0k h 2
theorem zw_bytes {w:World} {N B:Nat} {S:St} (h:Zw w N B S) (most:Int):Calls Tryz.prog 139 #[.pointer (some ⟨B,0,none⟩),.int .i64 most] w fun e w'=>∃ p c,e=.returned (.slice p (z1d S most).2.length c)∧Sl w' p (z1d S most).2.length c (z1d S most).2∧Zw w' N B (z1d S most).1∧Chg (fun k=>k=B) w w':=by
 obtain⟨p,c,hr,hp⟩:=h.rd
 refine (bytes_any B c p S most w hr (by have:=h.small;omega)).mono ?_
 rintro e w' ⟨v,rfl,hrow,_,hw⟩
 obtain⟨h1,h2⟩:=h.went (c:=c) hp hw (bytesR_less S most) (bytesR_bytes h.bytes most)
 obtain⟨p',c',rfl,_,hs,_⟩:=hrow.sl
 exact⟨p',c',rfl,hs,h1,h2⟩
theorem z7e {w:World} {N B:Nat} {S:St} (h:Zw w N B S):Calls Tryz.prog 141 #[.pointer (some ⟨B,0,none⟩)] w fun e w'=>e=.returned (.int .i64 (endR S))∧w=w':=by
 obtain⟨p,c,hr,hp⟩:=h.rd
 exact end_any B c p S w hr (by have:=h.small;omega)
theorem zw_err {w:World} {N B:Nat} {S:St} (h:Zw w N B S):Calls Tryz.prog 136 #[.pointer (some ⟨B,0,none⟩)] w fun e w'=>e=.returned (.int .i64 S.1)∧w=w':=by
 obtain⟨p,c,hr,hp⟩:=h.rd
 exact z8k B S.1 w hr.c0
theorem z1z {a:Act} {w:World} {dst:Option Tmp} {x:Operand} {ty:TypeId} {pos:String} {after:Array Edge} {gd:Option (Nat × Bool)} {B:Nat} {r:Rv} (hx:a.eval x=.pointer (some ⟨B,0,none⟩)) (hC:RB w B r) :
 (execOp a.eval (Oper.mk dst (.load 51 x) ty pos after gd)).run Tryz.prog w=.ok (.value (.agg (rcs r))) w:=by
 unfold execOp
 simp only [hx,Instr.loadAt,Instr.sureAddr,Sem.run_bind,Sem.run_pure,Result.andThen_ok,run_loadVar_row w B 51 51 (rcs r) (0,0) _ hC Tryz.underlying51 rfl (by kernel_rfl)]
def z4m (B:List Nat):Int:=if kOk (((numR (0,B) 1).2:Nat):Int)=true then rdE (rdX (((numR (0,B) 1).2:Nat):Int) (numR (0,B) 1).1) else if (numR (0,B) 1).1.1≠0 then (numR (0,B) 1).1.1 else 8
structure Qz (W w:World) (N B R X:Nat) (S:St) (r:Rv):Prop where
 z:Zw w N B S
 x:RB w X r
 res:RB w R rz
 chg:Chg (fun k=>k=B) W w
 ord:N≤R∧R<X∧W.heap.size≤R
theorem Qz.low {W w w':World} {N B R X:Nat} {S S':St} {r:Rv} (h:Qz W w N B R X S r) (hz:Zw w' N B S') (hc:Chg (fun k=>k=B) w w'):Qz W w' N B R X S' r:=by
 have ho:=h.ord
 have hl:=h.z.low
 exact⟨hz,h.x.chg hc (by omega),h.res.chg hc (by omega),h.chg.trans hc fun _ _ e=>e,ho⟩
theorem Qz.later {W w w':World} {N B R X:Nat} {S:St} {r:Rv} (h:Qz W w N B R X S r) (hb:Below w.heap.size w w'):Qz W w' N B R X S r :=
 ⟨h.z.below hb,h.x.later hb,h.res.later hb,h.chg.trans (Chg.of_below (S:=fun k=>k=B) hb) fun _ _ e=>e,h.ord⟩
theorem Qz.put {W w:World} {N B R X:Nat} {S:St} {r:Rv} (h:Qz W w N B R X S r) (j:Nat) (v:Value) (r':Rv) (he:(rcs r).setIfInBounds j v=rcs r'):Qz W (w.setCell ⟨X,j,none⟩ v) N B R X S r':=by
 have ho:=h.ord
 have hc:Chg (fun k=>k=X) w (w.setCell ⟨X,j,none⟩ v):=(Chg.refl _ _).setCell ⟨X,j,none⟩ _ fun _=>rfl
 exact⟨h.z.later (hc.mono fun k _ hk=>by omega),h.x.put j v r' he,h.res.chg hc (by omega),h.chg.trans hc fun k hk e=>by omega,ho⟩
theorem Qz.set {W w:World} {N B R X:Nat} {S:St} {r:Rv} (h:Qz W w N B R X S r) (r':Rv):Qz W (w.setRow X (rcs r')) N B R X S r':=by
 have ho:=h.ord
 have hc:Chg (fun k=>k=X) w (w.setRow X (rcs r')):=⟨rfl,rfl,rfl,by simp [World.setRow],fun k _ hn=>setRow_other _ _ _ _ hn⟩
 exact⟨h.z.later (hc.mono fun k _ hk=>by omega),h.x.set r',h.res.chg hc (by omega),h.chg.trans hc fun k hk e=>by omega,ho⟩
theorem Qz.cx {W w:World} {N B R X:Nat} {S:St} {r:Rv} (h:Qz W w N B R X S r) {j:Nat} {v:Value} (hj:(rcs r)[j]?=some v):w.cell? ⟨X,j,none⟩=some v∧w.frozen? ⟨X,j,none⟩=false:=⟨z0a h.x hj,z0t j h.x⟩
structure Qp (W w:World) (N B R X Pb:Nat) (C:Array Value) (S:St) (r:Rv):Prop where
 q:Qz W w N B R X S r
 p:w.heap[Pb]?=some (.cells C 194 (0,0))
 lt:X<Pb
theorem Qp.low {W w w':World} {N B R X Pb:Nat} {C:Array Value} {S S':St} {r:Rv} (h:Qp W w N B R X Pb C S r) (hz:Zw w' N B S') (hc:Chg (fun k=>k=B) w w'):Qp W w' N B R X Pb C S' r:=by
 have ho:=h.q.ord
 have hl:=h.q.z.low
 have ht:=h.lt
 exact⟨h.q.low hz hc,(hc.block Pb (z0g h.p) (by omega)).trans h.p,h.lt⟩
theorem Qp.later {W w w':World} {N B R X Pb:Nat} {C:Array Value} {S:St} {r:Rv} (h:Qp W w N B R X Pb C S r) (hb:Below w.heap.size w w'):Qp W w' N B R X Pb C S r:=⟨h.q.later hb,z0c h.p hb,h.lt⟩
theorem Qp.put {W w:World} {N B R X Pb:Nat} {C:Array Value} {S:St} {r:Rv} (h:Qp W w N B R X Pb C S r) (j:Nat) (v:Value) (r':Rv) (he:(rcs r).setIfInBounds j v=rcs r'):Qp W (w.setCell ⟨X,j,none⟩ v) N B R X Pb C S r' :=
 ⟨h.q.put j v r' he,(Below.heap_setCell _ _ _ _ (by have:=h.lt;show Pb≠X;omega)).trans h.p,h.lt⟩
theorem Qp.set {W w:World} {N B R X Pb:Nat} {C:Array Value} {S:St} {r:Rv} (h:Qp W w N B R X Pb C S r) (r':Rv):Qp W (w.setRow X (rcs r')) N B R X Pb C S r' :=
 ⟨h.q.set r',(setRow_other _ _ _ _ (by have:=h.lt;omega)).trans h.p,h.lt⟩
theorem Qp.c {W w:World} {N B R X Pb:Nat} {C:Array Value} {S:St} {r:Rv} (h:Qp W w N B R X Pb C S r) {j:Nat} {v:Value} (hj:C[j]?=some v):w.cell? ⟨Pb,j,none⟩=some v:=z0a h.p hj
theorem z9v {Bs:List Nat} {R0:St × Nat} {kk:Int} {D:Rdd} (h0:numR (0,Bs) 1=R0) (hk:((R0.2:Nat):Int)=kk) (ho:kOk kk=true) (hd:rdX kk R0.1=D):z4m Bs=rdE D∧rdX (((numR (0,Bs) 1).2:Nat):Int) (numR (0,Bs) 1).1=D:=by
 subst h0 hk
 refine⟨?_,hd⟩
 unfold z4m
 rw [if_pos ho,hd]
theorem rd_bad {Bs:List Nat} {R0:St × Nat} {kk:Int} (h0:numR (0,Bs) 1=R0) (hk:((R0.2:Nat):Int)=kk) (ho:kOk kk=false):z4m Bs=if R0.1.1≠0 then R0.1.1 else 8:=by
 subst h0 hk
 unfold z4m
 rw [if_neg (by rw [ho];decide)]
abbrev zr:Array Value:=#[.int .u8 0,.int .u32 0,.int .u32 0,.int .u8 0,.bool false,.int .u8 0,.int .u8 0,.int .u8 0,.int .i64 0,.int .u8 0,.int .u8 0,.int .u32 0,.int .u8 0,.slice none 0 0,.slice none 0 0,.slice none 0 0,.int .u8 0,.int .u8 0,.int .u8 0,.int .i64 0]
def z2b (W:World) (B:Nat) (Bs:List Nat) (e:Ending) (w':World):Prop:=∃ r L T M,e=.returned (.tuple #[.agg (rcs r),.int .i64 (z4m Bs)])∧RvM w' r L T M∧(z4m Bs=0→r.x L T M=(rdX (((numR (0,Bs) 1).2:Nat):Int) (numR (0,Bs) 1).1).rx)∧Chg (fun k=>k=B) W w'∧(∀ a,r.lp=some a→W.heap.size≤a.block)∧(∀ a,r.tp=some a→W.heap.size≤a.block)∧(∀ a,r.wp=some a→W.heap.size≤a.block)
theorem no_lists {r:Rv} (h:r.lp=none∧r.ln=0∧r.lcp=0∧r.tp=none∧r.tn=0∧r.tcp=0∧r.wp=none∧r.wn=0∧r.wcp=0) (w:World):RvM w r [] [] []:=by
 obtain⟨e1,e2,e3,e4,e5,e6,e7,e8,e9⟩:=h
 unfold RvM
 rw [e1,e2,e3,e4,e5,e6,e7,e8,e9]
 exact⟨SlG.empty _,SlG.empty _,SlG.empty _⟩
theorem rec_write1 (r:Rv) (L:List Ln) (T:List Tk) (M:List Ln) (W:World) (hok:Rxok (r.x L T M)) (hk:r.k=1) (hw:Words W) (hP:RvM W r L T M) (h1:r.ln≤400∧r.tn≤400∧r.wn≤400) (hg:z0w 4 4 (r.pg L T M)=true):Calls Tryz.prog 84 #[.agg (rcs r)] W (z3v W (z0o (r.x L T M))):=by
 obtain⟨W1,hW1,hb1⟩:∃ W1,W.alloc (.cells (rcs r) 51)=W1∧Below W.heap.size W W1:=⟨_,rfl,(Below.refl _ _).alloc (Nat.le_refl _) _⟩
 obtain⟨B,hB⟩:∃ B,W.heap.size=B:=⟨_,rfl⟩
 have hrb:=RB.new W r
 rw [hW1,hB] at hrb
 have HX1:=hid hrb
 have HW1:=hid hW1
 have HB1:=hid hb1
 have HRE:=hid hB
 have c0:W1.cell? ⟨B,0,none⟩=some (.int .u8 r.k):=z0a hrb rfl
 rw [hk] at c0
 clear hW1 hb1 hB hrb
 have HOK:=hid hok
 have u1:=z0x hok.sg
 have u2:=z0x hok.tx
 have u3:IntKind.u64.wrap r.st=r.st:=z0x ⟨hok.st.1,Int.le_trans hok.st.2 (by decide)⟩
 have u4:IntKind.u64.wrap r.o=r.o:=z0x ⟨hok.o.1,Int.le_trans hok.o.2 (by decide)⟩
 change IntKind.u64.wrap r.sg=r.sg at u1
 change IntKind.u64.wrap r.tx=r.tx at u2
 have hpa:=z1m 1 W1
 unfold z1k at hpa
 rw [show ptc 1=#[.bool true,.bool false,.bool false,.bool false,.bool false,.bool true] from rfl] at hpa
 have HEN:=hid (fun W' (hb:Below W.heap.size W W')=>encode_p r.pk r.od r.po r.lp r.ln r.lcp r.tp r.tn r.tcp r.wp r.wn r.wcp r.sk r.fr r.to r.q L T M W' (hw.later hb) (hP.later hb) hok.pg h1)
 have HPF:=hid (pg_few hg)
 have HGG:=hid hg
 clear hw hP h1 hg
 clear hok
 go_enter Tryz.func84,Tryz.ntmps84
 go_upto_region 1 with (fail)
 rw [HW1.out,HRE.out]
 go_wp2_with fail
 refine hpa.mono ?_
 rintro e w2 ⟨rfl,h2⟩
 have HB2:=hid (HB1.out.trans (h2.mono HB1.out.size))
 have HX2:=hid (HX1.out.later h2)
 clear h2 hpa c0
 obtain⟨N2,hN2⟩:∃ n,w2.heap.size=n:=⟨_,rfl⟩
 obtain⟨w3,hwn,hxn,hbn⟩:∃ w3,(w2.alloc (.cells pz 194)).setRow N2 #[.bool true,.bool false,.bool false,.bool false,.bool false,.bool true]=w3∧w3.heap[N2]?=some (.cells #[.bool true,.bool false,.bool false,.bool false,.bool false,.bool true] 194 (0,0))∧Below w2.heap.size w2 w3:=⟨_,rfl,by rw [← hN2];exact setRow_heap _ _ _ _ _ _ (z0b w2 _),below_setRow ((Below.refl _ _).alloc (Nat.le_refl _) _) (by omega) _⟩
 have hx2:=z0b w2 (.cells pz 194)
 rw [hN2] at hx2
 have HPX:=hid hxn
 have HPZ:=hid hx2
 have HBN:=hid hbn
 have HWN:=hid hwn
 have HNN:=hid hN2
 have HS6:Hid ((#[.bool true,.bool false,.bool false,.bool false,.bool false,.bool true]:Array Value).size=6):=hid rfl
 have HA6:Hid ((#[.bool true,.bool false,.bool false,.bool false,.bool false,.bool true]:Array Value).all (·.oneCell')=true):=hid (by simp [Value.oneCell'])
 clear hx2 hxn hbn hwn hN2
 have HB3:=hid (HB2.out.trans (HBN.out.mono HB2.out.size))
 have HX3:=hid (HX2.out.later HBN.out)
 go_wp2_with ((try rw [HNN.out]);(with_reducible refine z0l #[.bool true,.bool false,.bool false,.bool false,.bool false,.bool true] HS6.out HA6.out HPZ.out ?_ ?_ ?_);rfl;rfl;rw [HWN.out])
 refine (z6v w3 w3 512 (Below.refl _ _)).mono ?_
 rintro e w4 ⟨Bw,rfl,hkk⟩
 rw [show lim 512=512 from rfl] at hkk
 have HK4:=hid hkk
 clear hkk
 have gp:=z0c HPX.out HK4.out.below
 have HGX:=hid (HX3.out.later HK4.out.below)
 have p0:w4.cell? ⟨N2,0,none⟩=some (.bool true):=z0a gp rfl
 have p1:w4.cell? ⟨N2,1,none⟩=some (.bool false):=z0a gp rfl
 have p2:w4.cell? ⟨N2,2,none⟩=some (.bool false):=z0a gp rfl
 have p3:w4.cell? ⟨N2,3,none⟩=some (.bool false):=z0a gp rfl
 have p4:w4.cell? ⟨N2,4,none⟩=some (.bool false):=z0a gp rfl
 have p5:w4.cell? ⟨N2,5,none⟩=some (.bool true):=z0a gp rfl
 obtain⟨c0,c1,c2,c3,c4,c5,c6,c7,c8,c9⟩:=HGX.out.at
 rw [hk] at c0
 clear gp
 go_wp2_with fail
 refine (z4v HK4.out 1 (by omega) (by simp)).mono ?_
 rintro e w5 ⟨rfl,hkk⟩
 have HK5:=hid hkk
 clear hkk HK4
 clear p0 p1 p2 p3 p4 p5 c0 c1 c2 c3 c4 c5 c6 c7 c8 c9 HGX
 have gp:=z0c HPX.out HK5.out.below
 have HGX:=hid (HX3.out.later HK5.out.below)
 have p0:w5.cell? ⟨N2,0,none⟩=some (.bool true):=z0a gp rfl
 have p1:w5.cell? ⟨N2,1,none⟩=some (.bool false):=z0a gp rfl
 have p2:w5.cell? ⟨N2,2,none⟩=some (.bool false):=z0a gp rfl
 have p3:w5.cell? ⟨N2,3,none⟩=some (.bool false):=z0a gp rfl
 have p4:w5.cell? ⟨N2,4,none⟩=some (.bool false):=z0a gp rfl
 have p5:w5.cell? ⟨N2,5,none⟩=some (.bool true):=z0a gp rfl
 obtain⟨c0,c1,c2,c3,c4,c5,c6,c7,c8,c9⟩:=HGX.out.at
 rw [hk] at c0
 clear gp
 go_wp2_with fail
 refine (z5j HK5.out r.sg HOK.out.sg (by simp only [List.length_append,List.length_nil,z0r];omega)).mono ?_
 rintro e w6 ⟨rfl,hkk⟩
 have HK6:=hid hkk
 clear hkk HK5
 clear p0 p1 p2 p3 p4 p5 c0 c1 c2 c3 c4 c5 c6 c7 c8 c9 HGX
 have gp:=z0c HPX.out HK6.out.below
 have HGX:=hid (HX3.out.later HK6.out.below)
 have p0:w6.cell? ⟨N2,0,none⟩=some (.bool true):=z0a gp rfl
 have p1:w6.cell? ⟨N2,1,none⟩=some (.bool false):=z0a gp rfl
 have p2:w6.cell? ⟨N2,2,none⟩=some (.bool false):=z0a gp rfl
 have p3:w6.cell? ⟨N2,3,none⟩=some (.bool false):=z0a gp rfl
 have p4:w6.cell? ⟨N2,4,none⟩=some (.bool false):=z0a gp rfl
 have p5:w6.cell? ⟨N2,5,none⟩=some (.bool true):=z0a gp rfl
 obtain⟨c0,c1,c2,c3,c4,c5,c6,c7,c8,c9⟩:=HGX.out.at
 rw [hk] at c0
 clear gp
 go_wp2_with ((with_reducible refine z3y HGX.out ?_ ?_);rfl)
 refine (HEN.out w6 (HB3.out.trans (HK6.out.below.mono HB3.out.size))).mono ?_
 rintro e w7 ⟨hbe,hy⟩
 have hgg:z0w 4 4 ⟨r.pk,r.od,r.po,L,T,M,r.sk,r.fr,r.to,r.q⟩=true:=HGG.out
 rw [if_pos hgg] at hy
 obtain⟨py,cy,rfl,hsy,_,_⟩:=hy
 have HSY:=hid hsy
 have HK7:=hid (HK6.out.later (Chg.of_below (S:=fun _=>False) hbe))
 have hpf:(z2u ⟨r.pk,r.od,r.po,L,T,M,r.sk,r.fr,r.to,r.q⟩).length≤400:=HPF.out
 have HBP:Hid (z2u (r.pg L T M)=z2u ⟨r.pk,r.od,r.po,L,T,M,r.sk,r.fr,r.to,r.q⟩):=hid rfl
 generalize z2u ⟨r.pk,r.od,r.po,L,T,M,r.sk,r.fr,r.to,r.q⟩=Y at *
 generalize hny:Y.length=ny at *
 clear hsy hbe hgg HK6
 clear p0 p1 p2 p3 p4 p5 c0 c1 c2 c3 c4 c5 c6 c7 c8 c9 HGX
 have gp:=z0c HPX.out HK7.out.below
 have HGX:=hid (HX3.out.later HK7.out.below)
 have p0:w7.cell? ⟨N2,0,none⟩=some (.bool true):=z0a gp rfl
 have p1:w7.cell? ⟨N2,1,none⟩=some (.bool false):=z0a gp rfl
 have p2:w7.cell? ⟨N2,2,none⟩=some (.bool false):=z0a gp rfl
 have p3:w7.cell? ⟨N2,3,none⟩=some (.bool false):=z0a gp rfl
 have p4:w7.cell? ⟨N2,4,none⟩=some (.bool false):=z0a gp rfl
 have p5:w7.cell? ⟨N2,5,none⟩=some (.bool true):=z0a gp rfl
 obtain⟨c0,c1,c2,c3,c4,c5,c6,c7,c8,c9⟩:=HGX.out.at
 rw [hk] at c0
 clear gp
 go_wp2_with fail
 have HNY:=hid hny
 clear hny
 refine (wo_bytes HK7.out py ny cy Y HSY.out (by simp only [List.length_append,List.length_nil,z0r];omega)).mono ?_
 rintro e w8 ⟨rfl,hkk⟩
 have HK8:=hid hkk
 clear hkk HK7
 clear p0 p1 p2 p3 p4 p5 c0 c1 c2 c3 c4 c5 c6 c7 c8 c9 HGX
 have gp:=z0c HPX.out HK8.out.below
 have HGX:=hid (HX3.out.later HK8.out.below)
 have p0:w8.cell? ⟨N2,0,none⟩=some (.bool true):=z0a gp rfl
 have p1:w8.cell? ⟨N2,1,none⟩=some (.bool false):=z0a gp rfl
 have p2:w8.cell? ⟨N2,2,none⟩=some (.bool false):=z0a gp rfl
 have p3:w8.cell? ⟨N2,3,none⟩=some (.bool false):=z0a gp rfl
 have p4:w8.cell? ⟨N2,4,none⟩=some (.bool false):=z0a gp rfl
 have p5:w8.cell? ⟨N2,5,none⟩=some (.bool true):=z0a gp rfl
 obtain⟨c0,c1,c2,c3,c4,c5,c6,c7,c8,c9⟩:=HGX.out.at
 rw [hk] at c0
 clear gp
 go_wp2_with fail
 have hbx:(((([]:List Nat)++le ((1:Int)).toNat 1)++le r.sg.toNat 4)++(le Y.length 2++Y))=z0o (r.x L T M):=by
  unfold z0o
  rw [show ((r.x L T M)).k=1 from hk]
  simp [kS,kT,kB,kA,kO,kP,Rv.x,List.append_assoc,HBP.out]
 have hlx:(z0o (r.x L T M)).length≤100000:=by rw [← hbx];simp only [List.length_append,List.length_nil,z0r];have:=HNY.out;omega
 have HKz:Hid (WrOk w3 w8 Bw 512 (0,z0o (r.x L T M))):=hid (by rw [← hbx];exact HK8.out)
 clear hbx HK8
 generalize z0o (r.x L T M)=Z at *
 refine (z3u w3 w8 Bw 512 Z HKz.out hlx).mono ?_
 rintro e w9 ⟨pz',cz,rfl,hbz,hsz,_⟩
 have HF:Hid (z3v W Z (.returned (.tuple #[.slice pz' Z.length cz,.int .i64 0])) w9):=hid ⟨pz',cz,rfl,hsz,HB3.out.trans (hbz.mono HB3.out.size)⟩
 clear hbz hsz hlx
 generalize Z.length=nz at *
 clear p0 p1 p2 p3 p4 p5 c0 c1 c2 c3 c4 c5 c6 c7 c8 c9 HGX
 go_wp2_with fail
 go_ret2
 exact HF.out
theorem rec_write2 (r:Rv) (L:List Ln) (T:List Tk) (M:List Ln) (W:World) (hok:Rxok (r.x L T M)) (hk:r.k=2):Calls Tryz.prog 84 #[.agg (rcs r)] W (z3v W (z0o (r.x L T M))):=by
 obtain⟨W1,hW1,hb1⟩:∃ W1,W.alloc (.cells (rcs r) 51)=W1∧Below W.heap.size W W1:=⟨_,rfl,(Below.refl _ _).alloc (Nat.le_refl _) _⟩
 obtain⟨B,hB⟩:∃ B,W.heap.size=B:=⟨_,rfl⟩
 have hrb:=RB.new W r
 rw [hW1,hB] at hrb
 have HX1:=hid hrb
 have HW1:=hid hW1
 have HB1:=hid hb1
 have HRE:=hid hB
 have c0:W1.cell? ⟨B,0,none⟩=some (.int .u8 r.k):=z0a hrb rfl
 rw [hk] at c0
 clear hW1 hb1 hB hrb
 have HOK:=hid hok
 have u1:=z0x hok.sg
 have u2:=z0x hok.tx
 have u3:IntKind.u64.wrap r.st=r.st:=z0x ⟨hok.st.1,Int.le_trans hok.st.2 (by decide)⟩
 have u4:IntKind.u64.wrap r.o=r.o:=z0x ⟨hok.o.1,Int.le_trans hok.o.2 (by decide)⟩
 change IntKind.u64.wrap r.sg=r.sg at u1
 change IntKind.u64.wrap r.tx=r.tx at u2
 have hpa:=z1m 2 W1
 unfold z1k at hpa
 rw [show ptc 2=#[.bool true,.bool true,.bool true,.bool false,.bool false,.bool false] from rfl] at hpa
 clear hok
 go_enter Tryz.func84,Tryz.ntmps84
 go_upto_region 1 with (fail)
 rw [HW1.out,HRE.out]
 go_wp2_with fail
 refine hpa.mono ?_
 rintro e w2 ⟨rfl,h2⟩
 have HB2:=hid (HB1.out.trans (h2.mono HB1.out.size))
 have HX2:=hid (HX1.out.later h2)
 clear h2 hpa c0
 obtain⟨N2,hN2⟩:∃ n,w2.heap.size=n:=⟨_,rfl⟩
 obtain⟨w3,hwn,hxn,hbn⟩:∃ w3,(w2.alloc (.cells pz 194)).setRow N2 #[.bool true,.bool true,.bool true,.bool false,.bool false,.bool false]=w3∧w3.heap[N2]?=some (.cells #[.bool true,.bool true,.bool true,.bool false,.bool false,.bool false] 194 (0,0))∧Below w2.heap.size w2 w3:=⟨_,rfl,by rw [← hN2];exact setRow_heap _ _ _ _ _ _ (z0b w2 _),below_setRow ((Below.refl _ _).alloc (Nat.le_refl _) _) (by omega) _⟩
 have hx2:=z0b w2 (.cells pz 194)
 rw [hN2] at hx2
 have HPX:=hid hxn
 have HPZ:=hid hx2
 have HBN:=hid hbn
 have HWN:=hid hwn
 have HNN:=hid hN2
 have HS6:Hid ((#[.bool true,.bool true,.bool true,.bool false,.bool false,.bool false]:Array Value).size=6):=hid rfl
 have HA6:Hid ((#[.bool true,.bool true,.bool true,.bool false,.bool false,.bool false]:Array Value).all (·.oneCell')=true):=hid (by simp [Value.oneCell'])
 clear hx2 hxn hbn hwn hN2
 have HB3:=hid (HB2.out.trans (HBN.out.mono HB2.out.size))
 have HX3:=hid (HX2.out.later HBN.out)
 go_wp2_with ((try rw [HNN.out]);(with_reducible refine z0l #[.bool true,.bool true,.bool true,.bool false,.bool false,.bool false] HS6.out HA6.out HPZ.out ?_ ?_ ?_);rfl;rfl;rw [HWN.out])
 refine (z6v w3 w3 512 (Below.refl _ _)).mono ?_
 rintro e w4 ⟨Bw,rfl,hkk⟩
 rw [show lim 512=512 from rfl] at hkk
 have HK4:=hid hkk
 clear hkk
 have gp:=z0c HPX.out HK4.out.below
 have HGX:=hid (HX3.out.later HK4.out.below)
 have p0:w4.cell? ⟨N2,0,none⟩=some (.bool true):=z0a gp rfl
 have p1:w4.cell? ⟨N2,1,none⟩=some (.bool true):=z0a gp rfl
 have p2:w4.cell? ⟨N2,2,none⟩=some (.bool true):=z0a gp rfl
 have p3:w4.cell? ⟨N2,3,none⟩=some (.bool false):=z0a gp rfl
 have p4:w4.cell? ⟨N2,4,none⟩=some (.bool false):=z0a gp rfl
 have p5:w4.cell? ⟨N2,5,none⟩=some (.bool false):=z0a gp rfl
 obtain⟨c0,c1,c2,c3,c4,c5,c6,c7,c8,c9⟩:=HGX.out.at
 rw [hk] at c0
 clear gp
 go_wp2_with fail
 refine (z4v HK4.out 2 (by omega) (by simp)).mono ?_
 rintro e w5 ⟨rfl,hkk⟩
 have HK5:=hid hkk
 clear hkk HK4
 clear p0 p1 p2 p3 p4 p5 c0 c1 c2 c3 c4 c5 c6 c7 c8 c9 HGX
 have gp:=z0c HPX.out HK5.out.below
 have HGX:=hid (HX3.out.later HK5.out.below)
 have p0:w5.cell? ⟨N2,0,none⟩=some (.bool true):=z0a gp rfl
 have p1:w5.cell? ⟨N2,1,none⟩=some (.bool true):=z0a gp rfl
 have p2:w5.cell? ⟨N2,2,none⟩=some (.bool true):=z0a gp rfl
 have p3:w5.cell? ⟨N2,3,none⟩=some (.bool false):=z0a gp rfl
 have p4:w5.cell? ⟨N2,4,none⟩=some (.bool false):=z0a gp rfl
 have p5:w5.cell? ⟨N2,5,none⟩=some (.bool false):=z0a gp rfl
 obtain⟨c0,c1,c2,c3,c4,c5,c6,c7,c8,c9⟩:=HGX.out.at
 rw [hk] at c0
 clear gp
 go_wp2_with fail
 refine (z5j HK5.out r.sg HOK.out.sg (by simp only [List.length_append,List.length_nil,z0r];omega)).mono ?_
 rintro e w6 ⟨rfl,hkk⟩
 have HK6:=hid hkk
 clear hkk HK5
 clear p0 p1 p2 p3 p4 p5 c0 c1 c2 c3 c4 c5 c6 c7 c8 c9 HGX
 have gp:=z0c HPX.out HK6.out.below
 have HGX:=hid (HX3.out.later HK6.out.below)
 have p0:w6.cell? ⟨N2,0,none⟩=some (.bool true):=z0a gp rfl
 have p1:w6.cell? ⟨N2,1,none⟩=some (.bool true):=z0a gp rfl
 have p2:w6.cell? ⟨N2,2,none⟩=some (.bool true):=z0a gp rfl
 have p3:w6.cell? ⟨N2,3,none⟩=some (.bool false):=z0a gp rfl
 have p4:w6.cell? ⟨N2,4,none⟩=some (.bool false):=z0a gp rfl
 have p5:w6.cell? ⟨N2,5,none⟩=some (.bool false):=z0a gp rfl
 obtain⟨c0,c1,c2,c3,c4,c5,c6,c7,c8,c9⟩:=HGX.out.at
 rw [hk] at c0
 clear gp
 go_wp2_with fail
 refine (z5j HK6.out r.tx HOK.out.tx (by simp only [List.length_append,List.length_nil,z0r];omega)).mono ?_
 rintro e w7 ⟨rfl,hkk⟩
 have HK7:=hid hkk
 clear hkk HK6
 clear p0 p1 p2 p3 p4 p5 c0 c1 c2 c3 c4 c5 c6 c7 c8 c9 HGX
 have gp:=z0c HPX.out HK7.out.below
 have HGX:=hid (HX3.out.later HK7.out.below)
 have p0:w7.cell? ⟨N2,0,none⟩=some (.bool true):=z0a gp rfl
 have p1:w7.cell? ⟨N2,1,none⟩=some (.bool true):=z0a gp rfl
 have p2:w7.cell? ⟨N2,2,none⟩=some (.bool true):=z0a gp rfl
 have p3:w7.cell? ⟨N2,3,none⟩=some (.bool false):=z0a gp rfl
 have p4:w7.cell? ⟨N2,4,none⟩=some (.bool false):=z0a gp rfl
 have p5:w7.cell? ⟨N2,5,none⟩=some (.bool false):=z0a gp rfl
 obtain⟨c0,c1,c2,c3,c4,c5,c6,c7,c8,c9⟩:=HGX.out.at
 rw [hk] at c0
 clear gp
 go_wp2_with fail
 refine (z4v HK7.out r.st HOK.out.st (by simp only [List.length_append,List.length_nil,z0r];omega)).mono ?_
 rintro e w8 ⟨rfl,hkk⟩
 have HK8:=hid hkk
 clear hkk HK7
 clear p0 p1 p2 p3 p4 p5 c0 c1 c2 c3 c4 c5 c6 c7 c8 c9 HGX
 have gp:=z0c HPX.out HK8.out.below
 have HGX:=hid (HX3.out.later HK8.out.below)
 have p0:w8.cell? ⟨N2,0,none⟩=some (.bool true):=z0a gp rfl
 have p1:w8.cell? ⟨N2,1,none⟩=some (.bool true):=z0a gp rfl
 have p2:w8.cell? ⟨N2,2,none⟩=some (.bool true):=z0a gp rfl
 have p3:w8.cell? ⟨N2,3,none⟩=some (.bool false):=z0a gp rfl
 have p4:w8.cell? ⟨N2,4,none⟩=some (.bool false):=z0a gp rfl
 have p5:w8.cell? ⟨N2,5,none⟩=some (.bool false):=z0a gp rfl
 obtain⟨c0,c1,c2,c3,c4,c5,c6,c7,c8,c9⟩:=HGX.out.at
 rw [hk] at c0
 clear gp
 go_wp2_with fail
 refine (wo_bool HK8.out r.cp (by simp only [List.length_append,List.length_nil,z0r];omega)).mono ?_
 rintro e w9 ⟨rfl,hkk⟩
 have HK9:=hid hkk
 clear hkk HK8
 clear p0 p1 p2 p3 p4 p5 c0 c1 c2 c3 c4 c5 c6 c7 c8 c9 HGX
 have gp:=z0c HPX.out HK9.out.below
 have HGX:=hid (HX3.out.later HK9.out.below)
 have p0:w9.cell? ⟨N2,0,none⟩=some (.bool true):=z0a gp rfl
 have p1:w9.cell? ⟨N2,1,none⟩=some (.bool true):=z0a gp rfl
 have p2:w9.cell? ⟨N2,2,none⟩=some (.bool true):=z0a gp rfl
 have p3:w9.cell? ⟨N2,3,none⟩=some (.bool false):=z0a gp rfl
 have p4:w9.cell? ⟨N2,4,none⟩=some (.bool false):=z0a gp rfl
 have p5:w9.cell? ⟨N2,5,none⟩=some (.bool false):=z0a gp rfl
 obtain⟨c0,c1,c2,c3,c4,c5,c6,c7,c8,c9⟩:=HGX.out.at
 rw [hk] at c0
 clear gp
 go_wp2_with fail
 have hbx:(((((([]:List Nat)++le ((2:Int)).toNat 1)++le r.sg.toNat 4)++le r.tx.toNat 4)++le r.st.toNat 1) ++ [bitN r.cp])=z0o (r.x L T M):=by
  unfold z0o
  rw [show ((r.x L T M)).k=2 from hk]
  simp [kS,kT,kB,kA,kO,kP,Rv.x,List.append_assoc]
 have hlx:(z0o (r.x L T M)).length≤100000:=by rw [← hbx];simp only [List.length_append,List.length_nil,List.length_cons,z0r,keyB];omega
 have HKz:Hid (WrOk w3 w9 Bw 512 (0,z0o (r.x L T M))):=hid (by rw [← hbx];exact HK9.out)
 clear hbx HK9
 generalize z0o (r.x L T M)=Z at *
 refine (z3u w3 w9 Bw 512 Z HKz.out hlx).mono ?_
 rintro e w10 ⟨pz',cz,rfl,hbz,hsz,_⟩
 have HF:Hid (z3v W Z (.returned (.tuple #[.slice pz' Z.length cz,.int .i64 0])) w10):=hid ⟨pz',cz,rfl,hsz,HB3.out.trans (hbz.mono HB3.out.size)⟩
 clear hbz hsz hlx
 generalize Z.length=nz at *
 clear p0 p1 p2 p3 p4 p5 c0 c1 c2 c3 c4 c5 c6 c7 c8 c9 HGX
 go_wp2_with fail
 go_ret2
 exact HF.out
theorem rec_write3 (r:Rv) (L:List Ln) (T:List Tk) (M:List Ln) (W:World) (hok:Rxok (r.x L T M)) (hk:r.k=3):Calls Tryz.prog 84 #[.agg (rcs r)] W (z3v W (z0o (r.x L T M))):=by
 obtain⟨W1,hW1,hb1⟩:∃ W1,W.alloc (.cells (rcs r) 51)=W1∧Below W.heap.size W W1:=⟨_,rfl,(Below.refl _ _).alloc (Nat.le_refl _) _⟩
 obtain⟨B,hB⟩:∃ B,W.heap.size=B:=⟨_,rfl⟩
 have hrb:=RB.new W r
 rw [hW1,hB] at hrb
 have HX1:=hid hrb
 have HW1:=hid hW1
 have HB1:=hid hb1
 have HRE:=hid hB
 have c0:W1.cell? ⟨B,0,none⟩=some (.int .u8 r.k):=z0a hrb rfl
 rw [hk] at c0
 clear hW1 hb1 hB hrb
 have HOK:=hid hok
 have u1:=z0x hok.sg
 have u2:=z0x hok.tx
 have u3:IntKind.u64.wrap r.st=r.st:=z0x ⟨hok.st.1,Int.le_trans hok.st.2 (by decide)⟩
 have u4:IntKind.u64.wrap r.o=r.o:=z0x ⟨hok.o.1,Int.le_trans hok.o.2 (by decide)⟩
 change IntKind.u64.wrap r.sg=r.sg at u1
 change IntKind.u64.wrap r.tx=r.tx at u2
 have hpa:=z1m 3 W1
 unfold z1k at hpa
 rw [show ptc 3=#[.bool false,.bool true,.bool false,.bool true,.bool false,.bool false] from rfl] at hpa
 clear hok
 go_enter Tryz.func84,Tryz.ntmps84
 go_upto_region 1 with (fail)
 rw [HW1.out,HRE.out]
 go_wp2_with fail
 refine hpa.mono ?_
 rintro e w2 ⟨rfl,h2⟩
 have HB2:=hid (HB1.out.trans (h2.mono HB1.out.size))
 have HX2:=hid (HX1.out.later h2)
 clear h2 hpa c0
 obtain⟨N2,hN2⟩:∃ n,w2.heap.size=n:=⟨_,rfl⟩
 obtain⟨w3,hwn,hxn,hbn⟩:∃ w3,(w2.alloc (.cells pz 194)).setRow N2 #[.bool false,.bool true,.bool false,.bool true,.bool false,.bool false]=w3∧w3.heap[N2]?=some (.cells #[.bool false,.bool true,.bool false,.bool true,.bool false,.bool false] 194 (0,0))∧Below w2.heap.size w2 w3:=⟨_,rfl,by rw [← hN2];exact setRow_heap _ _ _ _ _ _ (z0b w2 _),below_setRow ((Below.refl _ _).alloc (Nat.le_refl _) _) (by omega) _⟩
 have hx2:=z0b w2 (.cells pz 194)
 rw [hN2] at hx2
 have HPX:=hid hxn
 have HPZ:=hid hx2
 have HBN:=hid hbn
 have HWN:=hid hwn
 have HNN:=hid hN2
 have HS6:Hid ((#[.bool false,.bool true,.bool false,.bool true,.bool false,.bool false]:Array Value).size=6):=hid rfl
 have HA6:Hid ((#[.bool false,.bool true,.bool false,.bool true,.bool false,.bool false]:Array Value).all (·.oneCell')=true):=hid (by simp [Value.oneCell'])
 clear hx2 hxn hbn hwn hN2
 have HB3:=hid (HB2.out.trans (HBN.out.mono HB2.out.size))
 have HX3:=hid (HX2.out.later HBN.out)
 go_wp2_with ((try rw [HNN.out]);(with_reducible refine z0l #[.bool false,.bool true,.bool false,.bool true,.bool false,.bool false] HS6.out HA6.out HPZ.out ?_ ?_ ?_);rfl;rfl;rw [HWN.out])
 refine (z6v w3 w3 512 (Below.refl _ _)).mono ?_
 rintro e w4 ⟨Bw,rfl,hkk⟩
 rw [show lim 512=512 from rfl] at hkk
 have HK4:=hid hkk
 clear hkk
 have gp:=z0c HPX.out HK4.out.below
 have HGX:=hid (HX3.out.later HK4.out.below)
 have p0:w4.cell? ⟨N2,0,none⟩=some (.bool false):=z0a gp rfl
 have p1:w4.cell? ⟨N2,1,none⟩=some (.bool true):=z0a gp rfl
 have p2:w4.cell? ⟨N2,2,none⟩=some (.bool false):=z0a gp rfl
 have p3:w4.cell? ⟨N2,3,none⟩=some (.bool true):=z0a gp rfl
 have p4:w4.cell? ⟨N2,4,none⟩=some (.bool false):=z0a gp rfl
 have p5:w4.cell? ⟨N2,5,none⟩=some (.bool false):=z0a gp rfl
 obtain⟨c0,c1,c2,c3,c4,c5,c6,c7,c8,c9⟩:=HGX.out.at
 rw [hk] at c0
 clear gp
 go_wp2_with fail
 refine (z4v HK4.out 3 (by omega) (by simp)).mono ?_
 rintro e w5 ⟨rfl,hkk⟩
 have HK5:=hid hkk
 clear hkk HK4
 clear p0 p1 p2 p3 p4 p5 c0 c1 c2 c3 c4 c5 c6 c7 c8 c9 HGX
 have gp:=z0c HPX.out HK5.out.below
 have HGX:=hid (HX3.out.later HK5.out.below)
 have p0:w5.cell? ⟨N2,0,none⟩=some (.bool false):=z0a gp rfl
 have p1:w5.cell? ⟨N2,1,none⟩=some (.bool true):=z0a gp rfl
 have p2:w5.cell? ⟨N2,2,none⟩=some (.bool false):=z0a gp rfl
 have p3:w5.cell? ⟨N2,3,none⟩=some (.bool true):=z0a gp rfl
 have p4:w5.cell? ⟨N2,4,none⟩=some (.bool false):=z0a gp rfl
 have p5:w5.cell? ⟨N2,5,none⟩=some (.bool false):=z0a gp rfl
 obtain⟨c0,c1,c2,c3,c4,c5,c6,c7,c8,c9⟩:=HGX.out.at
 rw [hk] at c0
 clear gp
 go_wp2_with fail
 refine (z5j HK5.out r.tx HOK.out.tx (by simp only [List.length_append,List.length_nil,z0r];omega)).mono ?_
 rintro e w6 ⟨rfl,hkk⟩
 have HK6:=hid hkk
 clear hkk HK5
 clear p0 p1 p2 p3 p4 p5 c0 c1 c2 c3 c4 c5 c6 c7 c8 c9 HGX
 have gp:=z0c HPX.out HK6.out.below
 have HGX:=hid (HX3.out.later HK6.out.below)
 have p0:w6.cell? ⟨N2,0,none⟩=some (.bool false):=z0a gp rfl
 have p1:w6.cell? ⟨N2,1,none⟩=some (.bool true):=z0a gp rfl
 have p2:w6.cell? ⟨N2,2,none⟩=some (.bool false):=z0a gp rfl
 have p3:w6.cell? ⟨N2,3,none⟩=some (.bool true):=z0a gp rfl
 have p4:w6.cell? ⟨N2,4,none⟩=some (.bool false):=z0a gp rfl
 have p5:w6.cell? ⟨N2,5,none⟩=some (.bool false):=z0a gp rfl
 obtain⟨c0,c1,c2,c3,c4,c5,c6,c7,c8,c9⟩:=HGX.out.at
 rw [hk] at c0
 clear gp
 go_wp2_with fail
 have HKb:=hid (HK6.out.later (Chg.of_below (S:=fun _=>False) ((Below.refl w6.heap.size w6).alloc (Nat.le_refl _) (.cells #[.int .u8 r.ka,.int .u8 r.kb,.int .u8 r.kc] 5))))
 refine (wo_raw HKb.out (some ⟨w6.heap.size,0,none⟩) 3 3 (keyB (r.ka,r.kb,r.kc)) (sl_three r.ka r.kb r.kc HOK.out.key.1 HOK.out.key.2.1 HOK.out.key.2.2 w6) (by simp only [List.length_append,List.length_nil,z0r];omega)).mono ?_
 rintro e w7 ⟨rfl,hkk⟩
 have HK7:=hid hkk
 clear hkk HK6 HKb
 clear p0 p1 p2 p3 p4 p5 c0 c1 c2 c3 c4 c5 c6 c7 c8 c9 HGX
 have gp:=z0c HPX.out HK7.out.below
 have HGX:=hid (HX3.out.later HK7.out.below)
 have p0:w7.cell? ⟨N2,0,none⟩=some (.bool false):=z0a gp rfl
 have p1:w7.cell? ⟨N2,1,none⟩=some (.bool true):=z0a gp rfl
 have p2:w7.cell? ⟨N2,2,none⟩=some (.bool false):=z0a gp rfl
 have p3:w7.cell? ⟨N2,3,none⟩=some (.bool true):=z0a gp rfl
 have p4:w7.cell? ⟨N2,4,none⟩=some (.bool false):=z0a gp rfl
 have p5:w7.cell? ⟨N2,5,none⟩=some (.bool false):=z0a gp rfl
 obtain⟨c0,c1,c2,c3,c4,c5,c6,c7,c8,c9⟩:=HGX.out.at
 rw [hk] at c0
 clear gp
 go_wp2_with fail
 refine (wo_int HK7.out r.d HOK.out.d (by simp only [List.length_append,List.length_nil,z0r,keyB,List.length_cons];omega)).mono ?_
 rintro e w8 ⟨rfl,hkk⟩
 have HK8:=hid hkk
 clear hkk HK7
 clear p0 p1 p2 p3 p4 p5 c0 c1 c2 c3 c4 c5 c6 c7 c8 c9 HGX
 have gp:=z0c HPX.out HK8.out.below
 have HGX:=hid (HX3.out.later HK8.out.below)
 have p0:w8.cell? ⟨N2,0,none⟩=some (.bool false):=z0a gp rfl
 have p1:w8.cell? ⟨N2,1,none⟩=some (.bool true):=z0a gp rfl
 have p2:w8.cell? ⟨N2,2,none⟩=some (.bool false):=z0a gp rfl
 have p3:w8.cell? ⟨N2,3,none⟩=some (.bool true):=z0a gp rfl
 have p4:w8.cell? ⟨N2,4,none⟩=some (.bool false):=z0a gp rfl
 have p5:w8.cell? ⟨N2,5,none⟩=some (.bool false):=z0a gp rfl
 obtain⟨c0,c1,c2,c3,c4,c5,c6,c7,c8,c9⟩:=HGX.out.at
 rw [hk] at c0
 clear gp
 go_wp2_with fail
 have hbx:((((([]:List Nat)++le ((3:Int)).toNat 1)++le r.tx.toNat 4)++keyB (r.ka,r.kb,r.kc))++le (u64 r.d) 8)=z0o (r.x L T M):=by
  unfold z0o
  rw [show ((r.x L T M)).k=3 from hk]
  simp [kS,kT,kB,kA,kO,kP,Rv.x,List.append_assoc]
 have hlx:(z0o (r.x L T M)).length≤100000:=by rw [← hbx];simp only [List.length_append,List.length_nil,List.length_cons,z0r,keyB];omega
 have HKz:Hid (WrOk w3 w8 Bw 512 (0,z0o (r.x L T M))):=hid (by rw [← hbx];exact HK8.out)
 clear hbx HK8
 generalize z0o (r.x L T M)=Z at *
 refine (z3u w3 w8 Bw 512 Z HKz.out hlx).mono ?_
 rintro e w9 ⟨pz',cz,rfl,hbz,hsz,_⟩
 have HF:Hid (z3v W Z (.returned (.tuple #[.slice pz' Z.length cz,.int .i64 0])) w9):=hid ⟨pz',cz,rfl,hsz,HB3.out.trans (hbz.mono HB3.out.size)⟩
 clear hbz hsz hlx
 generalize Z.length=nz at *
 clear p0 p1 p2 p3 p4 p5 c0 c1 c2 c3 c4 c5 c6 c7 c8 c9 HGX
 go_wp2_with fail
 go_ret2
 exact HF.out
theorem rec_write4 (r:Rv) (L:List Ln) (T:List Tk) (M:List Ln) (W:World) (hok:Rxok (r.x L T M)) (hk:r.k=4):Calls Tryz.prog 84 #[.agg (rcs r)] W (z3v W (z0o (r.x L T M))):=by
 obtain⟨W1,hW1,hb1⟩:∃ W1,W.alloc (.cells (rcs r) 51)=W1∧Below W.heap.size W W1:=⟨_,rfl,(Below.refl _ _).alloc (Nat.le_refl _) _⟩
 obtain⟨B,hB⟩:∃ B,W.heap.size=B:=⟨_,rfl⟩
 have hrb:=RB.new W r
 rw [hW1,hB] at hrb
 have HX1:=hid hrb
 have HW1:=hid hW1
 have HB1:=hid hb1
 have HRE:=hid hB
 have c0:W1.cell? ⟨B,0,none⟩=some (.int .u8 r.k):=z0a hrb rfl
 rw [hk] at c0
 clear hW1 hb1 hB hrb
 have HOK:=hid hok
 have u1:=z0x hok.sg
 have u2:=z0x hok.tx
 have u3:IntKind.u64.wrap r.st=r.st:=z0x ⟨hok.st.1,Int.le_trans hok.st.2 (by decide)⟩
 have u4:IntKind.u64.wrap r.o=r.o:=z0x ⟨hok.o.1,Int.le_trans hok.o.2 (by decide)⟩
 change IntKind.u64.wrap r.sg=r.sg at u1
 change IntKind.u64.wrap r.tx=r.tx at u2
 have hpa:=z1m 4 W1
 unfold z1k at hpa
 rw [show ptc 4=#[.bool false,.bool true,.bool false,.bool false,.bool false,.bool false] from rfl] at hpa
 clear hok
 go_enter Tryz.func84,Tryz.ntmps84
 go_upto_region 1 with (fail)
 rw [HW1.out,HRE.out]
 go_wp2_with fail
 refine hpa.mono ?_
 rintro e w2 ⟨rfl,h2⟩
 have HB2:=hid (HB1.out.trans (h2.mono HB1.out.size))
 have HX2:=hid (HX1.out.later h2)
 clear h2 hpa c0
 obtain⟨N2,hN2⟩:∃ n,w2.heap.size=n:=⟨_,rfl⟩
 obtain⟨w3,hwn,hxn,hbn⟩:∃ w3,(w2.alloc (.cells pz 194)).setRow N2 #[.bool false,.bool true,.bool false,.bool false,.bool false,.bool false]=w3∧w3.heap[N2]?=some (.cells #[.bool false,.bool true,.bool false,.bool false,.bool false,.bool false] 194 (0,0))∧Below w2.heap.size w2 w3:=⟨_,rfl,by rw [← hN2];exact setRow_heap _ _ _ _ _ _ (z0b w2 _),below_setRow ((Below.refl _ _).alloc (Nat.le_refl _) _) (by omega) _⟩
 have hx2:=z0b w2 (.cells pz 194)
 rw [hN2] at hx2
 have HPX:=hid hxn
 have HPZ:=hid hx2
 have HBN:=hid hbn
 have HWN:=hid hwn
 have HNN:=hid hN2
 have HS6:Hid ((#[.bool false,.bool true,.bool false,.bool false,.bool false,.bool false]:Array Value).size=6):=hid rfl
 have HA6:Hid ((#[.bool false,.bool true,.bool false,.bool false,.bool false,.bool false]:Array Value).all (·.oneCell')=true):=hid (by simp [Value.oneCell'])
 clear hx2 hxn hbn hwn hN2
 have HB3:=hid (HB2.out.trans (HBN.out.mono HB2.out.size))
 have HX3:=hid (HX2.out.later HBN.out)
 go_wp2_with ((try rw [HNN.out]);(with_reducible refine z0l #[.bool false,.bool true,.bool false,.bool false,.bool false,.bool false] HS6.out HA6.out HPZ.out ?_ ?_ ?_);rfl;rfl;rw [HWN.out])
 refine (z6v w3 w3 512 (Below.refl _ _)).mono ?_
 rintro e w4 ⟨Bw,rfl,hkk⟩
 rw [show lim 512=512 from rfl] at hkk
 have HK4:=hid hkk
 clear hkk
 have gp:=z0c HPX.out HK4.out.below
 have HGX:=hid (HX3.out.later HK4.out.below)
 have p0:w4.cell? ⟨N2,0,none⟩=some (.bool false):=z0a gp rfl
 have p1:w4.cell? ⟨N2,1,none⟩=some (.bool true):=z0a gp rfl
 have p2:w4.cell? ⟨N2,2,none⟩=some (.bool false):=z0a gp rfl
 have p3:w4.cell? ⟨N2,3,none⟩=some (.bool false):=z0a gp rfl
 have p4:w4.cell? ⟨N2,4,none⟩=some (.bool false):=z0a gp rfl
 have p5:w4.cell? ⟨N2,5,none⟩=some (.bool false):=z0a gp rfl
 obtain⟨c0,c1,c2,c3,c4,c5,c6,c7,c8,c9⟩:=HGX.out.at
 rw [hk] at c0
 clear gp
 go_wp2_with fail
 refine (z4v HK4.out 4 (by omega) (by simp)).mono ?_
 rintro e w5 ⟨rfl,hkk⟩
 have HK5:=hid hkk
 clear hkk HK4
 clear p0 p1 p2 p3 p4 p5 c0 c1 c2 c3 c4 c5 c6 c7 c8 c9 HGX
 have gp:=z0c HPX.out HK5.out.below
 have HGX:=hid (HX3.out.later HK5.out.below)
 have p0:w5.cell? ⟨N2,0,none⟩=some (.bool false):=z0a gp rfl
 have p1:w5.cell? ⟨N2,1,none⟩=some (.bool true):=z0a gp rfl
 have p2:w5.cell? ⟨N2,2,none⟩=some (.bool false):=z0a gp rfl
 have p3:w5.cell? ⟨N2,3,none⟩=some (.bool false):=z0a gp rfl
 have p4:w5.cell? ⟨N2,4,none⟩=some (.bool false):=z0a gp rfl
 have p5:w5.cell? ⟨N2,5,none⟩=some (.bool false):=z0a gp rfl
 obtain⟨c0,c1,c2,c3,c4,c5,c6,c7,c8,c9⟩:=HGX.out.at
 rw [hk] at c0
 clear gp
 go_wp2_with fail
 refine (z5j HK5.out r.tx HOK.out.tx (by simp only [List.length_append,List.length_nil,z0r];omega)).mono ?_
 rintro e w6 ⟨rfl,hkk⟩
 have HK6:=hid hkk
 clear hkk HK5
 clear p0 p1 p2 p3 p4 p5 c0 c1 c2 c3 c4 c5 c6 c7 c8 c9 HGX
 have gp:=z0c HPX.out HK6.out.below
 have HGX:=hid (HX3.out.later HK6.out.below)
 have p0:w6.cell? ⟨N2,0,none⟩=some (.bool false):=z0a gp rfl
 have p1:w6.cell? ⟨N2,1,none⟩=some (.bool true):=z0a gp rfl
 have p2:w6.cell? ⟨N2,2,none⟩=some (.bool false):=z0a gp rfl
 have p3:w6.cell? ⟨N2,3,none⟩=some (.bool false):=z0a gp rfl
 have p4:w6.cell? ⟨N2,4,none⟩=some (.bool false):=z0a gp rfl
 have p5:w6.cell? ⟨N2,5,none⟩=some (.bool false):=z0a gp rfl
 obtain⟨c0,c1,c2,c3,c4,c5,c6,c7,c8,c9⟩:=HGX.out.at
 rw [hk] at c0
 clear gp
 go_wp2_with fail
 have hbx:((([]:List Nat)++le ((4:Int)).toNat 1)++le r.tx.toNat 4)=z0o (r.x L T M):=by
  unfold z0o
  rw [show ((r.x L T M)).k=4 from hk]
  simp [kS,kT,kB,kA,kO,kP,Rv.x,List.append_assoc]
 have hlx:(z0o (r.x L T M)).length≤100000:=by rw [← hbx];simp only [List.length_append,List.length_nil,List.length_cons,z0r,keyB];omega
 have HKz:Hid (WrOk w3 w6 Bw 512 (0,z0o (r.x L T M))):=hid (by rw [← hbx];exact HK6.out)
 clear hbx HK6
 generalize z0o (r.x L T M)=Z at *
 refine (z3u w3 w6 Bw 512 Z HKz.out hlx).mono ?_
 rintro e w7 ⟨pz',cz,rfl,hbz,hsz,_⟩
 have HF:Hid (z3v W Z (.returned (.tuple #[.slice pz' Z.length cz,.int .i64 0])) w7):=hid ⟨pz',cz,rfl,hsz,HB3.out.trans (hbz.mono HB3.out.size)⟩
 clear hbz hsz hlx
 generalize Z.length=nz at *
 clear p0 p1 p2 p3 p4 p5 c0 c1 c2 c3 c4 c5 c6 c7 c8 c9 HGX
 go_wp2_with fail
 go_ret2
 exact HF.out
theorem rec_write5 (r:Rv) (L:List Ln) (T:List Tk) (M:List Ln) (W:World) (hok:Rxok (r.x L T M)) (hk:r.k=5):Calls Tryz.prog 84 #[.agg (rcs r)] W (z3v W (z0o (r.x L T M))):=by
 obtain⟨W1,hW1,hb1⟩:∃ W1,W.alloc (.cells (rcs r) 51)=W1∧Below W.heap.size W W1:=⟨_,rfl,(Below.refl _ _).alloc (Nat.le_refl _) _⟩
 obtain⟨B,hB⟩:∃ B,W.heap.size=B:=⟨_,rfl⟩
 have hrb:=RB.new W r
 rw [hW1,hB] at hrb
 have HX1:=hid hrb
 have HW1:=hid hW1
 have HB1:=hid hb1
 have HRE:=hid hB
 have c0:W1.cell? ⟨B,0,none⟩=some (.int .u8 r.k):=z0a hrb rfl
 rw [hk] at c0
 clear hW1 hb1 hB hrb
 have HOK:=hid hok
 have u1:=z0x hok.sg
 have u2:=z0x hok.tx
 have u3:IntKind.u64.wrap r.st=r.st:=z0x ⟨hok.st.1,Int.le_trans hok.st.2 (by decide)⟩
 have u4:IntKind.u64.wrap r.o=r.o:=z0x ⟨hok.o.1,Int.le_trans hok.o.2 (by decide)⟩
 change IntKind.u64.wrap r.sg=r.sg at u1
 change IntKind.u64.wrap r.tx=r.tx at u2
 have hpa:=z1m 5 W1
 unfold z1k at hpa
 rw [show ptc 5=#[.bool false,.bool true,.bool false,.bool false,.bool false,.bool false] from rfl] at hpa
 clear hok
 go_enter Tryz.func84,Tryz.ntmps84
 go_upto_region 1 with (fail)
 rw [HW1.out,HRE.out]
 go_wp2_with fail
 refine hpa.mono ?_
 rintro e w2 ⟨rfl,h2⟩
 have HB2:=hid (HB1.out.trans (h2.mono HB1.out.size))
 have HX2:=hid (HX1.out.later h2)
 clear h2 hpa c0
 obtain⟨N2,hN2⟩:∃ n,w2.heap.size=n:=⟨_,rfl⟩
 obtain⟨w3,hwn,hxn,hbn⟩:∃ w3,(w2.alloc (.cells pz 194)).setRow N2 #[.bool false,.bool true,.bool false,.bool false,.bool false,.bool false]=w3∧w3.heap[N2]?=some (.cells #[.bool false,.bool true,.bool false,.bool false,.bool false,.bool false] 194 (0,0))∧Below w2.heap.size w2 w3:=⟨_,rfl,by rw [← hN2];exact setRow_heap _ _ _ _ _ _ (z0b w2 _),below_setRow ((Below.refl _ _).alloc (Nat.le_refl _) _) (by omega) _⟩
 have hx2:=z0b w2 (.cells pz 194)
 rw [hN2] at hx2
 have HPX:=hid hxn
 have HPZ:=hid hx2
 have HBN:=hid hbn
 have HWN:=hid hwn
 have HNN:=hid hN2
 have HS6:Hid ((#[.bool false,.bool true,.bool false,.bool false,.bool false,.bool false]:Array Value).size=6):=hid rfl
 have HA6:Hid ((#[.bool false,.bool true,.bool false,.bool false,.bool false,.bool false]:Array Value).all (·.oneCell')=true):=hid (by simp [Value.oneCell'])
 clear hx2 hxn hbn hwn hN2
 have HB3:=hid (HB2.out.trans (HBN.out.mono HB2.out.size))
 have HX3:=hid (HX2.out.later HBN.out)
 go_wp2_with ((try rw [HNN.out]);(with_reducible refine z0l #[.bool false,.bool true,.bool false,.bool false,.bool false,.bool false] HS6.out HA6.out HPZ.out ?_ ?_ ?_);rfl;rfl;rw [HWN.out])
 refine (z6v w3 w3 512 (Below.refl _ _)).mono ?_
 rintro e w4 ⟨Bw,rfl,hkk⟩
 rw [show lim 512=512 from rfl] at hkk
 have HK4:=hid hkk
 clear hkk
 have gp:=z0c HPX.out HK4.out.below
 have HGX:=hid (HX3.out.later HK4.out.below)
 have p0:w4.cell? ⟨N2,0,none⟩=some (.bool false):=z0a gp rfl
 have p1:w4.cell? ⟨N2,1,none⟩=some (.bool true):=z0a gp rfl
 have p2:w4.cell? ⟨N2,2,none⟩=some (.bool false):=z0a gp rfl
 have p3:w4.cell? ⟨N2,3,none⟩=some (.bool false):=z0a gp rfl
 have p4:w4.cell? ⟨N2,4,none⟩=some (.bool false):=z0a gp rfl
 have p5:w4.cell? ⟨N2,5,none⟩=some (.bool false):=z0a gp rfl
 obtain⟨c0,c1,c2,c3,c4,c5,c6,c7,c8,c9⟩:=HGX.out.at
 rw [hk] at c0
 clear gp
 go_wp2_with fail
 refine (z4v HK4.out 5 (by omega) (by simp)).mono ?_
 rintro e w5 ⟨rfl,hkk⟩
 have HK5:=hid hkk
 clear hkk HK4
 clear p0 p1 p2 p3 p4 p5 c0 c1 c2 c3 c4 c5 c6 c7 c8 c9 HGX
 have gp:=z0c HPX.out HK5.out.below
 have HGX:=hid (HX3.out.later HK5.out.below)
 have p0:w5.cell? ⟨N2,0,none⟩=some (.bool false):=z0a gp rfl
 have p1:w5.cell? ⟨N2,1,none⟩=some (.bool true):=z0a gp rfl
 have p2:w5.cell? ⟨N2,2,none⟩=some (.bool false):=z0a gp rfl
 have p3:w5.cell? ⟨N2,3,none⟩=some (.bool false):=z0a gp rfl
 have p4:w5.cell? ⟨N2,4,none⟩=some (.bool false):=z0a gp rfl
 have p5:w5.cell? ⟨N2,5,none⟩=some (.bool false):=z0a gp rfl
 obtain⟨c0,c1,c2,c3,c4,c5,c6,c7,c8,c9⟩:=HGX.out.at
 rw [hk] at c0
 clear gp
 go_wp2_with fail
 refine (z5j HK5.out r.tx HOK.out.tx (by simp only [List.length_append,List.length_nil,z0r];omega)).mono ?_
 rintro e w6 ⟨rfl,hkk⟩
 have HK6:=hid hkk
 clear hkk HK5
 clear p0 p1 p2 p3 p4 p5 c0 c1 c2 c3 c4 c5 c6 c7 c8 c9 HGX
 have gp:=z0c HPX.out HK6.out.below
 have HGX:=hid (HX3.out.later HK6.out.below)
 have p0:w6.cell? ⟨N2,0,none⟩=some (.bool false):=z0a gp rfl
 have p1:w6.cell? ⟨N2,1,none⟩=some (.bool true):=z0a gp rfl
 have p2:w6.cell? ⟨N2,2,none⟩=some (.bool false):=z0a gp rfl
 have p3:w6.cell? ⟨N2,3,none⟩=some (.bool false):=z0a gp rfl
 have p4:w6.cell? ⟨N2,4,none⟩=some (.bool false):=z0a gp rfl
 have p5:w6.cell? ⟨N2,5,none⟩=some (.bool false):=z0a gp rfl
 obtain⟨c0,c1,c2,c3,c4,c5,c6,c7,c8,c9⟩:=HGX.out.at
 rw [hk] at c0
 clear gp
 go_wp2_with fail
 have hbx:((([]:List Nat)++le ((5:Int)).toNat 1)++le r.tx.toNat 4)=z0o (r.x L T M):=by
  unfold z0o
  rw [show ((r.x L T M)).k=5 from hk]
  simp [kS,kT,kB,kA,kO,kP,Rv.x,List.append_assoc]
 have hlx:(z0o (r.x L T M)).length≤100000:=by rw [← hbx];simp only [List.length_append,List.length_nil,List.length_cons,z0r,keyB];omega
 have HKz:Hid (WrOk w3 w6 Bw 512 (0,z0o (r.x L T M))):=hid (by rw [← hbx];exact HK6.out)
 clear hbx HK6
 generalize z0o (r.x L T M)=Z at *
 refine (z3u w3 w6 Bw 512 Z HKz.out hlx).mono ?_
 rintro e w7 ⟨pz',cz,rfl,hbz,hsz,_⟩
 have HF:Hid (z3v W Z (.returned (.tuple #[.slice pz' Z.length cz,.int .i64 0])) w7):=hid ⟨pz',cz,rfl,hsz,HB3.out.trans (hbz.mono HB3.out.size)⟩
 clear hbz hsz hlx
 generalize Z.length=nz at *
 clear p0 p1 p2 p3 p4 p5 c0 c1 c2 c3 c4 c5 c6 c7 c8 c9 HGX
 go_wp2_with fail
 go_ret2
 exact HF.out
theorem rec_write6 (r:Rv) (L:List Ln) (T:List Tk) (M:List Ln) (W:World) (hok:Rxok (r.x L T M)) (hk:r.k=6):Calls Tryz.prog 84 #[.agg (rcs r)] W (z3v W (z0o (r.x L T M))):=by
 obtain⟨W1,hW1,hb1⟩:∃ W1,W.alloc (.cells (rcs r) 51)=W1∧Below W.heap.size W W1:=⟨_,rfl,(Below.refl _ _).alloc (Nat.le_refl _) _⟩
 obtain⟨B,hB⟩:∃ B,W.heap.size=B:=⟨_,rfl⟩
 have hrb:=RB.new W r
 rw [hW1,hB] at hrb
 have HX1:=hid hrb
 have HW1:=hid hW1
 have HB1:=hid hb1
 have HRE:=hid hB
 have c0:W1.cell? ⟨B,0,none⟩=some (.int .u8 r.k):=z0a hrb rfl
 rw [hk] at c0
 clear hW1 hb1 hB hrb
 have HOK:=hid hok
 have u1:=z0x hok.sg
 have u2:=z0x hok.tx
 have u3:IntKind.u64.wrap r.st=r.st:=z0x ⟨hok.st.1,Int.le_trans hok.st.2 (by decide)⟩
 have u4:IntKind.u64.wrap r.o=r.o:=z0x ⟨hok.o.1,Int.le_trans hok.o.2 (by decide)⟩
 change IntKind.u64.wrap r.sg=r.sg at u1
 change IntKind.u64.wrap r.tx=r.tx at u2
 have hpa:=z1m 6 W1
 unfold z1k at hpa
 rw [show ptc 6=#[.bool false,.bool true,.bool false,.bool true,.bool false,.bool false] from rfl] at hpa
 clear hok
 go_enter Tryz.func84,Tryz.ntmps84
 go_upto_region 1 with (fail)
 rw [HW1.out,HRE.out]
 go_wp2_with fail
 refine hpa.mono ?_
 rintro e w2 ⟨rfl,h2⟩
 have HB2:=hid (HB1.out.trans (h2.mono HB1.out.size))
 have HX2:=hid (HX1.out.later h2)
 clear h2 hpa c0
 obtain⟨N2,hN2⟩:∃ n,w2.heap.size=n:=⟨_,rfl⟩
 obtain⟨w3,hwn,hxn,hbn⟩:∃ w3,(w2.alloc (.cells pz 194)).setRow N2 #[.bool false,.bool true,.bool false,.bool true,.bool false,.bool false]=w3∧w3.heap[N2]?=some (.cells #[.bool false,.bool true,.bool false,.bool true,.bool false,.bool false] 194 (0,0))∧Below w2.heap.size w2 w3:=⟨_,rfl,by rw [← hN2];exact setRow_heap _ _ _ _ _ _ (z0b w2 _),below_setRow ((Below.refl _ _).alloc (Nat.le_refl _) _) (by omega) _⟩
 have hx2:=z0b w2 (.cells pz 194)
 rw [hN2] at hx2
 have HPX:=hid hxn
 have HPZ:=hid hx2
 have HBN:=hid hbn
 have HWN:=hid hwn
 have HNN:=hid hN2
 have HS6:Hid ((#[.bool false,.bool true,.bool false,.bool true,.bool false,.bool false]:Array Value).size=6):=hid rfl
 have HA6:Hid ((#[.bool false,.bool true,.bool false,.bool true,.bool false,.bool false]:Array Value).all (·.oneCell')=true):=hid (by simp [Value.oneCell'])
 clear hx2 hxn hbn hwn hN2
 have HB3:=hid (HB2.out.trans (HBN.out.mono HB2.out.size))
 have HX3:=hid (HX2.out.later HBN.out)
 go_wp2_with ((try rw [HNN.out]);(with_reducible refine z0l #[.bool false,.bool true,.bool false,.bool true,.bool false,.bool false] HS6.out HA6.out HPZ.out ?_ ?_ ?_);rfl;rfl;rw [HWN.out])
 refine (z6v w3 w3 512 (Below.refl _ _)).mono ?_
 rintro e w4 ⟨Bw,rfl,hkk⟩
 rw [show lim 512=512 from rfl] at hkk
 have HK4:=hid hkk
 clear hkk
 have gp:=z0c HPX.out HK4.out.below
 have HGX:=hid (HX3.out.later HK4.out.below)
 have p0:w4.cell? ⟨N2,0,none⟩=some (.bool false):=z0a gp rfl
 have p1:w4.cell? ⟨N2,1,none⟩=some (.bool true):=z0a gp rfl
 have p2:w4.cell? ⟨N2,2,none⟩=some (.bool false):=z0a gp rfl
 have p3:w4.cell? ⟨N2,3,none⟩=some (.bool true):=z0a gp rfl
 have p4:w4.cell? ⟨N2,4,none⟩=some (.bool false):=z0a gp rfl
 have p5:w4.cell? ⟨N2,5,none⟩=some (.bool false):=z0a gp rfl
 obtain⟨c0,c1,c2,c3,c4,c5,c6,c7,c8,c9⟩:=HGX.out.at
 rw [hk] at c0
 clear gp
 go_wp2_with fail
 refine (z4v HK4.out 6 (by omega) (by simp)).mono ?_
 rintro e w5 ⟨rfl,hkk⟩
 have HK5:=hid hkk
 clear hkk HK4
 clear p0 p1 p2 p3 p4 p5 c0 c1 c2 c3 c4 c5 c6 c7 c8 c9 HGX
 have gp:=z0c HPX.out HK5.out.below
 have HGX:=hid (HX3.out.later HK5.out.below)
 have p0:w5.cell? ⟨N2,0,none⟩=some (.bool false):=z0a gp rfl
 have p1:w5.cell? ⟨N2,1,none⟩=some (.bool true):=z0a gp rfl
 have p2:w5.cell? ⟨N2,2,none⟩=some (.bool false):=z0a gp rfl
 have p3:w5.cell? ⟨N2,3,none⟩=some (.bool true):=z0a gp rfl
 have p4:w5.cell? ⟨N2,4,none⟩=some (.bool false):=z0a gp rfl
 have p5:w5.cell? ⟨N2,5,none⟩=some (.bool false):=z0a gp rfl
 obtain⟨c0,c1,c2,c3,c4,c5,c6,c7,c8,c9⟩:=HGX.out.at
 rw [hk] at c0
 clear gp
 go_wp2_with fail
 refine (z5j HK5.out r.tx HOK.out.tx (by simp only [List.length_append,List.length_nil,z0r];omega)).mono ?_
 rintro e w6 ⟨rfl,hkk⟩
 have HK6:=hid hkk
 clear hkk HK5
 clear p0 p1 p2 p3 p4 p5 c0 c1 c2 c3 c4 c5 c6 c7 c8 c9 HGX
 have gp:=z0c HPX.out HK6.out.below
 have HGX:=hid (HX3.out.later HK6.out.below)
 have p0:w6.cell? ⟨N2,0,none⟩=some (.bool false):=z0a gp rfl
 have p1:w6.cell? ⟨N2,1,none⟩=some (.bool true):=z0a gp rfl
 have p2:w6.cell? ⟨N2,2,none⟩=some (.bool false):=z0a gp rfl
 have p3:w6.cell? ⟨N2,3,none⟩=some (.bool true):=z0a gp rfl
 have p4:w6.cell? ⟨N2,4,none⟩=some (.bool false):=z0a gp rfl
 have p5:w6.cell? ⟨N2,5,none⟩=some (.bool false):=z0a gp rfl
 obtain⟨c0,c1,c2,c3,c4,c5,c6,c7,c8,c9⟩:=HGX.out.at
 rw [hk] at c0
 clear gp
 go_wp2_with fail
 have HKb:=hid (HK6.out.later (Chg.of_below (S:=fun _=>False) ((Below.refl w6.heap.size w6).alloc (Nat.le_refl _) (.cells #[.int .u8 r.ka,.int .u8 r.kb,.int .u8 r.kc] 5))))
 refine (wo_raw HKb.out (some ⟨w6.heap.size,0,none⟩) 3 3 (keyB (r.ka,r.kb,r.kc)) (sl_three r.ka r.kb r.kc HOK.out.key.1 HOK.out.key.2.1 HOK.out.key.2.2 w6) (by simp only [List.length_append,List.length_nil,z0r];omega)).mono ?_
 rintro e w7 ⟨rfl,hkk⟩
 have HK7:=hid hkk
 clear hkk HK6 HKb
 clear p0 p1 p2 p3 p4 p5 c0 c1 c2 c3 c4 c5 c6 c7 c8 c9 HGX
 have gp:=z0c HPX.out HK7.out.below
 have HGX:=hid (HX3.out.later HK7.out.below)
 have p0:w7.cell? ⟨N2,0,none⟩=some (.bool false):=z0a gp rfl
 have p1:w7.cell? ⟨N2,1,none⟩=some (.bool true):=z0a gp rfl
 have p2:w7.cell? ⟨N2,2,none⟩=some (.bool false):=z0a gp rfl
 have p3:w7.cell? ⟨N2,3,none⟩=some (.bool true):=z0a gp rfl
 have p4:w7.cell? ⟨N2,4,none⟩=some (.bool false):=z0a gp rfl
 have p5:w7.cell? ⟨N2,5,none⟩=some (.bool false):=z0a gp rfl
 obtain⟨c0,c1,c2,c3,c4,c5,c6,c7,c8,c9⟩:=HGX.out.at
 rw [hk] at c0
 clear gp
 go_wp2_with fail
 refine (wo_int HK7.out r.d HOK.out.d (by simp only [List.length_append,List.length_nil,z0r,keyB,List.length_cons];omega)).mono ?_
 rintro e w8 ⟨rfl,hkk⟩
 have HK8:=hid hkk
 clear hkk HK7
 clear p0 p1 p2 p3 p4 p5 c0 c1 c2 c3 c4 c5 c6 c7 c8 c9 HGX
 have gp:=z0c HPX.out HK8.out.below
 have HGX:=hid (HX3.out.later HK8.out.below)
 have p0:w8.cell? ⟨N2,0,none⟩=some (.bool false):=z0a gp rfl
 have p1:w8.cell? ⟨N2,1,none⟩=some (.bool true):=z0a gp rfl
 have p2:w8.cell? ⟨N2,2,none⟩=some (.bool false):=z0a gp rfl
 have p3:w8.cell? ⟨N2,3,none⟩=some (.bool true):=z0a gp rfl
 have p4:w8.cell? ⟨N2,4,none⟩=some (.bool false):=z0a gp rfl
 have p5:w8.cell? ⟨N2,5,none⟩=some (.bool false):=z0a gp rfl
 obtain⟨c0,c1,c2,c3,c4,c5,c6,c7,c8,c9⟩:=HGX.out.at
 rw [hk] at c0
 clear gp
 go_wp2_with fail
 have hbx:((((([]:List Nat)++le ((6:Int)).toNat 1)++le r.tx.toNat 4)++keyB (r.ka,r.kb,r.kc))++le (u64 r.d) 8)=z0o (r.x L T M):=by
  unfold z0o
  rw [show ((r.x L T M)).k=6 from hk]
  simp [kS,kT,kB,kA,kO,kP,Rv.x,List.append_assoc]
 have hlx:(z0o (r.x L T M)).length≤100000:=by rw [← hbx];simp only [List.length_append,List.length_nil,List.length_cons,z0r,keyB];omega
 have HKz:Hid (WrOk w3 w8 Bw 512 (0,z0o (r.x L T M))):=hid (by rw [← hbx];exact HK8.out)
 clear hbx HK8
 generalize z0o (r.x L T M)=Z at *
 refine (z3u w3 w8 Bw 512 Z HKz.out hlx).mono ?_
 rintro e w9 ⟨pz',cz,rfl,hbz,hsz,_⟩
 have HF:Hid (z3v W Z (.returned (.tuple #[.slice pz' Z.length cz,.int .i64 0])) w9):=hid ⟨pz',cz,rfl,hsz,HB3.out.trans (hbz.mono HB3.out.size)⟩
 clear hbz hsz hlx
 generalize Z.length=nz at *
 clear p0 p1 p2 p3 p4 p5 c0 c1 c2 c3 c4 c5 c6 c7 c8 c9 HGX
 go_wp2_with fail
 go_ret2
 exact HF.out
theorem rec_write7 (r:Rv) (L:List Ln) (T:List Tk) (M:List Ln) (W:World) (hok:Rxok (r.x L T M)) (hk:r.k=7):Calls Tryz.prog 84 #[.agg (rcs r)] W (z3v W (z0o (r.x L T M))):=by
 obtain⟨W1,hW1,hb1⟩:∃ W1,W.alloc (.cells (rcs r) 51)=W1∧Below W.heap.size W W1:=⟨_,rfl,(Below.refl _ _).alloc (Nat.le_refl _) _⟩
 obtain⟨B,hB⟩:∃ B,W.heap.size=B:=⟨_,rfl⟩
 have hrb:=RB.new W r
 rw [hW1,hB] at hrb
 have HX1:=hid hrb
 have HW1:=hid hW1
 have HB1:=hid hb1
 have HRE:=hid hB
 have c0:W1.cell? ⟨B,0,none⟩=some (.int .u8 r.k):=z0a hrb rfl
 rw [hk] at c0
 clear hW1 hb1 hB hrb
 have HOK:=hid hok
 have u1:=z0x hok.sg
 have u2:=z0x hok.tx
 have u3:IntKind.u64.wrap r.st=r.st:=z0x ⟨hok.st.1,Int.le_trans hok.st.2 (by decide)⟩
 have u4:IntKind.u64.wrap r.o=r.o:=z0x ⟨hok.o.1,Int.le_trans hok.o.2 (by decide)⟩
 change IntKind.u64.wrap r.sg=r.sg at u1
 change IntKind.u64.wrap r.tx=r.tx at u2
 have hpa:=z1m 7 W1
 unfold z1k at hpa
 rw [show ptc 7=#[.bool false,.bool true,.bool false,.bool false,.bool false,.bool false] from rfl] at hpa
 clear hok
 go_enter Tryz.func84,Tryz.ntmps84
 go_upto_region 1 with (fail)
 rw [HW1.out,HRE.out]
 go_wp2_with fail
 refine hpa.mono ?_
 rintro e w2 ⟨rfl,h2⟩
 have HB2:=hid (HB1.out.trans (h2.mono HB1.out.size))
 have HX2:=hid (HX1.out.later h2)
 clear h2 hpa c0
 obtain⟨N2,hN2⟩:∃ n,w2.heap.size=n:=⟨_,rfl⟩
 obtain⟨w3,hwn,hxn,hbn⟩:∃ w3,(w2.alloc (.cells pz 194)).setRow N2 #[.bool false,.bool true,.bool false,.bool false,.bool false,.bool false]=w3∧w3.heap[N2]?=some (.cells #[.bool false,.bool true,.bool false,.bool false,.bool false,.bool false] 194 (0,0))∧Below w2.heap.size w2 w3:=⟨_,rfl,by rw [← hN2];exact setRow_heap _ _ _ _ _ _ (z0b w2 _),below_setRow ((Below.refl _ _).alloc (Nat.le_refl _) _) (by omega) _⟩
 have hx2:=z0b w2 (.cells pz 194)
 rw [hN2] at hx2
 have HPX:=hid hxn
 have HPZ:=hid hx2
 have HBN:=hid hbn
 have HWN:=hid hwn
 have HNN:=hid hN2
 have HS6:Hid ((#[.bool false,.bool true,.bool false,.bool false,.bool false,.bool false]:Array Value).size=6):=hid rfl
 have HA6:Hid ((#[.bool false,.bool true,.bool false,.bool false,.bool false,.bool false]:Array Value).all (·.oneCell')=true):=hid (by simp [Value.oneCell'])
 clear hx2 hxn hbn hwn hN2
 have HB3:=hid (HB2.out.trans (HBN.out.mono HB2.out.size))
 have HX3:=hid (HX2.out.later HBN.out)
 go_wp2_with ((try rw [HNN.out]);(with_reducible refine z0l #[.bool false,.bool true,.bool false,.bool false,.bool false,.bool false] HS6.out HA6.out HPZ.out ?_ ?_ ?_);rfl;rfl;rw [HWN.out])
 refine (z6v w3 w3 512 (Below.refl _ _)).mono ?_
 rintro e w4 ⟨Bw,rfl,hkk⟩
 rw [show lim 512=512 from rfl] at hkk
 have HK4:=hid hkk
 clear hkk
 have gp:=z0c HPX.out HK4.out.below
 have HGX:=hid (HX3.out.later HK4.out.below)
 have p0:w4.cell? ⟨N2,0,none⟩=some (.bool false):=z0a gp rfl
 have p1:w4.cell? ⟨N2,1,none⟩=some (.bool true):=z0a gp rfl
 have p2:w4.cell? ⟨N2,2,none⟩=some (.bool false):=z0a gp rfl
 have p3:w4.cell? ⟨N2,3,none⟩=some (.bool false):=z0a gp rfl
 have p4:w4.cell? ⟨N2,4,none⟩=some (.bool false):=z0a gp rfl
 have p5:w4.cell? ⟨N2,5,none⟩=some (.bool false):=z0a gp rfl
 obtain⟨c0,c1,c2,c3,c4,c5,c6,c7,c8,c9⟩:=HGX.out.at
 rw [hk] at c0
 clear gp
 go_wp2_with fail
 refine (z4v HK4.out 7 (by omega) (by simp)).mono ?_
 rintro e w5 ⟨rfl,hkk⟩
 have HK5:=hid hkk
 clear hkk HK4
 clear p0 p1 p2 p3 p4 p5 c0 c1 c2 c3 c4 c5 c6 c7 c8 c9 HGX
 have gp:=z0c HPX.out HK5.out.below
 have HGX:=hid (HX3.out.later HK5.out.below)
 have p0:w5.cell? ⟨N2,0,none⟩=some (.bool false):=z0a gp rfl
 have p1:w5.cell? ⟨N2,1,none⟩=some (.bool true):=z0a gp rfl
 have p2:w5.cell? ⟨N2,2,none⟩=some (.bool false):=z0a gp rfl
 have p3:w5.cell? ⟨N2,3,none⟩=some (.bool false):=z0a gp rfl
 have p4:w5.cell? ⟨N2,4,none⟩=some (.bool false):=z0a gp rfl
 have p5:w5.cell? ⟨N2,5,none⟩=some (.bool false):=z0a gp rfl
 obtain⟨c0,c1,c2,c3,c4,c5,c6,c7,c8,c9⟩:=HGX.out.at
 rw [hk] at c0
 clear gp
 go_wp2_with fail
 refine (z5j HK5.out r.tx HOK.out.tx (by simp only [List.length_append,List.length_nil,z0r];omega)).mono ?_
 rintro e w6 ⟨rfl,hkk⟩
 have HK6:=hid hkk
 clear hkk HK5
 clear p0 p1 p2 p3 p4 p5 c0 c1 c2 c3 c4 c5 c6 c7 c8 c9 HGX
 have gp:=z0c HPX.out HK6.out.below
 have HGX:=hid (HX3.out.later HK6.out.below)
 have p0:w6.cell? ⟨N2,0,none⟩=some (.bool false):=z0a gp rfl
 have p1:w6.cell? ⟨N2,1,none⟩=some (.bool true):=z0a gp rfl
 have p2:w6.cell? ⟨N2,2,none⟩=some (.bool false):=z0a gp rfl
 have p3:w6.cell? ⟨N2,3,none⟩=some (.bool false):=z0a gp rfl
 have p4:w6.cell? ⟨N2,4,none⟩=some (.bool false):=z0a gp rfl
 have p5:w6.cell? ⟨N2,5,none⟩=some (.bool false):=z0a gp rfl
 obtain⟨c0,c1,c2,c3,c4,c5,c6,c7,c8,c9⟩:=HGX.out.at
 rw [hk] at c0
 clear gp
 go_wp2_with fail
 have hbx:((([]:List Nat)++le ((7:Int)).toNat 1)++le r.tx.toNat 4)=z0o (r.x L T M):=by
  unfold z0o
  rw [show ((r.x L T M)).k=7 from hk]
  simp [kS,kT,kB,kA,kO,kP,Rv.x,List.append_assoc]
 have hlx:(z0o (r.x L T M)).length≤100000:=by rw [← hbx];simp only [List.length_append,List.length_nil,List.length_cons,z0r,keyB];omega
 have HKz:Hid (WrOk w3 w6 Bw 512 (0,z0o (r.x L T M))):=hid (by rw [← hbx];exact HK6.out)
 clear hbx HK6
 generalize z0o (r.x L T M)=Z at *
 refine (z3u w3 w6 Bw 512 Z HKz.out hlx).mono ?_
 rintro e w7 ⟨pz',cz,rfl,hbz,hsz,_⟩
 have HF:Hid (z3v W Z (.returned (.tuple #[.slice pz' Z.length cz,.int .i64 0])) w7):=hid ⟨pz',cz,rfl,hsz,HB3.out.trans (hbz.mono HB3.out.size)⟩
 clear hbz hsz hlx
 generalize Z.length=nz at *
 clear p0 p1 p2 p3 p4 p5 c0 c1 c2 c3 c4 c5 c6 c7 c8 c9 HGX
 go_wp2_with fail
 go_ret2
 exact HF.out
theorem rec_write8 (r:Rv) (L:List Ln) (T:List Tk) (M:List Ln) (W:World) (hok:Rxok (r.x L T M)) (hk:r.k=8):Calls Tryz.prog 84 #[.agg (rcs r)] W (z3v W (z0o (r.x L T M))):=by
 obtain⟨W1,hW1,hb1⟩:∃ W1,W.alloc (.cells (rcs r) 51)=W1∧Below W.heap.size W W1:=⟨_,rfl,(Below.refl _ _).alloc (Nat.le_refl _) _⟩
 obtain⟨B,hB⟩:∃ B,W.heap.size=B:=⟨_,rfl⟩
 have hrb:=RB.new W r
 rw [hW1,hB] at hrb
 have HX1:=hid hrb
 have HW1:=hid hW1
 have HB1:=hid hb1
 have HRE:=hid hB
 have c0:W1.cell? ⟨B,0,none⟩=some (.int .u8 r.k):=z0a hrb rfl
 rw [hk] at c0
 clear hW1 hb1 hB hrb
 have HOK:=hid hok
 have u1:=z0x hok.sg
 have u2:=z0x hok.tx
 have u3:IntKind.u64.wrap r.st=r.st:=z0x ⟨hok.st.1,Int.le_trans hok.st.2 (by decide)⟩
 have u4:IntKind.u64.wrap r.o=r.o:=z0x ⟨hok.o.1,Int.le_trans hok.o.2 (by decide)⟩
 change IntKind.u64.wrap r.sg=r.sg at u1
 change IntKind.u64.wrap r.tx=r.tx at u2
 have hpa:=z1m 8 W1
 unfold z1k at hpa
 rw [show ptc 8=#[.bool true,.bool false,.bool false,.bool false,.bool false,.bool false] from rfl] at hpa
 clear hok
 go_enter Tryz.func84,Tryz.ntmps84
 go_upto_region 1 with (fail)
 rw [HW1.out,HRE.out]
 go_wp2_with fail
 refine hpa.mono ?_
 rintro e w2 ⟨rfl,h2⟩
 have HB2:=hid (HB1.out.trans (h2.mono HB1.out.size))
 have HX2:=hid (HX1.out.later h2)
 clear h2 hpa c0
 obtain⟨N2,hN2⟩:∃ n,w2.heap.size=n:=⟨_,rfl⟩
 obtain⟨w3,hwn,hxn,hbn⟩:∃ w3,(w2.alloc (.cells pz 194)).setRow N2 #[.bool true,.bool false,.bool false,.bool false,.bool false,.bool false]=w3∧w3.heap[N2]?=some (.cells #[.bool true,.bool false,.bool false,.bool false,.bool false,.bool false] 194 (0,0))∧Below w2.heap.size w2 w3:=⟨_,rfl,by rw [← hN2];exact setRow_heap _ _ _ _ _ _ (z0b w2 _),below_setRow ((Below.refl _ _).alloc (Nat.le_refl _) _) (by omega) _⟩
 have hx2:=z0b w2 (.cells pz 194)
 rw [hN2] at hx2
 have HPX:=hid hxn
 have HPZ:=hid hx2
 have HBN:=hid hbn
 have HWN:=hid hwn
 have HNN:=hid hN2
 have HS6:Hid ((#[.bool true,.bool false,.bool false,.bool false,.bool false,.bool false]:Array Value).size=6):=hid rfl
 have HA6:Hid ((#[.bool true,.bool false,.bool false,.bool false,.bool false,.bool false]:Array Value).all (·.oneCell')=true):=hid (by simp [Value.oneCell'])
 clear hx2 hxn hbn hwn hN2
 have HB3:=hid (HB2.out.trans (HBN.out.mono HB2.out.size))
 have HX3:=hid (HX2.out.later HBN.out)
 go_wp2_with ((try rw [HNN.out]);(with_reducible refine z0l #[.bool true,.bool false,.bool false,.bool false,.bool false,.bool false] HS6.out HA6.out HPZ.out ?_ ?_ ?_);rfl;rfl;rw [HWN.out])
 refine (z6v w3 w3 512 (Below.refl _ _)).mono ?_
 rintro e w4 ⟨Bw,rfl,hkk⟩
 rw [show lim 512=512 from rfl] at hkk
 have HK4:=hid hkk
 clear hkk
 have gp:=z0c HPX.out HK4.out.below
 have HGX:=hid (HX3.out.later HK4.out.below)
 have p0:w4.cell? ⟨N2,0,none⟩=some (.bool true):=z0a gp rfl
 have p1:w4.cell? ⟨N2,1,none⟩=some (.bool false):=z0a gp rfl
 have p2:w4.cell? ⟨N2,2,none⟩=some (.bool false):=z0a gp rfl
 have p3:w4.cell? ⟨N2,3,none⟩=some (.bool false):=z0a gp rfl
 have p4:w4.cell? ⟨N2,4,none⟩=some (.bool false):=z0a gp rfl
 have p5:w4.cell? ⟨N2,5,none⟩=some (.bool false):=z0a gp rfl
 obtain⟨c0,c1,c2,c3,c4,c5,c6,c7,c8,c9⟩:=HGX.out.at
 rw [hk] at c0
 clear gp
 go_wp2_with fail
 refine (z4v HK4.out 8 (by omega) (by simp)).mono ?_
 rintro e w5 ⟨rfl,hkk⟩
 have HK5:=hid hkk
 clear hkk HK4
 clear p0 p1 p2 p3 p4 p5 c0 c1 c2 c3 c4 c5 c6 c7 c8 c9 HGX
 have gp:=z0c HPX.out HK5.out.below
 have HGX:=hid (HX3.out.later HK5.out.below)
 have p0:w5.cell? ⟨N2,0,none⟩=some (.bool true):=z0a gp rfl
 have p1:w5.cell? ⟨N2,1,none⟩=some (.bool false):=z0a gp rfl
 have p2:w5.cell? ⟨N2,2,none⟩=some (.bool false):=z0a gp rfl
 have p3:w5.cell? ⟨N2,3,none⟩=some (.bool false):=z0a gp rfl
 have p4:w5.cell? ⟨N2,4,none⟩=some (.bool false):=z0a gp rfl
 have p5:w5.cell? ⟨N2,5,none⟩=some (.bool false):=z0a gp rfl
 obtain⟨c0,c1,c2,c3,c4,c5,c6,c7,c8,c9⟩:=HGX.out.at
 rw [hk] at c0
 clear gp
 go_wp2_with fail
 refine (z5j HK5.out r.sg HOK.out.sg (by simp only [List.length_append,List.length_nil,z0r];omega)).mono ?_
 rintro e w6 ⟨rfl,hkk⟩
 have HK6:=hid hkk
 clear hkk HK5
 clear p0 p1 p2 p3 p4 p5 c0 c1 c2 c3 c4 c5 c6 c7 c8 c9 HGX
 have gp:=z0c HPX.out HK6.out.below
 have HGX:=hid (HX3.out.later HK6.out.below)
 have p0:w6.cell? ⟨N2,0,none⟩=some (.bool true):=z0a gp rfl
 have p1:w6.cell? ⟨N2,1,none⟩=some (.bool false):=z0a gp rfl
 have p2:w6.cell? ⟨N2,2,none⟩=some (.bool false):=z0a gp rfl
 have p3:w6.cell? ⟨N2,3,none⟩=some (.bool false):=z0a gp rfl
 have p4:w6.cell? ⟨N2,4,none⟩=some (.bool false):=z0a gp rfl
 have p5:w6.cell? ⟨N2,5,none⟩=some (.bool false):=z0a gp rfl
 obtain⟨c0,c1,c2,c3,c4,c5,c6,c7,c8,c9⟩:=HGX.out.at
 rw [hk] at c0
 clear gp
 go_wp2_with fail
 have hbx:((([]:List Nat)++le ((8:Int)).toNat 1)++le r.sg.toNat 4)=z0o (r.x L T M):=by
  unfold z0o
  rw [show ((r.x L T M)).k=8 from hk]
  simp [kS,kT,kB,kA,kO,kP,Rv.x,List.append_assoc]
 have hlx:(z0o (r.x L T M)).length≤100000:=by rw [← hbx];simp only [List.length_append,List.length_nil,List.length_cons,z0r,keyB];omega
 have HKz:Hid (WrOk w3 w6 Bw 512 (0,z0o (r.x L T M))):=hid (by rw [← hbx];exact HK6.out)
 clear hbx HK6
 generalize z0o (r.x L T M)=Z at *
 refine (z3u w3 w6 Bw 512 Z HKz.out hlx).mono ?_
 rintro e w7 ⟨pz',cz,rfl,hbz,hsz,_⟩
 have HF:Hid (z3v W Z (.returned (.tuple #[.slice pz' Z.length cz,.int .i64 0])) w7):=hid ⟨pz',cz,rfl,hsz,HB3.out.trans (hbz.mono HB3.out.size)⟩
 clear hbz hsz hlx
 generalize Z.length=nz at *
 clear p0 p1 p2 p3 p4 p5 c0 c1 c2 c3 c4 c5 c6 c7 c8 c9 HGX
 go_wp2_with fail
 go_ret2
 exact HF.out
theorem rec_write9 (r:Rv) (L:List Ln) (T:List Tk) (M:List Ln) (W:World) (hok:Rxok (r.x L T M)) (hk:r.k=9):Calls Tryz.prog 84 #[.agg (rcs r)] W (z3v W (z0o (r.x L T M))):=by
 obtain⟨W1,hW1,hb1⟩:∃ W1,W.alloc (.cells (rcs r) 51)=W1∧Below W.heap.size W W1:=⟨_,rfl,(Below.refl _ _).alloc (Nat.le_refl _) _⟩
 obtain⟨B,hB⟩:∃ B,W.heap.size=B:=⟨_,rfl⟩
 have hrb:=RB.new W r
 rw [hW1,hB] at hrb
 have HX1:=hid hrb
 have HW1:=hid hW1
 have HB1:=hid hb1
 have HRE:=hid hB
 have c0:W1.cell? ⟨B,0,none⟩=some (.int .u8 r.k):=z0a hrb rfl
 rw [hk] at c0
 clear hW1 hb1 hB hrb
 have HOK:=hid hok
 have u1:=z0x hok.sg
 have u2:=z0x hok.tx
 have u3:IntKind.u64.wrap r.st=r.st:=z0x ⟨hok.st.1,Int.le_trans hok.st.2 (by decide)⟩
 have u4:IntKind.u64.wrap r.o=r.o:=z0x ⟨hok.o.1,Int.le_trans hok.o.2 (by decide)⟩
 change IntKind.u64.wrap r.sg=r.sg at u1
 change IntKind.u64.wrap r.tx=r.tx at u2
 have hpa:=z1m 9 W1
 unfold z1k at hpa
 rw [show ptc 9=#[.bool true,.bool false,.bool false,.bool false,.bool true,.bool false] from rfl] at hpa
 clear hok
 go_enter Tryz.func84,Tryz.ntmps84
 go_upto_region 1 with (fail)
 rw [HW1.out,HRE.out]
 go_wp2_with fail
 refine hpa.mono ?_
 rintro e w2 ⟨rfl,h2⟩
 have HB2:=hid (HB1.out.trans (h2.mono HB1.out.size))
 have HX2:=hid (HX1.out.later h2)
 clear h2 hpa c0
 obtain⟨N2,hN2⟩:∃ n,w2.heap.size=n:=⟨_,rfl⟩
 obtain⟨w3,hwn,hxn,hbn⟩:∃ w3,(w2.alloc (.cells pz 194)).setRow N2 #[.bool true,.bool false,.bool false,.bool false,.bool true,.bool false]=w3∧w3.heap[N2]?=some (.cells #[.bool true,.bool false,.bool false,.bool false,.bool true,.bool false] 194 (0,0))∧Below w2.heap.size w2 w3:=⟨_,rfl,by rw [← hN2];exact setRow_heap _ _ _ _ _ _ (z0b w2 _),below_setRow ((Below.refl _ _).alloc (Nat.le_refl _) _) (by omega) _⟩
 have hx2:=z0b w2 (.cells pz 194)
 rw [hN2] at hx2
 have HPX:=hid hxn
 have HPZ:=hid hx2
 have HBN:=hid hbn
 have HWN:=hid hwn
 have HNN:=hid hN2
 have HS6:Hid ((#[.bool true,.bool false,.bool false,.bool false,.bool true,.bool false]:Array Value).size=6):=hid rfl
 have HA6:Hid ((#[.bool true,.bool false,.bool false,.bool false,.bool true,.bool false]:Array Value).all (·.oneCell')=true):=hid (by simp [Value.oneCell'])
 clear hx2 hxn hbn hwn hN2
 have HB3:=hid (HB2.out.trans (HBN.out.mono HB2.out.size))
 have HX3:=hid (HX2.out.later HBN.out)
 go_wp2_with ((try rw [HNN.out]);(with_reducible refine z0l #[.bool true,.bool false,.bool false,.bool false,.bool true,.bool false] HS6.out HA6.out HPZ.out ?_ ?_ ?_);rfl;rfl;rw [HWN.out])
 refine (z6v w3 w3 512 (Below.refl _ _)).mono ?_
 rintro e w4 ⟨Bw,rfl,hkk⟩
 rw [show lim 512=512 from rfl] at hkk
 have HK4:=hid hkk
 clear hkk
 have gp:=z0c HPX.out HK4.out.below
 have HGX:=hid (HX3.out.later HK4.out.below)
 have p0:w4.cell? ⟨N2,0,none⟩=some (.bool true):=z0a gp rfl
 have p1:w4.cell? ⟨N2,1,none⟩=some (.bool false):=z0a gp rfl
 have p2:w4.cell? ⟨N2,2,none⟩=some (.bool false):=z0a gp rfl
 have p3:w4.cell? ⟨N2,3,none⟩=some (.bool false):=z0a gp rfl
 have p4:w4.cell? ⟨N2,4,none⟩=some (.bool true):=z0a gp rfl
 have p5:w4.cell? ⟨N2,5,none⟩=some (.bool false):=z0a gp rfl
 obtain⟨c0,c1,c2,c3,c4,c5,c6,c7,c8,c9⟩:=HGX.out.at
 rw [hk] at c0
 clear gp
 go_wp2_with fail
 refine (z4v HK4.out 9 (by omega) (by simp)).mono ?_
 rintro e w5 ⟨rfl,hkk⟩
 have HK5:=hid hkk
 clear hkk HK4
 clear p0 p1 p2 p3 p4 p5 c0 c1 c2 c3 c4 c5 c6 c7 c8 c9 HGX
 have gp:=z0c HPX.out HK5.out.below
 have HGX:=hid (HX3.out.later HK5.out.below)
 have p0:w5.cell? ⟨N2,0,none⟩=some (.bool true):=z0a gp rfl
 have p1:w5.cell? ⟨N2,1,none⟩=some (.bool false):=z0a gp rfl
 have p2:w5.cell? ⟨N2,2,none⟩=some (.bool false):=z0a gp rfl
 have p3:w5.cell? ⟨N2,3,none⟩=some (.bool false):=z0a gp rfl
 have p4:w5.cell? ⟨N2,4,none⟩=some (.bool true):=z0a gp rfl
 have p5:w5.cell? ⟨N2,5,none⟩=some (.bool false):=z0a gp rfl
 obtain⟨c0,c1,c2,c3,c4,c5,c6,c7,c8,c9⟩:=HGX.out.at
 rw [hk] at c0
 clear gp
 go_wp2_with fail
 refine (z5j HK5.out r.sg HOK.out.sg (by simp only [List.length_append,List.length_nil,z0r];omega)).mono ?_
 rintro e w6 ⟨rfl,hkk⟩
 have HK6:=hid hkk
 clear hkk HK5
 clear p0 p1 p2 p3 p4 p5 c0 c1 c2 c3 c4 c5 c6 c7 c8 c9 HGX
 have gp:=z0c HPX.out HK6.out.below
 have HGX:=hid (HX3.out.later HK6.out.below)
 have p0:w6.cell? ⟨N2,0,none⟩=some (.bool true):=z0a gp rfl
 have p1:w6.cell? ⟨N2,1,none⟩=some (.bool false):=z0a gp rfl
 have p2:w6.cell? ⟨N2,2,none⟩=some (.bool false):=z0a gp rfl
 have p3:w6.cell? ⟨N2,3,none⟩=some (.bool false):=z0a gp rfl
 have p4:w6.cell? ⟨N2,4,none⟩=some (.bool true):=z0a gp rfl
 have p5:w6.cell? ⟨N2,5,none⟩=some (.bool false):=z0a gp rfl
 obtain⟨c0,c1,c2,c3,c4,c5,c6,c7,c8,c9⟩:=HGX.out.at
 rw [hk] at c0
 clear gp
 go_wp2_with fail
 refine (z4v HK6.out r.o HOK.out.o (by simp only [List.length_append,List.length_nil,z0r];omega)).mono ?_
 rintro e w7 ⟨rfl,hkk⟩
 have HK7:=hid hkk
 clear hkk HK6
 clear p0 p1 p2 p3 p4 p5 c0 c1 c2 c3 c4 c5 c6 c7 c8 c9 HGX
 have gp:=z0c HPX.out HK7.out.below
 have HGX:=hid (HX3.out.later HK7.out.below)
 have p0:w7.cell? ⟨N2,0,none⟩=some (.bool true):=z0a gp rfl
 have p1:w7.cell? ⟨N2,1,none⟩=some (.bool false):=z0a gp rfl
 have p2:w7.cell? ⟨N2,2,none⟩=some (.bool false):=z0a gp rfl
 have p3:w7.cell? ⟨N2,3,none⟩=some (.bool false):=z0a gp rfl
 have p4:w7.cell? ⟨N2,4,none⟩=some (.bool true):=z0a gp rfl
 have p5:w7.cell? ⟨N2,5,none⟩=some (.bool false):=z0a gp rfl
 obtain⟨c0,c1,c2,c3,c4,c5,c6,c7,c8,c9⟩:=HGX.out.at
 rw [hk] at c0
 clear gp
 go_wp2_with fail
 have hbx:(((([]:List Nat)++le ((9:Int)).toNat 1)++le r.sg.toNat 4)++le r.o.toNat 1)=z0o (r.x L T M):=by
  unfold z0o
  rw [show ((r.x L T M)).k=9 from hk]
  simp [kS,kT,kB,kA,kO,kP,Rv.x,List.append_assoc]
 have hlx:(z0o (r.x L T M)).length≤100000:=by rw [← hbx];simp only [List.length_append,List.length_nil,List.length_cons,z0r,keyB];omega
 have HKz:Hid (WrOk w3 w7 Bw 512 (0,z0o (r.x L T M))):=hid (by rw [← hbx];exact HK7.out)
 clear hbx HK7
 generalize z0o (r.x L T M)=Z at *
 refine (z3u w3 w7 Bw 512 Z HKz.out hlx).mono ?_
 rintro e w8 ⟨pz',cz,rfl,hbz,hsz,_⟩
 have HF:Hid (z3v W Z (.returned (.tuple #[.slice pz' Z.length cz,.int .i64 0])) w8):=hid ⟨pz',cz,rfl,hsz,HB3.out.trans (hbz.mono HB3.out.size)⟩
 clear hbz hsz hlx
 generalize Z.length=nz at *
 clear p0 p1 p2 p3 p4 p5 c0 c1 c2 c3 c4 c5 c6 c7 c8 c9 HGX
 go_wp2_with fail
 go_ret2
 exact HF.out
def q1t (W:World) (X:Rx) (e:Ending) (w':World):Prop:=Below W.heap.size W w'∧if z1f X=true then ∃ p c,e=.returned (.tuple #[.slice p (z0o X).length c,.int .i64 0])∧Sl w' p (z0o X).length c (z0o X) else e=.returned (.tuple #[.slice none 0 0,.int .i64 1])
theorem rec_write_any (r:Rv) (L:List Ln) (T:List Tk) (M:List Ln) (W:World) (hok:Rxok (r.x L T M)) (hk:kOk r.k=true) (hw:Words W) (hP:RvM W r L T M) (h1:r.ln≤400∧r.tn≤400∧r.wn≤400) (hg:r.k=1→z0w 4 4 (r.pg L T M)=true):Calls Tryz.prog 84 #[.agg (rcs r)] W (z3v W (z0o (r.x L T M))):=by
 rcases z5c hk with h | h | h | h | h | h | h | h | h
 · exact rec_write1 r L T M W hok h hw hP h1 (hg h)
 · exact rec_write2 r L T M W hok h
 · exact rec_write3 r L T M W hok h
 · exact rec_write4 r L T M W hok h
 · exact rec_write5 r L T M W hok h
 · exact rec_write6 r L T M W hok h
 · exact rec_write7 r L T M W hok h
 · exact rec_write8 r L T M W hok h
 · exact rec_write9 r L T M W hok h
theorem rec_encode (r:Rv) (L:List Ln) (T:List Tk) (M:List Ln) (W:World) (hw:Words W) (hP:RvM W r L T M) (hok:Rxok (r.x L T M)) (h1:r.ln≤400∧r.tn≤400∧r.wn≤400):Calls Tryz.prog 46 #[.agg (rcs r)] W (q1t W (r.x L T M)):=by
 obtain⟨W1,hW1,hb1⟩:∃ W1,W.alloc (.cells (rcs r) 51)=W1∧Below W.heap.size W W1:=⟨_,rfl,(Below.refl _ _).alloc (Nat.le_refl _) _⟩
 obtain⟨B,hB⟩:∃ B,W.heap.size=B:=⟨_,rfl⟩
 have hrb:=RB.new W r
 rw [hW1,hB] at hrb
 have HX1:=hid hrb
 have HW1:=hid hW1
 have HB1:=hid hb1
 have HRE:=hid hB
 clear hW1 hb1 hB hrb
 have hgd:=rec_good r L T M W1 (hw.later HB1.out) (hP.later HB1.out) hok h1
 have HWR:=hid (fun (h:z1f (r.x L T M)=true) W' (hb:Below W.heap.size W W')=>rec_write_any r L T M W' hok (goodX_kOk h) (hw.later hb) (hP.later hb) h1 (fun hk=>by have:=z8j h;rw [show (r.x L T M).k=1 from hk] at this;exact this))
 clear hw hP hok h1
 cases hg:z1f (r.x L T M) with
 | false =>
  rw [hg] at hgd
  have HG:=hid hg
  clear hg
  go_enter Tryz.func46,Tryz.ntmps46
  go_upto_region 1 with (fail)
  rw [HW1.out,HRE.out]
  go_wp2_with ((with_reducible refine z0q HX1.out ?_ ?_);rfl)
  refine hgd.mono ?_
  rintro e w2 ⟨rfl,h2⟩
  have HF:Hid (q1t W (r.x L T M) (.returned (.tuple #[.slice none 0 0,.int .i64 1])) w2):=hid ⟨HB1.out.trans (h2.mono HB1.out.size),by rw [HG.out,if_neg (by decide)]⟩
  clear h2 hgd
  go_wp2_with fail
  go_ret2
  exact HF.out
 | true =>
  rw [hg] at hgd
  have HG:=hid hg
  clear hg
  go_enter Tryz.func46,Tryz.ntmps46
  go_upto_region 1 with (fail)
  rw [HW1.out,HRE.out]
  go_wp2_with ((with_reducible refine z0q HX1.out ?_ ?_);rfl)
  refine hgd.mono ?_
  rintro e w2 ⟨rfl,h2⟩
  have HB2:=hid (HB1.out.trans (h2.mono HB1.out.size))
  have HX2:=hid (HX1.out.later h2)
  clear h2 hgd
  go_wp2_with ((with_reducible refine z0q HX2.out ?_ ?_);rfl)
  refine (HWR.out HG.out w2 HB2.out).mono ?_
  rintro e w3 ⟨p3,c3,rfl,hs3,hb3⟩
  have HF:Hid (q1t W (r.x L T M) (.returned (.tuple #[.slice p3 (z0o (r.x L T M)).length c3,.int .i64 0])) w3):=hid ⟨HB2.out.trans (hb3.mono HB2.out.size),by rw [HG.out,if_pos rfl];exact⟨p3,c3,rfl,hs3⟩⟩
  clear hs3 hb3
  generalize (z0o (r.x L T M)).length=n at *
  go_wp2_with fail
  go_ret2
  exact HF.out
theorem z6a:Pgok noP:=⟨by simp [noP],by simp [noP],by simp [noP],(fun x hx=>by cases hx),(fun x hx=>by cases hx),(fun x hx=>by cases hx),by simp [noP],by simp [noP],by simp [noP],by simp [noP,In64]⟩
def rk (k:Int):Rv:=⟨k,0,0,0,false,0,0,0,0,0,0,0,0,none,0,0,none,0,0,none,0,0,0,0,0,0⟩
end Go.Proofs.YtfdgnniicjdjdaaGreatDoor
