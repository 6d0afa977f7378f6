import Derived.Test.YtclbkfpbdidaiaaGreatDoorPC18
import Derived.Test.YtclbkfpbdidaiaaGreatDoorPC20
namespace Go.Proofs.YtclbkfpbdidaiaaGreatDoor
open Go.Lib (hid)
set_option maxHeartbeats 8000000
open Go.RowKit Go.ChangeShapes Go.WideShapes
set_option linter.unusedVariables false
set_option maxRecDepth 10000
set_option linter.unusedSimpArgs false
def u64 (q:Int):Nat:=(q % 18446744073709551616).toNat
theorem u64_lt (q:Int):u64 q<18446744073709551616:=by unfold u64;omega
theorem sgn_u64 {q:Int} (h:In64 q):sgn (u64 q)=q:=by
 unfold In64 at h
 unfold sgn u64
 split <;> omega
def lnB (x:Ln):List Nat:=le x.1.toNat 1++le (u64 x.2) 8
def tkBy (x:Tk):List Nat:=le x.1.toNat 4++le x.2.1.toNat 1++le x.2.2.1.toNat 1++le (u64 x.2.2.2) 8
def lnsB (L:List Ln):List Nat:=le L.length 1++L.flatMap lnB
def tksB (T:List Tk):List Nat:=le T.length 1++T.flatMap tkBy
def z3a (P:Pg):List Nat:=le P.kind.toNat 1++le P.order.toNat 4++le P.policy.toNat 1++lnsB P.lines++tksB P.takes++lnsB P.owes++le P.sku.toNat 1++le P.frm.toNat 1++le P.to.toNat 1++le (u64 P.qty) 8
theorem lnB_len (x:Ln):(lnB x).length=9:=by unfold lnB;rw [List.length_append,z0t,z0t]
theorem tkBy_len (x:Tk):(tkBy x).length=14:=by unfold tkBy;rw [List.length_append,List.length_append,List.length_append,z0t,z0t,z0t,z0t]
theorem z7y:∀ L:List Ln,(L.flatMap lnB).length=9*L.length
 | []=>rfl
 | x::L=>by rw [List.flatMap_cons,List.length_append,lnB_len,z7y L,List.length_cons];omega
theorem z8s:∀ T:List Tk,(T.flatMap tkBy).length=14*T.length
 | []=>rfl
 | x::T=>by rw [List.flatMap_cons,List.length_append,tkBy_len,z8s T,List.length_cons];omega
theorem lnsB_len (L:List Ln):(lnsB L).length=9*L.length+1:=by unfold lnsB;rw [List.length_append,z0t,z7y];omega
theorem tksB_len (T:List Tk):(tksB T).length=14*T.length+1:=by unfold tksB;rw [List.length_append,z0t,z8s];omega
theorem flat_take {α:Type} (f:α→List Nat) (L:List α) (d:α) (j:Nat) (h:j<L.length):(L.take (j+1)).flatMap f=(L.take j).flatMap f++f (L.getD j d):=by
 rw [List.take_add_one,List.getElem?_eq_getElem h,List.flatMap_append]
 simp [List.getD,List.getElem?_eq_getElem h]
theorem z6y {L M:List Nat} (h:L.length+M.length≤512):rawW 512 (0,L) M=(0,L++M):=by
 unfold rawW
 rw [if_pos rfl,if_neg (show ¬ (512:Int)<((0,L):St).2.length+M.length by dsimp only;omega)]
theorem numW_fit {L:List Nat} {x n:Nat} (h1:1≤n) (h8:n≤8) (hx:x<256 ^ n) (h:L.length+n≤512):numW 512 (0,L) x (n:Int)=(0,L++le x n):=by
 unfold numW
 rw [if_pos ⟨by omega,by omega,by rw [Int.toNat_natCast];exact hx⟩,Int.toNat_natCast]
 exact z6y (by rw [z0t];exact h)
theorem Wrote.next {a b c:World} {B:Nat} {v v1:Value} {most:Int} {S T:St} (h:Wrote a B v most S b) (hv:∀ k,v1.ownBlock=some k→v.ownBlock=some k∨a.heap.size≤k) (g:Wrote b B v1 most T c):Wrote a B v most T c:=by
 obtain⟨v2,h1,h2⟩:=g.wr
 refine⟨⟨v2,h1,fun k hk=>?_⟩,h.chg.trans g.chg fun k hk hb=>?_⟩
 · rcases h2 k hk with h' | h'
   · exact hv k h'
   · exact .inr (Nat.le_trans h.chg.size h')
 · rcases hb with rfl | hb
   · exact .inl rfl
   · rcases hv k hb with h' | h'
     · exact .inr h'
     · omega
theorem z7d (B:Nat) (v:Value) (L:List Nat) (x n:Nat) (w:World) (h:Wr w B v 512 (0,L)) (h1:1≤n) (h8:n≤8) (hx:x<256 ^ n) (hl:L.length+n≤512) :
 Calls Tryz.prog 99 #[.pointer (some ⟨B,0,none⟩),.int .u64 (x:Int),.int .i64 n] w (Wrot w B v 512 (0,L++le x n)):=by
 have:=num_wr_good B v 512 (0,L) x n w h (by omega) (by omega) (by dsimp only;omega) h1 h8 hx
 rwa [z6y (by rw [z0t];exact hl)] at this
theorem q2o (B:Nat) (v:Value) (L:List Nat) (q:Int) (w:World) (h:Wr w B v 512 (0,L)) (hq:In64 q) (hl:L.length+8≤512) :
 Calls Tryz.prog 102 #[.pointer (some ⟨B,0,none⟩),.int .i64 q] w (Wrot w B v 512 (0,L++le (u64 q) 8)):=by
 have:=int_wr B v 512 (0,L) (u64 q) w h (u64_lt q) (by omega) (by omega) (by dsimp only;omega)
 rw [sgn_u64 hq] at this
 have h2:numW 512 (0,L) (u64 q) 8=(0,L++le (u64 q) 8):=numW_fit (n:=8) (by omega) (by omega) (u64_lt q) hl
 rwa [h2] at this
def noP:Pg:=⟨0,0,0,[],[],[],0,0,0,0⟩
abbrev wbox (B:Nat):Obj:=.cells #[.pointer (some ⟨B,0,none⟩)] 163
theorem z1y (a:Nat) (h:a<18446744073709551616):IntKind.u64.wrap (a:Int)=a:=by simp [IntKind.wrap,IntKind.bits,IntKind.signed];omega
theorem line_w (B:Nat) (v:Value) (Lb:List Nat) (a q:Int) (w:World) (h:Wr w B v 512 (0,Lb)) (hx:Lnok (a,q)) (hl:Lb.length+9≤512) :
 Calls Tryz.prog 128 #[.agg #[.pointer (some ⟨B,0,none⟩)],.agg #[.int .u8 a,.int .i64 q]] w (Wrot w B v 512 (0,Lb++lnB (a,q))):=by
 obtain⟨na,ea⟩:∃ na:Nat,a=(na:Int):=⟨a.toNat,by have:=hx.1;dsimp only at this;omega⟩
 have ba:na<256 ^ 1:=by have:=hx.1;dsimp only at this;omega
 have ca:IntKind.u64.wrap (na:Int)=na:=z1y _ (by omega)
 have hq:In64 q:=hx.2
 have hd:lnB (a,q)=le na 1++le (u64 q) 8:=by
  unfold lnB
  dsimp only
  rw [ea]
  rfl
 rw [hd]
 subst ea
 obtain⟨w2,hw2,hs2,hX,hY,hb2⟩:∃ w2,(w.alloc (wbox B)).alloc (.cells #[.int .u8 (na:Nat),.int .i64 q] 76)=w2∧w2.heap.size=w.heap.size+2∧w2.heap[w.heap.size]?=some (.cells #[.pointer (some ⟨B,0,none⟩)] 163 (0,0))∧w2.heap[w.heap.size+1]?=some (.cells #[.int .u8 (na:Nat),.int .i64 q] 76 (0,0))∧Below w.heap.size w w2:=⟨_,rfl,by simp,(Below.heap_alloc _ _ _ (by simp)).trans (z0c w _),by have:=z0c (w.alloc (wbox B)) (.cells #[.int .u8 (na:Nat),.int .i64 q] 76);rwa [World.size_alloc] at this,((Below.refl _ _).alloc (Nat.le_refl _) _).alloc (by simp) _⟩
 have hwr2:=h.chg (Chg.of_below (S:=fun _=>False) hb2) (fun h=>h) (fun _ _ h=>h)
 have hBl:=h.lt
 have hvl:=h.row.bound
 have HC:Hid (∀ w',Chg (fun k=>k=B∨v.ownBlock=some k) w2 w'→w'.heap[w.heap.size]?=some (.cells #[.pointer (some ⟨B,0,none⟩)] 163 (0,0))∧w'.heap[w.heap.size+1]?=some (.cells #[.int .u8 (na:Nat),.int .i64 q] 76 (0,0))):=hid fun w' hc=>⟨(hc.block _ (by omega) (fun hk=>by rcases hk with hk | hk;omega;have:=hvl _ hk;omega)).trans hX,(hc.block _ (by omega) (fun hk=>by rcases hk with hk | hk;omega;have:=hvl _ hk;omega)).trans hY⟩
 have HW2:=hid hw2
 have HB2:=hid hb2
 have H0:=hid (Wrote.same hwr2)
 clear hw2 hs2 hX hY hb2 hwr2 hBl hvl h hx hd
 obtain⟨hx,hy⟩:=HC.out _ H0.out.chg
 have x0:=z0a (j:=0) (v:=.pointer (some ⟨B,0,none⟩)) hx rfl
 have y0:=z0a (j:=0) (v:=.int .u8 (na:Nat)) hy rfl
 have y1:=z0a (j:=1) (v:=.int .i64 q) hy rfl
 clear hx hy
 go_enter Tryz.func128,Tryz.ntmps128
 go_wp2_with fail
 rw [HW2.out]
 obtain⟨v0,h0,o0⟩:=H0.out.wr
 refine (z7d B v0 (Lb) na 1 w2 h0 (by omega) (by omega) ba (by first | omega | (simp only [List.length_append,z0t];omega))).mono ?_
 rintro e x3 ⟨rfl,hw⟩
 have H1:=hid (H0.out.next o0 hw)
 clear hw h0 o0
 clear x0 y0 y1
 obtain⟨hx,hy⟩:=HC.out _ H1.out.chg
 have x0:=z0a (j:=0) (v:=.pointer (some ⟨B,0,none⟩)) hx rfl
 have y0:=z0a (j:=0) (v:=.int .u8 (na:Nat)) hy rfl
 have y1:=z0a (j:=1) (v:=.int .i64 q) hy rfl
 clear hx hy
 go_wp2_with fail
 obtain⟨v1,h1,o1⟩:=H1.out.wr
 refine (q2o B v1 (Lb++le na 1) q x3 h1 hq (by first | omega | (simp only [List.length_append,z0t];omega))).mono ?_
 rintro e x4 ⟨rfl,hw⟩
 have H2:=hid (H1.out.next o1 hw)
 clear hw h1 o1
 clear x0 y0 y1
 go_wp2_with fail
 go_end0
 refine⟨rfl,?_⟩
 have hf:=Wrote.before (Chg.of_below HB2.out) H2.out
 simp only [List.append_assoc] at hf ⊢
 exact hf
theorem take_w (B:Nat) (v:Value) (Lb:List Nat) (o a r q:Int) (w:World) (h:Wr w B v 512 (0,Lb)) (hx:Tkok (o,a,r,q)) (hl:Lb.length+14≤512) :
 Calls Tryz.prog 130 #[.agg #[.pointer (some ⟨B,0,none⟩)],.agg #[.int .u32 o,.int .u8 a,.int .u8 r,.int .i64 q]] w (Wrot w B v 512 (0,Lb++tkBy (o,a,r,q))):=by
 obtain⟨no,eo⟩:∃ no:Nat,o=(no:Int):=⟨o.toNat,by have:=hx.1;dsimp only at this;omega⟩
 have bo:no<256 ^ 4:=by have:=hx.1;dsimp only at this;omega
 have co:IntKind.u64.wrap (no:Int)=no:=z1y _ (by omega)
 obtain⟨na,ea⟩:∃ na:Nat,a=(na:Int):=⟨a.toNat,by have:=hx.2.1;dsimp only at this;omega⟩
 have ba:na<256 ^ 1:=by have:=hx.2.1;dsimp only at this;omega
 have ca:IntKind.u64.wrap (na:Int)=na:=z1y _ (by omega)
 obtain⟨nr,er⟩:∃ nr:Nat,r=(nr:Int):=⟨r.toNat,by have:=hx.2.2.1;dsimp only at this;omega⟩
 have br:nr<256 ^ 1:=by have:=hx.2.2.1;dsimp only at this;omega
 have cr:IntKind.u64.wrap (nr:Int)=nr:=z1y _ (by omega)
 have hq:In64 q:=hx.2.2.2
 have hd:tkBy (o,a,r,q)=le no 4++le na 1++le nr 1++le (u64 q) 8:=by
  unfold tkBy
  dsimp only
  rw [eo,ea,er]
  rfl
 rw [hd]
 subst eo
 subst ea
 subst er
 obtain⟨w2,hw2,hs2,hX,hY,hb2⟩:∃ w2,(w.alloc (wbox B)).alloc (.cells #[.int .u32 (no:Nat),.int .u8 (na:Nat),.int .u8 (nr:Nat),.int .i64 q] 73)=w2∧w2.heap.size=w.heap.size+2∧w2.heap[w.heap.size]?=some (.cells #[.pointer (some ⟨B,0,none⟩)] 163 (0,0))∧w2.heap[w.heap.size+1]?=some (.cells #[.int .u32 (no:Nat),.int .u8 (na:Nat),.int .u8 (nr:Nat),.int .i64 q] 73 (0,0))∧Below w.heap.size w w2:=⟨_,rfl,by simp,(Below.heap_alloc _ _ _ (by simp)).trans (z0c w _),by have:=z0c (w.alloc (wbox B)) (.cells #[.int .u32 (no:Nat),.int .u8 (na:Nat),.int .u8 (nr:Nat),.int .i64 q] 73);rwa [World.size_alloc] at this,((Below.refl _ _).alloc (Nat.le_refl _) _).alloc (by simp) _⟩
 have hwr2:=h.chg (Chg.of_below (S:=fun _=>False) hb2) (fun h=>h) (fun _ _ h=>h)
 have hBl:=h.lt
 have hvl:=h.row.bound
 have HC:Hid (∀ w',Chg (fun k=>k=B∨v.ownBlock=some k) w2 w'→w'.heap[w.heap.size]?=some (.cells #[.pointer (some ⟨B,0,none⟩)] 163 (0,0))∧w'.heap[w.heap.size+1]?=some (.cells #[.int .u32 (no:Nat),.int .u8 (na:Nat),.int .u8 (nr:Nat),.int .i64 q] 73 (0,0))):=hid fun w' hc=>⟨(hc.block _ (by omega) (fun hk=>by rcases hk with hk | hk;omega;have:=hvl _ hk;omega)).trans hX,(hc.block _ (by omega) (fun hk=>by rcases hk with hk | hk;omega;have:=hvl _ hk;omega)).trans hY⟩
 have HW2:=hid hw2
 have HB2:=hid hb2
 have H0:=hid (Wrote.same hwr2)
 clear hw2 hs2 hX hY hb2 hwr2 hBl hvl h hx hd
 obtain⟨hx,hy⟩:=HC.out _ H0.out.chg
 have x0:=z0a (j:=0) (v:=.pointer (some ⟨B,0,none⟩)) hx rfl
 have y0:=z0a (j:=0) (v:=.int .u32 (no:Nat)) hy rfl
 have y1:=z0a (j:=1) (v:=.int .u8 (na:Nat)) hy rfl
 have y2:=z0a (j:=2) (v:=.int .u8 (nr:Nat)) hy rfl
 have y3:=z0a (j:=3) (v:=.int .i64 q) hy rfl
 clear hx hy
 go_enter Tryz.func130,Tryz.ntmps130
 go_wp2_with fail
 rw [HW2.out]
 obtain⟨v0,h0,o0⟩:=H0.out.wr
 refine (z7d B v0 (Lb) no 4 w2 h0 (by omega) (by omega) bo (by first | omega | (simp only [List.length_append,z0t];omega))).mono ?_
 rintro e x3 ⟨rfl,hw⟩
 have H1:=hid (H0.out.next o0 hw)
 clear hw h0 o0
 clear x0 y0 y1 y2 y3
 obtain⟨hx,hy⟩:=HC.out _ H1.out.chg
 have x0:=z0a (j:=0) (v:=.pointer (some ⟨B,0,none⟩)) hx rfl
 have y0:=z0a (j:=0) (v:=.int .u32 (no:Nat)) hy rfl
 have y1:=z0a (j:=1) (v:=.int .u8 (na:Nat)) hy rfl
 have y2:=z0a (j:=2) (v:=.int .u8 (nr:Nat)) hy rfl
 have y3:=z0a (j:=3) (v:=.int .i64 q) hy rfl
 clear hx hy
 go_wp2_with fail
 obtain⟨v1,h1,o1⟩:=H1.out.wr
 refine (z7d B v1 (Lb++le no 4) na 1 x3 h1 (by omega) (by omega) ba (by first | omega | (simp only [List.length_append,z0t];omega))).mono ?_
 rintro e x4 ⟨rfl,hw⟩
 have H2:=hid (H1.out.next o1 hw)
 clear hw h1 o1
 clear x0 y0 y1 y2 y3
 obtain⟨hx,hy⟩:=HC.out _ H2.out.chg
 have x0:=z0a (j:=0) (v:=.pointer (some ⟨B,0,none⟩)) hx rfl
 have y0:=z0a (j:=0) (v:=.int .u32 (no:Nat)) hy rfl
 have y1:=z0a (j:=1) (v:=.int .u8 (na:Nat)) hy rfl
 have y2:=z0a (j:=2) (v:=.int .u8 (nr:Nat)) hy rfl
 have y3:=z0a (j:=3) (v:=.int .i64 q) hy rfl
 clear hx hy
 go_wp2_with fail
 obtain⟨v2,h2,o2⟩:=H2.out.wr
 refine (z7d B v2 (Lb++le no 4++le na 1) nr 1 x4 h2 (by omega) (by omega) br (by first | omega | (simp only [List.length_append,z0t];omega))).mono ?_
 rintro e x5 ⟨rfl,hw⟩
 have H3:=hid (H2.out.next o2 hw)
 clear hw h2 o2
 clear x0 y0 y1 y2 y3
 obtain⟨hx,hy⟩:=HC.out _ H3.out.chg
 have x0:=z0a (j:=0) (v:=.pointer (some ⟨B,0,none⟩)) hx rfl
 have y0:=z0a (j:=0) (v:=.int .u32 (no:Nat)) hy rfl
 have y1:=z0a (j:=1) (v:=.int .u8 (na:Nat)) hy rfl
 have y2:=z0a (j:=2) (v:=.int .u8 (nr:Nat)) hy rfl
 have y3:=z0a (j:=3) (v:=.int .i64 q) hy rfl
 clear hx hy
 go_wp2_with fail
 obtain⟨v3,h3,o3⟩:=H3.out.wr
 refine (q2o B v3 (Lb++le no 4++le na 1++le nr 1) q x5 h3 hq (by first | omega | (simp only [List.length_append,z0t];omega))).mono ?_
 rintro e x6 ⟨rfl,hw⟩
 have H4:=hid (H3.out.next o3 hw)
 clear hw h3 o3
 clear x0 y0 y1 y2 y3
 go_wp2_with fail
 go_end0
 refine⟨rfl,?_⟩
 have hf:=Wrote.before (Chg.of_below HB2.out) H4.out
 simp only [List.append_assoc] at hf ⊢
 exact hf
theorem wlist_ln (B:Nat) (v:Value) (Lb:List Nat) (p:Option Addr) (n c:Nat) (L:List Ln) (w:World) (h:Wr w B v 512 (0,Lb)) (hL:∀ w',Chg (fun k=>k=B∨v.ownBlock=some k) w w'→LL w' p n c L) (hok:∀ x∈L,Lnok x) (hn:n≤20) (hl:Lb.length+9*n+1≤512) :
 Calls Tryz.prog 127 #[.agg #[.pointer (some ⟨B,0,none⟩)],.slice p n c,.func (.func 128) #[.agg #[.pointer (some ⟨B,0,none⟩)]] #[]] w (Wrot w B v 512 (0,Lb++le n 1++L.flatMap lnB)):=by
 have hll:=hL w (Chg.refl _ _)
 have HLN:=hid hll.len
 have hcap:=hll.cap
 have cn:IntKind.u64.wrap (n:Int)=n:=z1y _ (by omega)
 have HST:=hid fun j (hj:j<n)=>flat_take lnB L l0 j (by rw [hll.len];exact hj)
 have HET:Hid ((L.take n).flatMap lnB=L.flatMap lnB):=hid (by rw [← hll.len,List.take_length])
 have HFL:Hid (∀ j,j≤n→((L.take j).flatMap lnB).length=9*j):=hid fun j hj=>by rw [z7y,List.length_take,hll.len];congr 1;omega
 have HOK:=hid fun j (hj:j<n)=>(show Lnok (L.getD j l0) from by rw [List.getD,List.getElem?_eq_getElem (by rw [hll.len];exact hj)];exact hok _ (List.getElem_mem _))
 obtain⟨w2,hw2,hs2,hX,hb2⟩:∃ w2,w.alloc (wbox B)=w2∧w2.heap.size=w.heap.size+1∧w2.heap[w.heap.size]?=some (.cells #[.pointer (some ⟨B,0,none⟩)] 163 (0,0))∧Below w.heap.size w w2:=⟨_,rfl,by simp,z0c w _,(Below.refl _ _).alloc (Nat.le_refl _) _⟩
 have hwr2:=h.chg (Chg.of_below (S:=fun _=>False) hb2) (fun h=>h) (fun _ _ h=>h)
 have hBl:=h.lt
 have hvl:=h.row.bound
 have HC:Hid (∀ w',Chg (fun k=>k=B∨v.ownBlock=some k) w2 w'→w'.cell? ⟨w.heap.size,0,none⟩=some (.pointer (some ⟨B,0,none⟩))):=hid fun w' hc=>z0a ((hc.block _ (by omega) (fun hk=>by rcases hk with hk | hk;omega;have:=hvl _ hk;omega)).trans hX) rfl
 have HL2:Hid (∀ w',Chg (fun k=>k=B∨v.ownBlock=some k) w2 w'→LL w' p n c L):=hid fun w' hc=>hL w' ((Chg.of_below hb2).trans hc fun _ _ h=>h)
 have HW2:=hid hw2
 have HB2:=hid hb2
 have H0:=hid (Wrote.same hwr2)
 clear hw2 hs2 hX hb2 hwr2 hBl hvl h hL hok hll
 have x0:=HC.out _ H0.out.chg
 go_enter Tryz.func127,Tryz.ntmps127
 go_wp2_with fail
 rw [HW2.out]
 obtain⟨v0,h0,o0⟩:=H0.out.wr
 refine (z7d B v0 Lb n 1 w2 h0 (by omega) (by omega) (by omega) (by omega)).mono ?_
 rintro e w3 ⟨rfl,hw⟩
 have H1:=hid (H0.out.next o0 hw)
 clear hw h0 o0 x0
 go_wp2_with fail
 go_loopw [16] (fun i wr=>∃ j:Nat,j≤n∧i=.int .i64 j∧Hid (Wrote w2 B v 512 (0,Lb++le n 1++(L.take j).flatMap lnB) wr)) (fun i _=>n-(Go.RowKit.intOf i).toNat)
 case atStart=>exact⟨0,Nat.zero_le _,rfl,hid (by rw [List.take_zero,List.flatMap_nil,List.append_nil];exact H1.out)⟩
 case round =>
  obtain⟨j,hj,rfl,HW⟩:=hrel
  by_cases hlt:j<n
  case neg =>
   obtain rfl:n=j:=by omega
   have hf:=HW.out
   rw [HET.out] at hf
   have HF:=hid (Wrote.before (Chg.of_below HB2.out) hf)
   clear hf
   go_wp2_with fail
   go_end0
   exact⟨rfl,HF.out⟩
  have hlt':(j:Int)<n:=by omega
  obtain⟨b,off,rfl,_,k0,k1⟩:=z1o (HL2.out wr HW.out.chg) hlt
  have hst:=HST.out j hlt
  have hok:=HOK.out j hlt
  generalize L.getD j l0=x at *
  obtain⟨a,q⟩:=x
  dsimp only at k0 k1 hst
  have HS:=hid hst
  have hba:Below wr.heap.size wr (wr.alloc (.cells #[.int .u8 a,.int .i64 q] 76)):=(Below.refl _ _).alloc (Nat.le_refl _) _
  obtain⟨v1,hv1,ho1⟩:=HW.out.wr
  have hone:=line_w B v1 (Lb++le n 1++(L.take j).flatMap lnB) a q (wr.alloc (.cells #[.int .u8 a,.int .i64 q] 76)) (hv1.chg (Chg.of_below (S:=fun _=>False) hba) (fun h=>h) (fun _ _ h=>h)) hok (by rw [List.length_append,List.length_append,z0t,HFL.out j hj];omega)
  have HO1:=hid ho1
  have HBA:=hid hba
  have HON:=hid hone
  clear hst hok hba hv1 ho1 hone
  go_wp2_with fail
  refine HON.out.mono ?_
  rintro e w4 ⟨rfl,hw⟩
  have H2:=hid (HW.out.next HO1.out (Wrote.before (Chg.of_below HBA.out) hw))
  clear hw
  go_wp2_with fail
  go_roundw
  case rel=>exact⟨j+1,by omega,by go_num,hid (by rw [HS.out,← List.append_assoc];exact H2.out)⟩
  case measure=>simp [Go.RowKit.intOf];omega
theorem wlist_tk (B:Nat) (v:Value) (Lb:List Nat) (p:Option Addr) (n c:Nat) (L:List Tk) (w:World) (h:Wr w B v 512 (0,Lb)) (hL:∀ w',Chg (fun k=>k=B∨v.ownBlock=some k) w w'→TKL w' p n c L) (hok:∀ x∈L,Tkok x) (hn:n≤20) (hl:Lb.length+14*n+1≤512) :
 Calls Tryz.prog 129 #[.agg #[.pointer (some ⟨B,0,none⟩)],.slice p n c,.func (.func 130) #[.agg #[.pointer (some ⟨B,0,none⟩)]] #[]] w (Wrot w B v 512 (0,Lb++le n 1++L.flatMap tkBy)):=by
 have hll:=hL w (Chg.refl _ _)
 have HLN:=hid hll.len
 have hcap:=hll.cap
 have cn:IntKind.u64.wrap (n:Int)=n:=z1y _ (by omega)
 have HST:=hid fun j (hj:j<n)=>flat_take tkBy L tk0 j (by rw [hll.len];exact hj)
 have HET:Hid ((L.take n).flatMap tkBy=L.flatMap tkBy):=hid (by rw [← hll.len,List.take_length])
 have HFL:Hid (∀ j,j≤n→((L.take j).flatMap tkBy).length=14*j):=hid fun j hj=>by rw [z8s,List.length_take,hll.len];congr 1;omega
 have HOK:=hid fun j (hj:j<n)=>(show Tkok (L.getD j tk0) from by rw [List.getD,List.getElem?_eq_getElem (by rw [hll.len];exact hj)];exact hok _ (List.getElem_mem _))
 obtain⟨w2,hw2,hs2,hX,hb2⟩:∃ w2,w.alloc (wbox B)=w2∧w2.heap.size=w.heap.size+1∧w2.heap[w.heap.size]?=some (.cells #[.pointer (some ⟨B,0,none⟩)] 163 (0,0))∧Below w.heap.size w w2:=⟨_,rfl,by simp,z0c w _,(Below.refl _ _).alloc (Nat.le_refl _) _⟩
 have hwr2:=h.chg (Chg.of_below (S:=fun _=>False) hb2) (fun h=>h) (fun _ _ h=>h)
 have hBl:=h.lt
 have hvl:=h.row.bound
 have HC:Hid (∀ w',Chg (fun k=>k=B∨v.ownBlock=some k) w2 w'→w'.cell? ⟨w.heap.size,0,none⟩=some (.pointer (some ⟨B,0,none⟩))):=hid fun w' hc=>z0a ((hc.block _ (by omega) (fun hk=>by rcases hk with hk | hk;omega;have:=hvl _ hk;omega)).trans hX) rfl
 have HL2:Hid (∀ w',Chg (fun k=>k=B∨v.ownBlock=some k) w2 w'→TKL w' p n c L):=hid fun w' hc=>hL w' ((Chg.of_below hb2).trans hc fun _ _ h=>h)
 have HW2:=hid hw2
 have HB2:=hid hb2
 have H0:=hid (Wrote.same hwr2)
 clear hw2 hs2 hX hb2 hwr2 hBl hvl h hL hok hll
 have x0:=HC.out _ H0.out.chg
 go_enter Tryz.func129,Tryz.ntmps129
 go_wp2_with fail
 rw [HW2.out]
 obtain⟨v0,h0,o0⟩:=H0.out.wr
 refine (z7d B v0 Lb n 1 w2 h0 (by omega) (by omega) (by omega) (by omega)).mono ?_
 rintro e w3 ⟨rfl,hw⟩
 have H1:=hid (H0.out.next o0 hw)
 clear hw h0 o0 x0
 go_wp2_with fail
 go_loopw [16] (fun i wr=>∃ j:Nat,j≤n∧i=.int .i64 j∧Hid (Wrote w2 B v 512 (0,Lb++le n 1++(L.take j).flatMap tkBy) wr)) (fun i _=>n-(Go.RowKit.intOf i).toNat)
 case atStart=>exact⟨0,Nat.zero_le _,rfl,hid (by rw [List.take_zero,List.flatMap_nil,List.append_nil];exact H1.out)⟩
 case round =>
  obtain⟨j,hj,rfl,HW⟩:=hrel
  by_cases hlt:j<n
  case neg =>
   obtain rfl:n=j:=by omega
   have hf:=HW.out
   rw [HET.out] at hf
   have HF:=hid (Wrote.before (Chg.of_below HB2.out) hf)
   clear hf
   go_wp2_with fail
   go_end0
   exact⟨rfl,HF.out⟩
  have hlt':(j:Int)<n:=by omega
  obtain⟨b,off,rfl,_,k0,k1,k2,k3⟩:=z1g (HL2.out wr HW.out.chg) hlt
  have hst:=HST.out j hlt
  have hok:=HOK.out j hlt
  generalize L.getD j tk0=x at *
  obtain⟨o,a,r,q⟩:=x
  dsimp only at k0 k1 k2 k3 hst
  have HS:=hid hst
  have hba:Below wr.heap.size wr (wr.alloc (.cells #[.int .u32 o,.int .u8 a,.int .u8 r,.int .i64 q] 73)):=(Below.refl _ _).alloc (Nat.le_refl _) _
  obtain⟨v1,hv1,ho1⟩:=HW.out.wr
  have hone:=take_w B v1 (Lb++le n 1++(L.take j).flatMap tkBy) o a r q (wr.alloc (.cells #[.int .u32 o,.int .u8 a,.int .u8 r,.int .i64 q] 73)) (hv1.chg (Chg.of_below (S:=fun _=>False) hba) (fun h=>h) (fun _ _ h=>h)) hok (by rw [List.length_append,List.length_append,z0t,HFL.out j hj];omega)
  have HO1:=hid ho1
  have HBA:=hid hba
  have HON:=hid hone
  clear hst hok hba hv1 ho1 hone
  go_wp2_with fail
  refine HON.out.mono ?_
  rintro e w4 ⟨rfl,hw⟩
  have H2:=hid (HW.out.next HO1.out (Wrote.before (Chg.of_below HBA.out) hw))
  clear hw
  go_wp2_with fail
  go_roundw
  case rel=>exact⟨j+1,by omega,by go_num,hid (by rw [HS.out,← List.append_assoc];exact H2.out)⟩
  case measure=>simp [Go.RowKit.intOf];omega
end Go.Proofs.YtclbkfpbdidaiaaGreatDoor
