import Derived.Test.YtclbkfpbdidaiaaGreatDoorPC11
import Derived.Test.YtclbkfpbdidaiaaGreatDoorPC19
import Derived.Test.YtclbkfpbdidaiaaGreatDoorPC01
import Derived.Test.YtclbkfpbdidaiaaGreatDoorPC04
namespace Go.Proofs.YtclbkfpbdidaiaaGreatDoor
open Go.Lib (hid)
set_option maxHeartbeats 8000000
open Go.RowKit Go.ChangeShapes Go.WideShapes Go.Deep
set_option linter.unusedVariables false
set_option maxRecDepth 10000
def oc (o:O):List Value:=[.int .u8 o.1.1,.int .u8 o.1.2.1,.int .u8 o.1.2.2,.int .i64 o.2]
theorem z5l (o:O):(oc o).length=4:=rfl
theorem q1q (o:O):∀ u∈oc o,u.oneCell'=true:=by
 intro u hu
 simp only [oc,List.mem_cons,List.not_mem_nil,or_false] at hu
 rcases hu with rfl | rfl | rfl | rfl <;> rfl
abbrev OL (w:World) (p:Option Addr) (n c:Nat) (L:List O):Prop:=SlG oc 4 o0 w p n c L
abbrev q1m (W wr:World) (v:Value) (L:List O) (N:Nat):Prop:=FillG oc 4 105 W wr v L N
abbrev z5n (W:World) (L:List O) (e:Ending) (w':World):Prop:=GivesG oc 4 o0 W L e w'
theorem q0e:(Tryz.prog.info? 105).map (fun i=>(i.zero,i.size,i.bytes))=some (some (.agg #[.int .u8 0,.int .u8 0,.int .u8 0,.int .i64 0]),4,16):=by kernel_rfl
theorem info_int:(Tryz.prog.info? 2).map (fun i=>(i.zero,i.size,i.bytes))=some (some (.int .i64 0),1,8):=by kernel_rfl
theorem op_news (w:World) (x:O):∀ i u,(oc x)[i]?=some u→(w.alloc (.cells #[.int .u8 x.1.1,.int .u8 x.1.2.1,.int .u8 x.1.2.2,.int .i64 x.2] 105)).cell? ⟨w.heap.size,i,none⟩=some u :=
 fun i u hu=>z0a (z0c w _) (by simpa [oc] using hu)
theorem z9z {w:World} {p:Option Addr} {n c:Nat} {L:List O} (h:OL w p n c L) {j:Nat} (hj:j<n):∃ b off,p=some ⟨b,off,none⟩∧b<w.heap.size∧w.cell? ⟨b,off+j*4,none⟩=some (.int .u8 (L.getD j o0).1.1)∧w.cell? ⟨b,off+j*4+1,none⟩=some (.int .u8 (L.getD j o0).1.2.1)∧w.cell? ⟨b,off+j*4+2,none⟩=some (.int .u8 (L.getD j o0).1.2.2)∧w.cell? ⟨b,off+j*4+3,none⟩=some (.int .i64 (L.getD j o0).2):=by
 obtain⟨b,off,rfl,hb,hc⟩:=h.cell (by omega)
 exact⟨b,off,rfl,hb,hc j hj 0 _ rfl,hc j hj 1 _ rfl,hc j hj 2 _ rfl,hc j hj 3 _ rfl⟩
theorem ok_at {L:List O} (h:∀ o∈L,Ook o) {j:Nat} (hj:j<L.length):Ook (L.getD j o0):=by
 rw [List.getD,List.getElem?_eq_getElem hj]
 exact h _ (List.getElem_mem _)
def ic (x:Int):List Value:=[.int .i64 x]
theorem ic_len (x:Int):(ic x).length=1:=rfl
theorem ic_one (x:Int):∀ u∈ic x,u.oneCell'=true:=by
 intro u hu
 simp only [ic,List.mem_cons,List.not_mem_nil,or_false] at hu
 rw [hu];rfl
abbrev IL (w:World) (p:Option Addr) (n c:Nat) (L:List Int):Prop:=SlG ic 1 0 w p n c L
abbrev q0r (W wr:World) (v:Value) (L:List Int) (N:Nat):Prop:=FillG ic 1 2 W wr v L N
theorem z8p (w:World) (x:Int):∀ i u,(ic x)[i]?=some u→(w.alloc (.cells #[.int .i64 x] 2)).cell? ⟨w.heap.size,i,none⟩=some u :=
 fun i u hu=>z0a (z0c w _) (by simpa [ic] using hu)
theorem z3d {w:World} {ops:Array Oper} {rest:List Oper} {o:Oper} {a:Act} {Q:Exit→Act→World→Prop} (hgd:o.guard=none) (s x:Operand)
 (ho:o.op=.call { callee:=.builtin .append,args:=#[s,x],argTypes:=#[113,113] })
 (base:Nat) (v:Value) (n:Nat) (L:List Int) (hs:a.eval s=v) (hr:w.ownsRow base 2 1 v n (z0n ic L)) (hn:n≤1000000) (e:Int) (B:Nat)
 (hx:a.eval x=.slice (some ⟨B,0,none⟩) 1 1) (hc:∀ i u,(ic e)[i]?=some u→w.cell? ⟨B,i,none⟩=some u) (hbase:base≤w.heap.size)
 (h:∀ v' w',w'.ownsRow base 2 1 v' (n+1) (z0n ic (L ++ [e]))→w.grownBy w' v.ownBlock→wpList Tryz.prog ops Q rest (a.put o.dst v') w'):wpList Tryz.prog ops Q (o::rest) a w :=
 wpList_append_g ic_len ic_one (by decide) hgd s x _ _ ho Tryz.underlying113 _ 8 info_int rfl (by omega) base v n L hs hr hn e B hx hc hbase h
theorem IL.row {w:World} {p:Option Addr} {n c:Nat} {xs:List Int} (h:IL w p n c xs) (hr:∀ x∈xs,In64 x):RowN w p n xs:=by
 refine⟨h.len.symm,hr,?_⟩
 by_cases h0:n=0
 · exact .inl h0
 · obtain⟨b,off,rfl,hb,hc⟩:=h.cell (by omega)
   refine .inr ⟨b,off,rfl,hb,fun j hj=>?_⟩
   have:=hc j (by rw [← h.len];exact hj) 0 _ rfl
   simpa using this
theorem intCells:Tryz.prog.cellsOf 2=1:=by kernel_rfl
section
variable {H:Type} {enc:TypeId × Value→H} {w:World} {base:Nat} {spare:Nat→Bool} {held:Bool}
end
end Go.Proofs.YtclbkfpbdidaiaaGreatDoor
namespace Go.Proofs.YtclbkfpbdidaiaaGreatDoor
open Go.Lib (hid)
set_option maxHeartbeats 8000000
open Go.RowKit Go.ChangeShapes Go.WideShapes
set_option linter.unusedVariables false
set_option maxRecDepth 10000
theorem ol_news {w:World} {p:Option Addr} {n c:Nat} {L:List O} (h:OL w p n c L):∀ ad,p=some ad→∀ j u,(z0n oc L)[j]?=some u→w.cell? (ad.add j)=some u:=by
 intro ad ha j u hu
 have hj:j<L.length*4:=by
  rw [← z1m z5l L]
  exact (List.getElem?_eq_some_iff.1 hu).1
 have hn:=h.len
 obtain⟨b,off,rfl,_,hc⟩:=h.cell (by omega)
 cases ha
 have e:j=j / 4*4+j % 4:=by omega
 rw [e,z6g (d:=o0) z5l L (j / 4) (j % 4) (by omega) (by omega)] at hu
 have:=hc (j / 4) (by omega) (j % 4) u hu
 rw [Go.WideShapes.add_plain]
 rwa [Nat.add_assoc,← e] at this
theorem ol_none {w:World} {p:Option Addr} {n c:Nat} {L:List O} (h:OL w p n c L):p=none→n=0∧c=0:=fun hp=>by
 have h1:=h.nil hp
 have h2:=h.cap
 exact⟨by omega,h1⟩
theorem wpList_append_ol {w:World} {ops:Array Oper} {rest:List Oper} {o:Oper} {a:Act} {Q:Exit→Act→World→Prop} (hgd:o.guard=none) (s x:Operand)
 (ho:o.op=.call { callee:=.builtin .append,args:=#[s,x],argTypes:=#[44,44] })
 (v:Value) (n:Nat) (L:List O) (hs:a.eval s=v) (hr:w.ownsRow 0 105 4 v n (z0n oc L)) (p:Option Addr) (m c:Nat) (M:List O) (hx:a.eval x=.slice p m c) (hM:OL w p m c M) (N:Nat) (hN:n+m=N) (hbig:N≤1000000)
 (h:∀ p' c' w',w'.ownsRow 0 105 4 (.slice p' N c') N (z0n oc (L++M))→Chg (fun b=>v.ownBlock=some b) w w'→(∀ b,(Value.slice p' N c').ownBlock=some b→v.ownBlock=some b∨w.heap.size≤b)→wpList Tryz.prog ops Q rest (a.put o.dst (.slice p' N c')) w'):wpList Tryz.prog ops Q (o::rest) a w:=by
 subst hN
 refine z1i (k:=4) (by decide) Tryz.underlying44 q0e rfl (by omega) hgd s x ho v n (z0n oc L) hs hr p m c (z0n oc M) hx (by rw [z1m z5l,hM.len]) (ol_none hM) (ol_news hM) (z1n q1q M) hbig fun p' c' w' h1 h2 h3=>?_
 rw [← z1d] at h1
 exact h p' c' w' h1 h2 h3
end Go.Proofs.YtclbkfpbdidaiaaGreatDoor
namespace Go.Proofs.YtclbkfpbdidaiaaGreatDoor
open Go.Lib (hid)
set_option maxHeartbeats 8000000
open Go.RowKit Go.ChangeShapes Go.WideShapes Go.Deep
set_option linter.unusedVariables false
set_option maxRecDepth 10000
def lc (x:Ln):List Value:=[.int .u8 x.1,.int .i64 x.2]
theorem z9a (x:Ln):(lc x).length=2:=rfl
abbrev LL (w:World) (p:Option Addr) (n c:Nat) (L:List Ln):Prop:=SlG lc 2 l0 w p n c L
theorem z1o {w:World} {p:Option Addr} {n c:Nat} {L:List Ln} (h:LL w p n c L) {j:Nat} (hj:j<n):∃ b off,p=some ⟨b,off,none⟩∧b<w.heap.size∧w.cell? ⟨b,off+j*2,none⟩=some (.int .u8 (L.getD j l0).1)∧w.cell? ⟨b,off+j*2+1,none⟩=some (.int .i64 (L.getD j l0).2):=by
 obtain⟨b,off,rfl,hb,hc⟩:=h.cell (by omega)
 exact⟨b,off,rfl,hb,hc j hj 0 _ rfl,hc j hj 1 _ rfl⟩
theorem q1g {L:List Ln} (h:∀ x∈L,Lnok x) {j:Nat} (hj:j<L.length):Lnok (L.getD j l0):=by
 rw [List.getD,List.getElem?_eq_getElem hj]
 exact h _ (List.getElem_mem _)
theorem byteCells1:Tryz.prog.cellsOf 5=1:=by kernel_rfl
theorem lineCells:Tryz.prog.cellsOf 76=2:=by kernel_rfl
section
variable {H:Type} {enc:TypeId × Value→H} {w:World} {base:Nat} {held:Bool}
theorem line_trod {spare:Nat→Bool} {fuel:Nat} {cs:List Value} {d:DataW H × List MemPlace} (h:DataW.trod enc Tryz.prog w base spare held fuel 76 cs=some d):∃ x:Ln,Lnok x∧cs=lc x:=by
 obtain⟨_,_,_,_,hlen,_,_⟩:=DataW.trod_struct Tryz.underlying76 h
 rw [lineCells] at hlen
 obtain⟨y0,y1,n,_,_,t0,t1⟩:=trod_struct2 Tryz.underlying76 h
 obtain⟨v0,v1,rfl⟩:∃ v0 v1,cs=[v0,v1]:=by
  match cs,hlen with
  | [a,b],_=>exact⟨a,b,rfl⟩
 simp only [byteCells1,intCells,List.drop_zero,List.drop_succ_cons,List.take_succ_cons,List.take_zero] at t0 t1
 obtain⟨z0,hv0,_,wf0⟩:=DataW.trod_int Tryz.underlying5 t0
 obtain⟨z1,hv1,_,wf1⟩:=DataW.trod_int Tryz.underlying2 t1
 simp at hv0 hv1
 subst hv0 hv1
 exact⟨(z0,z1),⟨bounds_u8 wf0,bounds_i64 wf1⟩,rfl⟩
theorem open_lines {fuel:Nat} {a:Option Addr} {len cap:Nat} {x:DataW H × List MemPlace}
 (h:DataW.trod enc Tryz.prog w base (fun _=>true) held fuel 23 [.slice a len cap]=some x):∃ L,LL w a len cap L∧∀ y∈L,Lnok y:=by
 rcases open_slice Tryz.underlying23 h with ⟨hcs,_⟩ | ⟨a',l,c,m,n,D,Pl,hcs,hb,hl,hm,hmm,hx,hi⟩
 · simp at hcs
   obtain⟨rfl,rfl,rfl⟩:=hcs
   exact⟨[],SlG.empty w,fun y hy=>by cases hy⟩
 · simp at hcs
   obtain⟨rfl,rfl,rfl⟩:=hcs
   rw [if_pos rfl] at hmm
   subst hmm
   have hall:∀ i,i<len→∃ y:Ln,Lnok y∧∀ j u,(lc y)[j]?=some u→w.cell? (a'.add (i*2+j))=some u:=by
    intro i hil
    obtain⟨cs',hc,ht⟩:=hi i (by omega)
    rw [lineCells] at hc
    obtain⟨y,hy,rfl⟩:=line_trod ht
    obtain⟨_,hcl,hat⟩:=World.cells?_some hc
    refine⟨y,hy,fun j u hu=>?_⟩
    have hj:j<2:=(List.getElem?_eq_some_iff.1 hu).1
    have:=hat j hj
    rw [← Go.Deep.add_add,this]
    exact hu
   obtain⟨f,hf⟩:∃ f:Nat→Ln,∀ i,i<len→Lnok (f i)∧∀ j u,(lc (f i))[j]?=some u→w.cell? (a'.add (i*2+j))=some u :=
    ⟨fun i=>if h:i<len then Classical.choose (hall i h) else l0,fun i h=>by dsimp only;rw [dif_pos h];exact Classical.choose_spec (hall i h)⟩
   refine⟨(List.range len).map f,⟨by simp,hl,hm,(fun h=>by cases h),fun h0=>?_⟩,fun y hy=>?_⟩
   · have h00:=(hf 0 h0).2 0 _ rfl
     have hsp:a'.spot=none:=World.cell?_spot (a:=a') (by simpa [Addr.add] using h00)
     obtain⟨b,off,sp⟩:=a'
     replace hsp:sp=none:=hsp
     subst hsp
     rw [Go.WideShapes.add_plain] at h00
     refine⟨b,off,rfl,World.block_lt_of_cell? _ _ h00,fun j hj i v hv=>?_⟩
     have e:((List.range len).map f).getD j l0=f j:=by
      rw [List.getD,List.getElem?_map,List.getElem?_range hj];rfl
     rw [e] at hv
     have:=(hf j hj).2 i v hv
     rwa [Go.WideShapes.add_plain,← Nat.add_assoc] at this
   · obtain⟨i,hi',rfl⟩:=List.mem_map.1 hy
     exact (hf i (List.mem_range.1 hi')).1
end
theorem z2a {w:World} {B:Nat} {T:TypeId} {k:Nat} {v:Value} {n:Nat} {xs:List Value} (h:w.ownsRow B T k v n xs):w.ownsRow 0 T k v n xs:=by
 refine⟨h.1,?_⟩
 rcases h.2 with hn | ⟨g,cap,cur,rfl,h1,h2,h3⟩
 · exact .inl hn
 · exact .inr ⟨g,cap,cur,rfl,Nat.zero_le _,h2,h3⟩
theorem fill_app {W w w':World} {v:Value} {p:Option Addr} {n c:Nat} {L M:List O} {N:Nat} (h:q1m W w v L N) (r:w'.ownsRow 0 105 4 (.slice p n c) n (z0n oc (L++M))) (hn:n=(L++M).length) (q:Chg (fun b=>v.ownBlock=some b) w w') (b:∀ b,(Value.slice p n c).ownBlock=some b→v.ownBlock=some b∨w.heap.size≤b):q1m W w' (.slice p n c) (L++M) (N+M.length):=by
 subst hn
 refine⟨⟨r.1,?_⟩,Chg.below h.below h.below.size q fun k hk=>(h.own.lt k hk).1,by have:=h.most;rw [List.length_append];omega⟩
 rcases r.2 with hn | ⟨g,cap,cur,he,h1,h2,h3⟩
 · exact .inl hn
 · refine .inr ⟨g,cap,cur,he,?_,h2,h3⟩
   rcases b g (by rw [he];rfl) with hk | hk
   · exact (h.own.lt g hk).1
   · exact Nat.le_trans h.below.size hk
theorem wpList_append_fill {W w:World} {ops:Array Oper} {rest:List Oper} {o:Oper} {a:Act} {Q:Exit→Act→World→Prop} (hgd:o.guard=none) (s x:Operand)
 (ho:o.op=.call { callee:=.builtin .append,args:=#[s,x],argTypes:=#[44,44] })
 (v:Value) (L:List O) (N:Nat) (hs:a.eval s=v) (hF:q1m W w v L N) (p:Option Addr) (m c:Nat) (M:List O) (hx:a.eval x=.slice p m c) (hM:OL w p m c M) (hbig:N+m≤1000000)
 (h:∀ p' n' c' w',q1m W w' (.slice p' n' c') (L++M) (N+m)→wpList Tryz.prog ops Q rest (a.put o.dst (.slice p' n' c')) w'):wpList Tryz.prog ops Q (o::rest) a w:=by
 have hlen:=hM.len
 have hmost:=hF.most
 refine wpList_append_ol hgd s x ho v L.length L hs (z2a hF.own) p m c M hx hM (L.length+m) rfl (by omega) fun p' c' w' h1 h2 h3=>?_
 have:=fill_app hF h1 (by rw [List.length_append,hlen]) h2 h3
 rw [hlen] at this
 exact h p' _ c' w' this
theorem GivesG.since {α:Type} {enc:α→List Value} {k:Nat} {d:α} {W W2:World} {V:List α} {e:Ending} {w':World} (h:GivesG enc k d W2 V e w') (hb:Below W.heap.size W W2):GivesG enc k d W V e w':=by
 obtain⟨p,c,rfl,hs,hb2,hp⟩:=h
 exact⟨p,c,rfl,hs,hb.trans (hb2.mono hb.size),fun a ha=>Nat.le_trans hb.size (hp a ha)⟩
def tkc (x:Tk):List Value:=[.int .u32 x.1,.int .u8 x.2.1,.int .u8 x.2.2.1,.int .i64 x.2.2.2]
theorem q0x (x:Tk):(tkc x).length=4:=rfl
theorem tkc_one (x:Tk):∀ u∈tkc x,u.oneCell'=true:=by
 intro u hu
 simp only [tkc,List.mem_cons,List.not_mem_nil,or_false] at hu
 rcases hu with rfl | rfl | rfl | rfl <;> rfl
theorem z8z (x:Ln):∀ u∈lc x,u.oneCell'=true:=by
 intro u hu
 simp only [lc,List.mem_cons,List.not_mem_nil,or_false] at hu
 rcases hu with rfl | rfl <;> rfl
abbrev TKL (w:World) (p:Option Addr) (n c:Nat) (T:List Tk):Prop:=SlG tkc 4 tk0 w p n c T
theorem z1g {w:World} {p:Option Addr} {n c:Nat} {T:List Tk} (h:TKL w p n c T) {j:Nat} (hj:j<n):∃ b off,p=some ⟨b,off,none⟩∧b<w.heap.size∧w.cell? ⟨b,off+j*4,none⟩=some (.int .u32 (T.getD j tk0).1)∧w.cell? ⟨b,off+j*4+1,none⟩=some (.int .u8 (T.getD j tk0).2.1)∧w.cell? ⟨b,off+j*4+2,none⟩=some (.int .u8 (T.getD j tk0).2.2.1)∧w.cell? ⟨b,off+j*4+3,none⟩=some (.int .i64 (T.getD j tk0).2.2.2):=by
 obtain⟨b,off,rfl,hb,hc⟩:=h.cell (by omega)
 exact⟨b,off,rfl,hb,hc j hj 0 _ rfl,hc j hj 1 _ rfl,hc j hj 2 _ rfl,hc j hj 3 _ rfl⟩
theorem q0w {T:List Tk} (h:∀ x∈T,Tkok x) {j:Nat} (hj:j<T.length):Tkok (T.getD j tk0):=by
 rw [List.getD,List.getElem?_eq_getElem hj]
 exact h _ (List.getElem_mem _)
theorem takeCells4:Tryz.prog.cellsOf 73=4:=by kernel_rfl
theorem bounds32 {n:Int} (h:(Lit.int .u32 n).wf=true):0≤n∧n≤4294967295:=by
 have:=bounds_u32 h
 omega
section
variable {H:Type} {enc:TypeId × Value→H} {w:World} {base:Nat} {held:Bool}
theorem take_trod {spare:Nat→Bool} {fuel:Nat} {cs:List Value} {d:DataW H × List MemPlace} (h:DataW.trod enc Tryz.prog w base spare held fuel 73 cs=some d):∃ x:Tk,Tkok x∧cs=tkc x:=by
 obtain⟨xs,n,_,_,hlen,hxl,hg⟩:=DataW.trod_struct Tryz.underlying73 h
 rw [takeCells4] at hlen
 obtain⟨v0,v1,v2,v3,rfl⟩:∃ v0 v1 v2 v3,cs=[v0,v1,v2,v3]:=by
  match cs,hlen with
  | [a,b,c,d],_=>exact⟨a,b,c,d,rfl⟩
 have h4:xs.length=4:=hxl
 have t0:=hg 0 _ rfl
 have t1:=hg 1 _ rfl
 have t2:=hg 2 _ rfl
 have t3:=hg 3 _ rfl
 rw [List.getElem?_eq_getElem (by omega)] at t0 t1 t2 t3
 have e0:DataW.trod enc Tryz.prog w base spare held n 22 [v0]=some (xs[0]'(by omega)):=t0
 have e1:DataW.trod enc Tryz.prog w base spare held n 5 [v1]=some (xs[1]'(by omega)):=t1
 have e2:DataW.trod enc Tryz.prog w base spare held n 5 [v2]=some (xs[2]'(by omega)):=t2
 have e3:DataW.trod enc Tryz.prog w base spare held n 2 [v3]=some (xs[3]'(by omega)):=t3
 obtain⟨z0,hv0,_,wf0⟩:=DataW.trod_int Tryz.underlying22 e0
 obtain⟨z1,hv1,_,wf1⟩:=DataW.trod_int Tryz.underlying5 e1
 obtain⟨z2,hv2,_,wf2⟩:=DataW.trod_int Tryz.underlying5 e2
 obtain⟨z3,hv3,_,wf3⟩:=DataW.trod_int Tryz.underlying2 e3
 simp at hv0 hv1 hv2 hv3
 subst hv0 hv1 hv2 hv3
 exact⟨(z0,z1,z2,z3),⟨bounds32 wf0,bounds_u8 wf1,bounds_u8 wf2,bounds_i64 wf3⟩,rfl⟩
theorem open_takes {fuel:Nat} {a:Option Addr} {len cap:Nat} {x:DataW H × List MemPlace}
 (h:DataW.trod enc Tryz.prog w base (fun _=>true) held fuel 24 [.slice a len cap]=some x):∃ L,TKL w a len cap L∧∀ y∈L,Tkok y:=by
 rcases open_slice Tryz.underlying24 h with ⟨hcs,_⟩ | ⟨a',l,c,m,n,D,Pl,hcs,hb,hl,hm,hmm,hx,hi⟩
 · simp at hcs
   obtain⟨rfl,rfl,rfl⟩:=hcs
   exact⟨[],SlG.empty w,fun y hy=>by cases hy⟩
 · simp at hcs
   obtain⟨rfl,rfl,rfl⟩:=hcs
   rw [if_pos rfl] at hmm
   subst hmm
   have hall:∀ i,i<len→∃ y:Tk,Tkok y∧∀ j u,(tkc y)[j]?=some u→w.cell? (a'.add (i*4+j))=some u:=by
    intro i hil
    obtain⟨cs',hc,ht⟩:=hi i (by omega)
    rw [takeCells4] at hc
    obtain⟨y,hy,rfl⟩:=take_trod ht
    obtain⟨_,hcl,hat⟩:=World.cells?_some hc
    refine⟨y,hy,fun j u hu=>?_⟩
    have hj:j<4:=(List.getElem?_eq_some_iff.1 hu).1
    have:=hat j hj
    rw [← Go.Deep.add_add,this]
    exact hu
   obtain⟨f,hf⟩:∃ f:Nat→Tk,∀ i,i<len→Tkok (f i)∧∀ j u,(tkc (f i))[j]?=some u→w.cell? (a'.add (i*4+j))=some u :=
    ⟨fun i=>if h:i<len then Classical.choose (hall i h) else tk0,fun i h=>by dsimp only;rw [dif_pos h];exact Classical.choose_spec (hall i h)⟩
   refine⟨(List.range len).map f,⟨by simp,hl,hm,(fun h=>by cases h),fun h0=>?_⟩,fun y hy=>?_⟩
   · have h00:=(hf 0 h0).2 0 _ rfl
     have hsp:a'.spot=none:=World.cell?_spot (a:=a') (by simpa [Addr.add] using h00)
     obtain⟨b,off,sp⟩:=a'
     replace hsp:sp=none:=hsp
     subst hsp
     rw [Go.WideShapes.add_plain] at h00
     refine⟨b,off,rfl,World.block_lt_of_cell? _ _ h00,fun j hj i v hv=>?_⟩
     have e:((List.range len).map f).getD j tk0=f j:=by
      rw [List.getD,List.getElem?_map,List.getElem?_range hj];rfl
     rw [e] at hv
     have:=(hf j hj).2 i v hv
     rwa [Go.WideShapes.add_plain,← Nat.add_assoc] at this
   · obtain⟨i,hi',rfl⟩:=List.mem_map.1 hy
     exact (hf i (List.mem_range.1 hi')).1
theorem z5c {fuel:Nat} {ty e:TypeId} (hu:Tryz.prog.underlying ty=some (.slice e)) {v:Value} {d:DataW H × List MemPlace} (h:DataW.trod enc Tryz.prog w base (fun _=>true) held fuel ty [v]=some d):∃ a len cap,v=.slice a len cap:=by
 rcases open_slice hu h with ⟨hcs,_⟩ | ⟨a',l,c',m,n',D',Pl,hcs,_⟩
 · exact⟨none,0,0,by simpa using hcs⟩
 · exact⟨some a',l,c',by simpa using hcs⟩
end
structure PgM (w:World) (lp:Option Addr) (ln lcp:Nat) (L:List Ln) (tp:Option Addr) (tn tcp:Nat) (T:List Tk) (wp:Option Addr) (wn wcp:Nat) (M:List Ln):Prop where
 l:LL w lp ln lcp L
 t:TKL w tp tn tcp T
 o:LL w wp wn wcp M
theorem PgM.later {w w':World} {lp:Option Addr} {ln lcp:Nat} {L:List Ln} {tp:Option Addr} {tn tcp:Nat} {T:List Tk} {wp:Option Addr} {wn wcp:Nat} {M:List Ln} (h:PgM w lp ln lcp L tp tn tcp T wp wn wcp M) (hb:Below w.heap.size w w'):PgM w' lp ln lcp L tp tn tcp T wp wn wcp M:=⟨h.l.later hb,h.t.later hb,h.o.later hb⟩
end Go.Proofs.YtclbkfpbdidaiaaGreatDoor
namespace Go.Proofs.YtclbkfpbdidaiaaGreatDoor
open Go.Lib (hid)
set_option maxHeartbeats 8000000
open Go.RowKit Go.ChangeShapes Go.WideShapes
set_option linter.unusedVariables false
set_option maxRecDepth 10000
set_option linter.unusedSimpArgs false
theorem gives_one {W w:World} (x:O) (hb:Below W.heap.size W w):z5n W [x] (.returned (.slice (some ⟨w.heap.size,0,none⟩) 1 1)) (w.alloc (.cells #[.int .u8 x.1.1,.int .u8 x.1.2.1,.int .u8 x.1.2.2,.int .i64 x.2] 105)):=by
 have hr:=z0c w (.cells #[.int .u8 x.1.1,.int .u8 x.1.2.1,.int .u8 x.1.2.2,.int .i64 x.2] 105)
 refine⟨_,1,rfl,⟨rfl,Nat.le_refl _,by unfold maxLen;omega,(fun h=>by cases h),fun _=>⟨_,0,rfl,z0g hr,fun j hj i v hv=>?_⟩⟩,hb.alloc hb.size _,fun a ha=>by cases ha;exact hb.size⟩
 have hj':j<1:=hj
 refine z0a hr ?_
 have hi:i<4:=(List.getElem?_eq_some_iff.1 hv).1
 obtain rfl:j=0:=by omega
 rcases (by omega:i=0∨i=1∨i=2∨i=3) with rfl | rfl | rfl | rfl <;> exact hv
theorem gives_two {W w:World} (x y:O) (hb:Below W.heap.size W w):z5n W [x,y] (.returned (.slice (some ⟨w.heap.size,0,none⟩) 2 2)) (w.alloc (.cells #[.int .u8 x.1.1,.int .u8 x.1.2.1,.int .u8 x.1.2.2,.int .i64 x.2,.int .u8 y.1.1,.int .u8 y.1.2.1,.int .u8 y.1.2.2,.int .i64 y.2] 105)):=by
 have hr:=z0c w (.cells #[.int .u8 x.1.1,.int .u8 x.1.2.1,.int .u8 x.1.2.2,.int .i64 x.2,.int .u8 y.1.1,.int .u8 y.1.2.1,.int .u8 y.1.2.2,.int .i64 y.2] 105)
 refine⟨_,2,rfl,⟨rfl,Nat.le_refl _,by unfold maxLen;omega,(fun h=>by cases h),fun _=>⟨_,0,rfl,z0g hr,fun j hj i v hv=>?_⟩⟩,hb.alloc hb.size _,fun a ha=>by cases ha;exact hb.size⟩
 have hj':j<2:=hj
 refine z0a hr ?_
 have hi:i<4:=(List.getElem?_eq_some_iff.1 hv).1
 rcases (by omega:j=0∨j=1) with rfl | rfl <;> rcases (by omega:i=0∨i=1∨i=2∨i=3) with rfl | rfl | rfl | rfl <;> exact hv
theorem gives_nil {W w:World} (hb:Below W.heap.size W w):z5n W [] (.returned (.slice none 0 0)) w:=⟨none,0,rfl,SlG.empty _,hb,fun a ha=>by cases ha⟩
theorem move_any (a b c a' b' c' q:Int) (hq:IntKind.i64.wrap (-q) = -q) (W:World) :
 Calls Tryz.prog 97 #[.agg #[.int .u8 a,.int .u8 b,.int .u8 c],.agg #[.int .u8 a',.int .u8 b',.int .u8 c'],.int .i64 q] W (z5n W [((a,b,c),-q),((a',b',c'),q)]):=by
 have hb2:Below W.heap.size W ((W.alloc (.cells #[.int .u8 a,.int .u8 b,.int .u8 c] 40)).alloc (.cells #[.int .u8 a',.int .u8 b',.int .u8 c'] 40)):=((Below.refl _ _).alloc (Nat.le_refl _) _).alloc (by simp) _
 have hg:=gives_two ((a,b,c),-q) ((a',b',c'),q) hb2
 simp only [World.size_alloc] at hg
 have HG:=hid hg
 clear hg hb2
 go_enter Tryz.func97,Tryz.ntmps97
 go_wp2_with fail
 go_ret
 exact HG.out
theorem wrap_neg (q:Int) (h0:1≤q) (h:In64 q):IntKind.i64.wrap (-q) = -q:=by
 unfold In64 at h
 exact IntWalk.i64_in _ (by omega)
theorem additions_any (t w:Int) (p:Option Addr) (n c:Nat) (x:Ln) (W:World) (hx:In64 x.2) (hq:1≤x.2) :
 Calls Tryz.prog 76 #[.agg #[.int .u8 t,.int .u8 w,.slice p n c],.agg #[.int .u8 x.1,.int .i64 x.2]] W (z5n W (oneS t w x)):=by
 obtain⟨s,q⟩:=x
 have hneg:=wrap_neg q hq hx
 dsimp only at hq hx ⊢
 obtain⟨W6,hW6⟩:∃ W6,(((((W.alloc (.cells #[.int .u8 t,.int .u8 w,.slice p n c] 52)).alloc (.cells #[.int .u8 s,.int .i64 q] 76)).alloc (.cells #[.int .u8 1,.int .u8 s,.int .u8 w] 40)).alloc (.cells #[.int .u8 2,.int .u8 s,.int .u8 w] 40)).alloc (.cells #[.int .u8 3,.int .u8 s,.int .u8 0] 40)).alloc (.cells #[.int .u8 4,.int .u8 s,.int .u8 0] 40)=W6:=⟨_,rfl⟩
 have hb6:Below W.heap.size W W6:=by
  rw [← hW6]
  repeat (refine Below.alloc ?_ (by simp;try omega) _)
  exact Below.refl _ _
 have hs6:W6.heap.size=W.heap.size+1+1+1+1+1+1:=by rw [← hW6];simp
 have hmv:=fun a b c a' b' c' W=>move_any a b c a' b' c' q hneg W
 have HW:=hid hW6
 have HB:=hid hb6
 clear hW6 hb6 hx
 rcases z4n t w (s,q) with ⟨ht,ho⟩ | ⟨ht,ho⟩ | ⟨ht,ho⟩ | ⟨ht,ho⟩ | ⟨ht,ho⟩ | ⟨ht,ho⟩ | ⟨ht,ho⟩ | ⟨ht,ho⟩ | ⟨⟨h1,h2,h3,h4,h5,h6,h7,h8⟩,ho⟩
 all_goals rw [ho]
 all_goals clear ho
 all_goals (try subst ht)
 case inl | inr.inl | inr.inr.inl | inr.inr.inr.inl =>
  go_enter Tryz.func76,Tryz.ntmps76
  go_wp2_with fail
  rw [HW.out]
  refine (hmv _ _ _ _ _ _ _).mono ?_
  rintro e w1 h1
  have HG:=hid (h1.since HB.out)
  obtain⟨p1,c1,rfl,_⟩:=h1
  clear hmv hs6
  go_wp2_with fail
  go_ret
  exact HG.out
 case inr.inr.inr.inr.inl | inr.inr.inr.inr.inr.inl | inr.inr.inr.inr.inr.inr.inl | inr.inr.inr.inr.inr.inr.inr.inl =>
  clear hmv
  have HG:=hid fun x=>gives_one x HB.out
  rw [hs6] at HG
  clear hs6
  go_enter Tryz.func76,Tryz.ntmps76
  go_wp2_with fail
  go_ret
  rw [HW.out]
  exact HG.out ((_,_,_),_)
 case inr.inr.inr.inr.inr.inr.inr.inr =>
  have e1:(t==1)=false:=by simpa using h1
  have e2:(t==2)=false:=by simpa using h2
  have e3:(t==3)=false:=by simpa using h3
  have e4:(t==4)=false:=by simpa using h4
  have e5:(t==5)=false:=by simpa using h5
  have e6:(t==6)=false:=by simpa using h6
  have e7:(t==7)=false:=by simpa using h7
  have e8:(t==8)=false:=by simpa using h8
  clear hmv hs6 h1 h2 h3 h4 h5 h6 h7 h8
  go_enter Tryz.func76,Tryz.ntmps76
  go_wp2_with fail
  rw [HW.out]
  go_ret
  exact gives_nil HB.out
def q1k (W:World) (V:List O) (ok:Bool) (e:Ending) (w':World):Prop:=∃ p c,e=.returned (.tuple #[.slice p V.length c,.bool ok])∧OL w' p V.length c V∧Below W.heap.size W w'∧∀ a,p=some a→W.heap.size≤a.block
theorem givesOB_none {W w':World} (hb:Below W.heap.size W w'):q1k W [] false (.returned (.tuple #[.slice none 0 0,.bool false])) w':=⟨none,0,rfl,SlG.empty _,hb,fun a ha=>by cases ha⟩
theorem FillG.slice {W wr:World} {v:Value} {L:List O} {N:Nat} (h:q1m W wr v L N):∃ p c,v=.slice p L.length c∧OL wr p L.length c L∧∀ a,p=some a→W.heap.size≤a.block:=SlG.of_own z5l (by decide) h.own
theorem FillG.givesB {W wr:World} {v:Value} {L:List O} {N:Nat} (h:q1m W wr v L N):q1k W L true (.returned (.tuple #[v,.bool true])) wr:=by
 obtain⟨p,c,rfl,hs,hp⟩:=h.slice
 exact⟨p,c,rfl,hs,h.below,hp⟩
theorem negV_true {L:List O} (h:negB L=true):negV L=negF L:=if_pos h
theorem negV_false {L:List O} (h:negB L=false):negV L=[]:=by unfold negV;rw [h];rfl
theorem item_yes (t w:Int) (x:Ln) (h:1≤x.2):z6o t w x=oneS t w x:=if_pos h
theorem item_no (t w:Int) (x:Ln) (h:¬ 1≤x.2):z6o t w x=[]:=if_neg h
theorem z4y {w:World} {X:Nat} {t r:Int} {s:Value} (h:w.heap[X]?=some (.cells #[.int .u8 t,.int .u8 r,s] 52 (0,0))) :
 w.cell? ⟨X,0,none⟩=some (.int .u8 t)∧w.cell? ⟨X,1,none⟩=some (.int .u8 r)∧w.cell? ⟨X,2,none⟩=some s:=⟨z0a h rfl,z0a h rfl,z0a h rfl⟩
theorem ops_any (t r:Int) (p:Option Addr) (n c:Nat) (L:List Ln) (W:World) (hL:LL W p n c L) (hok:∀ x∈L,Lnok x) (hn:n≤1000) :
 Calls Tryz.prog 44 #[.agg #[.int .u8 t,.int .u8 r,.slice p n c]] W (z5n W (opsS t r L)):=by
 have HST:=hid fun j (hj:j<n)=>opsS_take t r L j (by rw [hL.len];exact hj)
 have HIN:=hid fun j (hj:j<n)=>(q1g hok (show j<L.length by rw [hL.len];exact hj)).2
 have HEND:Hid (opsS t r (L.take n)=opsS t r L):=hid (by rw [← hL.len,List.take_length])
 have hb1:Below W.heap.size W (W.alloc (.cells #[.int .u8 t,.int .u8 r,.slice p n c] 52)):=(Below.refl _ _).alloc (Nat.le_refl _) _
 have HB1:=hid hb1
 have HL:=hid (hL.later hb1)
 have HX:=hid (z0c W (.cells #[.int .u8 t,.int .u8 r,.slice p n c] 52))
 have hcap:=hL.cap
 clear hL hok hb1
 go_enter Tryz.func44,Tryz.ntmps44
 go_wp2_with fail
 have hz:=(z4y HX.out).2.2
 generalize W.alloc (.cells #[.int .u8 t,.int .u8 r,.slice p n c] 52)=W1 at *
 go_wp2_with fail
 clear hz
 go_loopw [3,9] (fun v i wr=>∃ j:Nat,j≤n∧i=.int .i64 j∧Hid (q1m W1 wr v (opsS t r (L.take j)) (2*j))) (fun _ i _=>n-(Go.RowKit.intOf i).toNat)
 case atStart=>exact⟨0,Nat.zero_le _,rfl,hid (by rw [opsS_nil];exact FillG.nil W1)⟩
 case round =>
  obtain⟨j,hj,rfl,HF⟩:=hrel
  by_cases hlt:j<n
  · have hlt':(j:Int)<n:=by omega
    obtain⟨b,off,rfl,_,c0,c1⟩:=z1o (HL.out.later HF.out.below) hlt
    have hx:=HIN.out j hlt
    have hst:=HST.out j hlt
    have hlen:=one_len t r (L.getD j l0)
    have hyes:=item_yes t r (L.getD j l0)
    have hno:=item_no t r (L.getD j l0)
    generalize L.getD j l0=x at *
    obtain⟨s,q⟩:=x
    dsimp only at c0 c1 hx hyes hno
    have hba:Below wr.heap.size wr (wr.alloc (.cells #[.int .u8 s,.int .i64 q] 76)):=(Below.refl _ _).alloc (Nat.le_refl _) _
    have HFA:=hid (HF.out.later hba)
    have hbx:=z0b (z0b HX.out HF.out.below) hba
    have hbl:=z0c wr (.cells #[.int .u8 s,.int .i64 q] 76)
    have e0:=(z4y hbx).1
    have e1:=(z4y hbx).2.1
    have e2:=(z4y hbx).2.2
    clear hba hbx hbl
    by_cases hq:1≤q
    · have hd:decide (1≤q)=true:=decide_eq_true hq
      rw [hyes hq] at hst
      have hadd:=fun W=>additions_any t r (some ⟨b,off,none⟩) n c (s,q) W hx hq
      generalize oneS t r (s,q)=M at *
      have HS:=hid hst
      have HM:=hid hlen
      clear hx hst hyes hno hlen hq
      go_wp2_with fail
      refine (hadd _).mono ?_
      rintro e w2 ⟨p2,c2,rfl,hs2,hb2,_⟩
      have HF2:=hid (HFA.out.later hb2)
      have HM2:=HM.out
      clear hadd hb2 HFA e0 e1 e2
      go_wp2_with (at_builtin;refine wpList_append_fill rfl _ _ rfl _ _ _ rfl HF2.out p2 _ c2 M rfl hs2 (by omega) ?_;intro p3 n3 c3 w3 h3)
      have HF3:=hid h3
      clear hs2 h3 HF2
      go_wp2_with fail
      go_roundw
      case rel=>exact⟨j+1,by omega,by go_num,hid (by rw [HS.out];exact HF3.out.mono (by omega))⟩
      case measure=>simp [Go.RowKit.intOf];omega
    · have hd:decide (1≤q)=false:=decide_eq_false hq
      rw [hno hq,List.append_nil] at hst
      have HS:=hid hst
      clear hx hst hyes hno hlen hq
      go_wp2_with fail
      go_roundw
      case rel=>exact⟨j+1,by omega,by go_num,hid (by rw [HS.out];exact HFA.out.mono (by omega))⟩
      case measure=>simp [Go.RowKit.intOf];omega
  · obtain rfl:j=n:=by omega
    go_wp2_with fail
    go_ret
    have:=HF.out.gives (d:=o0) z5l (by decide)
    rw [HEND.out] at this
    exact this.since HB1.out
theorem info_ln:(Tryz.prog.info? 76).map (fun i=>(i.zero,i.size,i.bytes))=some (some (.agg #[.int .u8 0,.int .i64 0]),2,16):=by kernel_rfl
theorem info_tk:(Tryz.prog.info? 73).map (fun i=>(i.zero,i.size,i.bytes))=some (some (.agg #[.int .u32 0,.int .u8 0,.int .u8 0,.int .i64 0]),4,16):=by kernel_rfl
theorem slg_cells {α:Type} {enc:α→List Value} {k:Nat} {d:α} (hk:∀ x,(enc x).length=k) (hk0:0<k) {w:World} {p:Option Addr} {n c:Nat} {L:List α} (h:SlG enc k d w p n c L):∀ ad,p=some ad→∀ j u,(z0n enc L)[j]?=some u→w.cell? (ad.add j)=some u:=by
 intro ad ha j u hu
 have hj:j<L.length*k:=by
  rw [← z1m hk L]
  exact (List.getElem?_eq_some_iff.1 hu).1
 have hn:=h.len
 have hpos:0<L.length:=by
  rcases Nat.eq_zero_or_pos L.length with h | h
  · rw [h,Nat.zero_mul] at hj;omega
  · exact h
 obtain⟨b,off,rfl,_,hc⟩:=h.cell (by omega)
 cases ha
 have hd:=Nat.div_add_mod j k
 have e:j / k*k+j % k=j:=by rw [Nat.mul_comm];exact hd
 have hq:j / k<L.length:=Nat.div_lt_of_lt_mul (by rw [Nat.mul_comm];exact hj)
 have hm:j % k<k:=Nat.mod_lt _ hk0
 have hu2:(z0n enc L)[j / k*k+j % k]?=some u:=by rw [e];exact hu
 rw [z6g (d:=d) hk L (j / k) (j % k) hq hm] at hu2
 have:=hc (j / k) (by omega) (j % k) u hu2
 rw [Go.WideShapes.add_plain]
 rwa [Nat.add_assoc,e] at this
theorem slg_none {α:Type} {enc:α→List Value} {k:Nat} {d:α} {w:World} {p:Option Addr} {n c:Nat} {L:List α} (h:SlG enc k d w p n c L):p=none→n=0∧c=0:=fun hp=>by
 have h1:=h.nil hp
 have h2:=h.cap
 exact⟨by omega,h1⟩
theorem own_since {w:World} {B:Nat} {T:TypeId} {k:Nat} {v:Value} {n:Nat} {xs:List Value} (h:w.ownsRow 0 T k v n xs) (hb:∀ b,v.ownBlock=some b→B≤b):w.ownsRow B T k v n xs:=by
 refine⟨h.1,?_⟩
 rcases h.2 with hn | ⟨g,cap,cur,he,h1,h2,h3⟩
 · exact .inl hn
 · exact .inr ⟨g,cap,cur,he,hb g (by rw [he];rfl),h2,h3⟩
theorem q0k (p:Option Addr) (n c:Nat) (L:List Ln) (W:World) (hL:LL W p n c L) (hn:n≤100000) :
 Calls Tryz.prog 91 #[.slice p n c] W fun e w'=>∃ v,e=.returned v∧FillG lc 2 76 W w' v L n:=by
 have q:=fun (w:World) (a:Option Addr) (n c n' c':Nat)=>Lib.run_eql_slice_nil w 23 76 a n c n' c' Tryz.underlying23
 cases p with
 | none =>
  obtain rfl:=hL.nil rfl
  obtain rfl:n=0:=Nat.le_zero.1 hL.cap
  obtain rfl:L=[]:=List.eq_nil_of_length_eq_zero hL.len
  go_enter Tryz.func91,Tryz.ntmps91
  go_wp2_with fail
  go_ret
  exact⟨_,rfl,FillG.nil W⟩
 | some ad =>
  have hb1:Below W.heap.size W (W.alloc (.cells #[] 76)):=(Below.refl _ _).alloc (Nat.le_refl _) _
  have HB1:=hid hb1
  have HR1:Hid ((W.alloc (.cells #[] 76)).ownsRow 0 76 2 (.slice (some ⟨W.heap.size,0,none⟩) 0 0) 0 (z0n lc [])):=hid ⟨rfl,.inr ⟨W.heap.size,0,#[],rfl,Nat.zero_le _,z0c W _,Nat.zero_le _,Nat.zero_le _,by simp,by simp [z0n]⟩⟩
  have HL1:=hid (SlG.later hL hb1)
  have HLN:=hid hL.len
  clear hL hb1
  go_enter Tryz.func91,Tryz.ntmps91
  go_wp2_with (at_builtin;refine z1i (k:=2) (by decide) Tryz.underlying23 info_ln rfl (by omega) rfl _ _ rfl (.slice (some ⟨W.heap.size,0,none⟩) 0 0) 0 (z0n lc []) rfl HR1.out (some ad) n c (z0n lc L) rfl (by rw [z1m z9a,HLN.out]) (slg_none HL1.out) (slg_cells z9a (by decide) HL1.out) (z1n z8z L) (by omega) ?_;intro p' c' w3 hr3 hc3 hl3)
  rw [← z1d,List.nil_append,Nat.zero_add] at hr3
  rw [Nat.zero_add] at hl3
  have hown:∀ b,(Value.slice p' n c').ownBlock=some b→W.heap.size≤b:=fun b hb=>by
   rcases hl3 b hb with h | h
   · cases h
     exact Nat.le_refl _
   · have:=HB1.out.size
     omega
  have HF:=hid (show FillG lc 2 76 W w3 (.slice p' n c') L n from ⟨by rw [HLN.out];exact own_since hr3 hown,hc3.below HB1.out HB1.out.size fun k hk=>by cases hk;exact Nat.le_refl _,Nat.le_of_eq HLN.out⟩)
  clear hr3 hc3 hl3 hown
  go_ret
  exact⟨_,rfl,HF.out⟩
theorem clone_tk (p:Option Addr) (n c:Nat) (L:List Tk) (W:World) (hL:TKL W p n c L) (hn:n≤100000) :
 Calls Tryz.prog 92 #[.slice p n c] W fun e w'=>∃ v,e=.returned v∧FillG tkc 4 73 W w' v L n:=by
 have q:=fun (w:World) (a:Option Addr) (n c n' c':Nat)=>Lib.run_eql_slice_nil w 24 73 a n c n' c' Tryz.underlying24
 cases p with
 | none =>
  obtain rfl:=hL.nil rfl
  obtain rfl:n=0:=Nat.le_zero.1 hL.cap
  obtain rfl:L=[]:=List.eq_nil_of_length_eq_zero hL.len
  go_enter Tryz.func92,Tryz.ntmps92
  go_wp2_with fail
  go_ret
  exact⟨_,rfl,FillG.nil W⟩
 | some ad =>
  have hb1:Below W.heap.size W (W.alloc (.cells #[] 73)):=(Below.refl _ _).alloc (Nat.le_refl _) _
  have HB1:=hid hb1
  have HR1:Hid ((W.alloc (.cells #[] 73)).ownsRow 0 73 4 (.slice (some ⟨W.heap.size,0,none⟩) 0 0) 0 (z0n tkc [])):=hid ⟨rfl,.inr ⟨W.heap.size,0,#[],rfl,Nat.zero_le _,z0c W _,Nat.zero_le _,Nat.zero_le _,by simp,by simp [z0n]⟩⟩
  have HL1:=hid (SlG.later hL hb1)
  have HLN:=hid hL.len
  clear hL hb1
  go_enter Tryz.func92,Tryz.ntmps92
  go_wp2_with (at_builtin;refine z1i (k:=4) (by decide) Tryz.underlying24 info_tk rfl (by omega) rfl _ _ rfl (.slice (some ⟨W.heap.size,0,none⟩) 0 0) 0 (z0n tkc []) rfl HR1.out (some ad) n c (z0n tkc L) rfl (by rw [z1m q0x,HLN.out]) (slg_none HL1.out) (slg_cells q0x (by decide) HL1.out) (z1n tkc_one L) (by omega) ?_;intro p' c' w3 hr3 hc3 hl3)
  rw [← z1d,List.nil_append,Nat.zero_add] at hr3
  rw [Nat.zero_add] at hl3
  have hown:∀ b,(Value.slice p' n c').ownBlock=some b→W.heap.size≤b:=fun b hb=>by
   rcases hl3 b hb with h | h
   · cases h
     exact Nat.le_refl _
   · have:=HB1.out.size
     omega
  have HF:=hid (show FillG tkc 4 73 W w3 (.slice p' n c') L n from ⟨by rw [HLN.out];exact own_since hr3 hown,hc3.below HB1.out HB1.out.size fun k hk=>by cases hk;exact Nat.le_refl _,Nat.le_of_eq HLN.out⟩)
  clear hr3 hc3 hl3 hown
  go_ret
  exact⟨_,rfl,HF.out⟩
theorem z5h {W wr:World} {v:Value} {L:List Int} {N:Nat} (h:q0r W wr v L N):∃ p c,v=.slice p L.length c∧IL wr p L.length c L:=by
 obtain⟨p,c,hv,hs,_⟩:=SlG.of_own (d:=0) ic_len (by decide) h.own
 exact⟨p,c,hv,hs⟩
theorem z7u (tp:Option Addr) (tn tcp:Nat) (T:List Tk) (wp:Option Addr) (wn wcp:Nat) (M:List Ln) (s:Int) (W:World) (hT:TKL W tp tn tcp T) (hM:LL W wp wn wcp M) (hTok:∀ x∈T,Tkok x) (hMok:∀ x∈M,Lnok x) (htn:tn≤1000) (hwn:wn≤1000) :
 Calls Tryz.prog 42 #[.slice tp tn tcp,.slice wp wn wcp,.int .u8 s] W fun e w'=>e=.returned (.tuple #[.int .i64 (val (z1c T M s)),.bool (okB (z1c T M s))])∧Below W.heap.size W w':=by
 have HT:=hid hT
 have HM:=hid hM
 have HST:=hid fun j (hj:j<tn)=>tkparts_take T s j (by rw [hT.len];exact hj)
 have HSM:=hid fun j (hj:j<wn)=>z4c M s j (by rw [hM.len];exact hj)
 have HET:Hid (z1f (T.take tn) s=z1f T s):=hid (by rw [← hT.len,List.take_length])
 have HEM:Hid (z0z (M.take wn) s=z0z M s):=hid (by rw [← hM.len,List.take_length])
 have HIN:Hid (∀ z∈z1f T s++z0z M s,In64 z):=hid fun z hz=>by
  rcases List.mem_append.1 hz with hz | hz
  · exact tkparts_in hTok s z hz
  · exact z7x hMok s z hz
 have hc1:=hT.cap
 have hc2:=hM.cap
 clear hT hM hTok hMok
 go_enter Tryz.func42,Tryz.ntmps42
 go_wp2_with fail
 go_loopw [8,9] (fun v i wr=>∃ j:Nat,j≤tn∧i=.int .i64 j∧Hid (q0r W wr v (z1f (T.take j) s) j)) (fun _ i _=>tn-(Go.RowKit.intOf i).toNat)
 case atStart=>exact⟨0,Nat.zero_le _,rfl,hid (by simpa [z1f] using FillG.nil W)⟩
 case round =>
  obtain⟨j,hj,rfl,HF⟩:=hrel
  by_cases hlt:j<tn
  · have hlt':(j:Int)<tn:=by omega
    obtain⟨b,off,rfl,_,k0,k1,k2,k3⟩:=z1g (HT.out.later HF.out.below) hlt
    have hst:=HST.out j hlt
    generalize T.getD j tk0=x at *
    obtain⟨o,a,w,q⟩:=x
    dsimp only at k0 k1 k2 k3 hst
    by_cases ha:a=s
    · subst ha
      rw [if_pos rfl] at hst
      have hd:(a==a)=true:=by simp
      have HS:=hid hst
      have hsz:=HF.out.below.size
      have hmost:=HF.out.most
      clear hst
      go_wp2_with (at_builtin;refine z3d rfl _ _ rfl W.heap.size _ (z1f (T.take j) a).length (z1f (T.take j) a) rfl (HF.out.own.alloc _) (by omega) q wr.heap.size rfl (z8p wr q) (by simp;omega) ?_;intro v2 w2 h1 h2)
      have HF2:=hid (HF.out.step _ h1 h2)
      clear h1 h2 hsz hmost
      go_wp2_with fail
      go_roundw
      case rel=>exact⟨j+1,by omega,by go_num,hid (by rw [HS.out];exact HF2.out)⟩
      case measure=>simp [Go.RowKit.intOf];omega
    · have hd:(a==s)=false:=by simpa using ha
      rw [if_neg ha,List.append_nil] at hst
      have HS:=hid hst
      clear hst ha
      go_wp2_with fail
      go_roundw
      case rel=>exact⟨j+1,by omega,by go_num,hid (by rw [HS.out];exact HF.out.mono (by omega))⟩
      case measure=>simp [Go.RowKit.intOf];omega
  · obtain rfl:j=tn:=by omega
    have hF:=HF.out
    rw [HET.out] at hF
    have HG:=hid hF
    clear hF HF HST
    obtain⟨W1,hW1⟩:∃ W1,W1=wr:=⟨_,rfl⟩
    subst hW1
    go_wp2_with fail
    go_loopw [8,10] (fun v i wq=>∃ m:Nat,m≤wn∧i=.int .i64 m∧Hid (q0r W wq v (z1f T s++z0z (M.take m) s) (j+m))) (fun _ i _=>wn-(Go.RowKit.intOf i).toNat)
    case atStart=>exact⟨0,Nat.zero_le _,rfl,hid (by simpa [z0z] using HG.out)⟩
    case round =>
     obtain⟨m,hm,rfl,HF⟩:=hrel
     by_cases hlt2:m<wn
     · have hlt':(m:Int)<wn:=by omega
       obtain⟨b,off,rfl,_,k0,k1⟩:=z1o (HM.out.later HF.out.below) hlt2
       have hst:=HSM.out m hlt2
       generalize M.getD m l0=x at *
       obtain⟨a,q⟩:=x
       dsimp only at k0 k1 hst
       by_cases ha:a=s
       · subst ha
         rw [if_pos rfl] at hst
         have hd:(a==a)=true:=by simp
         have HS:=hid hst
         have hsz:=HF.out.below.size
         have hmost:=HF.out.most
         clear hst
         go_wp2_with (at_builtin;refine z3d rfl _ _ rfl W.heap.size _ (z1f T a++z0z (M.take m) a).length (z1f T a++z0z (M.take m) a) rfl (HF.out.own.alloc _) (by omega) q wr.heap.size rfl (z8p wr q) (by simp;omega) ?_;intro v2 w2 h1 h2)
         have HF2:=hid (HF.out.step _ h1 h2)
         clear h1 h2 hsz hmost
         go_wp2_with fail
         go_roundw
         case rel=>exact⟨m+1,by omega,by go_num,hid (by rw [HS.out,← List.append_assoc];exact HF2.out)⟩
         case measure=>simp [Go.RowKit.intOf];omega
       · have hd:(a==s)=false:=by simpa using ha
         rw [if_neg ha,List.append_nil] at hst
         have HS:=hid hst
         clear hst ha
         go_wp2_with fail
         go_roundw
         case rel=>exact⟨m+1,by omega,by go_num,hid (by rw [HS.out];exact HF.out.mono (by omega))⟩
         case measure=>simp [Go.RowKit.intOf];omega
     · obtain rfl:m=wn:=by omega
       have hF:=HF.out
       rw [HEM.out] at hF
       obtain⟨pv,cv,hv,hs⟩:=z5h hF
       have hm:=hF.most
       have hsum:=rsum_of pv _ cv _ _ (IL.row hs HIN.out) (by omega)
       have HB:=hid hF.below
       clear hF HF hs hm
       change Calls _ _ _ _ (fun e w'=>e=.returned (.tuple #[.int .i64 (val (z1c T M s)),.bool (okB (z1c T M s))])∧_) at hsum
       generalize (z1f T s++z0z M s).length=nn at *
       subst hv
       go_wp2_with fail
       refine hsum.mono ?_
       rintro e w4 ⟨rfl,h4⟩
       have HB4:=hid (HB.out.trans (h4.mono HB.out.size))
       clear hsum h4
       go_wp2_with fail
       go_ret2
       exact⟨rfl,HB4.out⟩
theorem op_eql (a b c z a' b' c' z':Int) (w:World):(binOp .eql 105 (.agg #[.int .u8 a,.int .u8 b,.int .u8 c,.int .i64 z]) (.agg #[.int .u8 a',.int .u8 b',.int .u8 c',.int .i64 z'])).run Tryz.prog w=.ok (.bool (decide ((((a,b,c),z):O)=((a',b',c'),z')))) w:=by
 by_cases h1:a=a'
 · by_cases h2:b=b'
   · by_cases h3:c=c'
     · by_cases h4:z=z'
       · subst h1 h2 h3 h4
         go_simp
       · subst h1 h2 h3
         go_simp
     · subst h1 h2
       go_simp
   · subst h1
     go_simp
 · go_simp
theorem line_neq (a z a' z':Int) (w:World):(binOp .neq 76 (.agg #[.int .u8 a,.int .i64 z]) (.agg #[.int .u8 a',.int .i64 z'])).run Tryz.prog w=.ok (.bool (!decide (((a,z):Ln)=(a',z')))) w:=by
 by_cases h1:a=a'
 · by_cases h4:z=z'
   · subst h1 h4
     go_simp
   · subst h1
     go_simp
 · go_simp
theorem lnlists_same {L M:List Ln} {n:Nat} (hL:L.length=n) (hM:M.length=n) (h:∀ j,j<n→L.getD j l0=M.getD j l0):L=M:=by
 apply List.ext_getElem (by omega)
 intro i h1 h2
 have:=h i (by omega)
 simpa [List.getD,List.getElem?_eq_getElem h1,List.getElem?_eq_getElem h2] using this
theorem rsame_ln (p q:Option Addr) (n m c d:Nat) (L M:List Ln) (W:World) (hL:LL W p n c L) (hM:LL W q m d M) (hn:n≤100000) (hm:m≤100000) :
 Calls Tryz.prog 73 #[.slice p n c,.slice q m d] W fun e w'=>e=.returned (.bool (decide (L=M)))∧Below W.heap.size W w':=by
 have HL:=hid hL
 have HM:=hid hM
 have hLl:=hL.len
 have hMl:=hM.len
 have HLN:=hid hLl
 have HMN:=hid hMl
 clear hL hM
 by_cases hnm:n=m
 · subst hnm
   have h0:((n:Int) != (n:Int))=false:=by simp
   have hcc:=HL.out.cap
   have hcd:=HM.out.cap
   clear hLl hMl
   go_enter Tryz.func73,Tryz.ntmps73
   go_wp2_with fail
   go_loopw [5] (fun i wr=>∃ j:Nat,j≤n∧i=.int .i64 j∧Hid (Below W.heap.size W wr)∧Hid (∀ i,i<j→L.getD i l0=M.getD i l0)) (fun i _=>n-(Go.RowKit.intOf i).toNat)
   case atStart=>exact⟨0,Nat.zero_le _,rfl,hid (Below.refl _ _),hid fun i hi=>by omega⟩
   case round =>
    obtain⟨j,hj,rfl,HB,HE⟩:=hrel
    by_cases hlt:j<n
    · have hlt':(j:Int)<n:=by omega
      obtain⟨b,off,rfl,_,c0,c1⟩:=z1o (HL.out.later HB.out) hlt
      obtain⟨b',off',rfl,_,d0,d1⟩:=z1o (HM.out.later HB.out) hlt
      generalize hx:L.getD j l0=x at *
      generalize hy:M.getD j l0=y at *
      have HX:=hid hx
      have HY:=hid hy
      have hq:=fun w=>line_neq x.1 x.2 y.1 y.2 w
      have e1:decide (((x.1,x.2):Ln)=(y.1,y.2))=decide (x=y):=rfl
      rw [e1] at hq
      clear e1 hx hy
      by_cases hxy:x=y
      · rw [decide_eq_true hxy] at hq
        have HXY:=hid hxy
        clear hxy
        go_wp2_with fail
        go_quiet (fail)
        go_wp2_with fail
        go_roundw
        case rel =>
         refine⟨j+1,by omega,by go_num,hid (z0e HB.out _),hid fun i hi=>?_⟩
         by_cases e:i=j
         · subst e;rw [HX.out,HY.out,HXY.out]
         · exact HE.out i (by omega)
        case measure=>simp [Go.RowKit.intOf];omega
      · rw [decide_eq_false hxy] at hq
        have HF:Hid (decide (L=M)=false):=hid (decide_eq_false fun e=>hxy (by rw [← HX.out,← HY.out,e]))
        clear hxy
        go_wp2_with fail
        go_quiet (fail)
        go_wp2_with fail
        go_ret
        exact⟨by rw [HF.out];rfl,z0e HB.out _⟩
    · obtain rfl:j=n:=by omega
      have HF:Hid (decide (L=M)=true):=hid (decide_eq_true (lnlists_same HLN.out HMN.out HE.out))
      go_wp2_with fail
      go_ret
      exact⟨by rw [HF.out];rfl,HB.out⟩
 · have h0:((n:Int) != (m:Int))=true:=by simp;omega
   have HF:Hid (decide (L=M)=false):=hid (decide_eq_false fun e=>hnm (by rw [← HLN.out,← HMN.out,e]))
   clear hLl hMl
   go_enter Tryz.func73,Tryz.ntmps73
   go_wp2_with fail
   go_ret
   exact⟨by rw [HF.out];rfl,Below.refl _ _⟩
theorem equal_ln (p q:Option Addr) (n m c d:Nat) (L M:List Ln) (W:World) (hL:LL W p n c L) (hM:LL W q m d M) (hn:n≤100000) (hm:m≤100000) :
 Calls Tryz.prog 142 #[.slice p n c,.slice q m d] W fun e w'=>e=.returned (.bool (decide (L=M)))∧Below W.heap.size W w':=by
 have HL:=hid hL
 have HM:=hid hM
 have HLN:=hid hL.len
 have HMN:=hid hM.len
 clear hL hM
 by_cases hnm:n=m
 · subst hnm
   have h0:((n:Int) != (n:Int))=false:=by simp
   have hcc:=HL.out.cap
   have hcd:=HM.out.cap
   go_enter Tryz.func142,Tryz.ntmps142
   go_wp2_with fail
   go_loopw [13] (fun i wr=>∃ j:Nat,j≤n∧i=.int .i64 j∧Hid (Below W.heap.size W wr)∧Hid (∀ i,i<j→L.getD i l0=M.getD i l0)) (fun i _=>n-(Go.RowKit.intOf i).toNat)
   case atStart=>exact⟨0,Nat.zero_le _,rfl,hid (Below.refl _ _),hid fun i hi=>by omega⟩
   case round =>
    obtain⟨j,hj,rfl,HB,HE⟩:=hrel
    by_cases hlt:j<n
    · have hlt':(j:Int)<n:=by omega
      obtain⟨b,off,rfl,_,c0,c1⟩:=z1o (HL.out.later HB.out) hlt
      obtain⟨b',off',rfl,_,d0,d1⟩:=z1o (HM.out.later HB.out) hlt
      generalize hx:L.getD j l0=x at *
      generalize hy:M.getD j l0=y at *
      have HX:=hid hx
      have HY:=hid hy
      have hq:=fun w=>line_neq x.1 x.2 y.1 y.2 w
      have e1:decide (((x.1,x.2):Ln)=(y.1,y.2))=decide (x=y):=rfl
      rw [e1] at hq
      clear e1 hx hy
      by_cases hxy:x=y
      · rw [decide_eq_true hxy] at hq
        have HXY:=hid hxy
        clear hxy
        go_wp2_with fail
        go_quiet (fail)
        go_wp2_with fail
        go_roundw
        case rel =>
         refine⟨j+1,by omega,by go_num,hid (z0e HB.out _),hid fun i hi=>?_⟩
         by_cases e:i=j
         · subst e;rw [HX.out,HY.out,HXY.out]
         · exact HE.out i (by omega)
        case measure=>simp [Go.RowKit.intOf];omega
      · rw [decide_eq_false hxy] at hq
        have HF:Hid (decide (L=M)=false):=hid (decide_eq_false fun e=>hxy (by rw [← HX.out,← HY.out,e]))
        clear hxy
        go_wp2_with fail
        go_quiet (fail)
        go_wp2_with fail
        go_ret
        exact⟨by rw [HF.out];rfl,z0e HB.out _⟩
    · obtain rfl:j=n:=by omega
      have HF:Hid (decide (L=M)=true):=hid (decide_eq_true (lnlists_same HLN.out HMN.out HE.out))
      go_wp2_with fail
      go_ret
      exact⟨by rw [HF.out];rfl,HB.out⟩
 · have h0:((n:Int) != (m:Int))=true:=by simp;omega
   have HF:Hid (decide (L=M)=false):=hid (decide_eq_false fun e=>hnm (by rw [← HLN.out,← HMN.out,e]))
   go_enter Tryz.func142,Tryz.ntmps142
   go_wp2_with fail
   go_ret
   exact⟨by rw [HF.out];rfl,Below.refl _ _⟩
theorem take_neq (o a w z o' a' w' z':Int) (W:World):(binOp .neq 73 (.agg #[.int .u32 o,.int .u8 a,.int .u8 w,.int .i64 z]) (.agg #[.int .u32 o',.int .u8 a',.int .u8 w',.int .i64 z'])).run Tryz.prog W=.ok (.bool (!decide (((o,a,w,z):Tk)=(o',a',w',z')))) W:=by
 by_cases h1:o=o'
 · by_cases h2:a=a'
   · by_cases h3:w=w'
     · by_cases h4:z=z'
       · subst h1 h2 h3 h4
         go_simp
       · subst h1 h2 h3
         go_simp
     · subst h1 h2
       go_simp
   · subst h1
     go_simp
 · go_simp
theorem tklists_same {L M:List Tk} {n:Nat} (hL:L.length=n) (hM:M.length=n) (h:∀ j,j<n→L.getD j tk0=M.getD j tk0):L=M:=by
 apply List.ext_getElem (by omega)
 intro i h1 h2
 have:=h i (by omega)
 simpa [List.getD,List.getElem?_eq_getElem h1,List.getElem?_eq_getElem h2] using this
theorem rsame_tk (p q:Option Addr) (n m c d:Nat) (L M:List Tk) (W:World) (hL:TKL W p n c L) (hM:TKL W q m d M) (hn:n≤100000) (hm:m≤100000) :
 Calls Tryz.prog 74 #[.slice p n c,.slice q m d] W fun e w'=>e=.returned (.bool (decide (L=M)))∧Below W.heap.size W w':=by
 have HL:=hid hL
 have HM:=hid hM
 have hLl:=hL.len
 have hMl:=hM.len
 have HLN:=hid hLl
 have HMN:=hid hMl
 clear hL hM
 by_cases hnm:n=m
 · subst hnm
   have h0:((n:Int) != (n:Int))=false:=by simp
   have hcc:=HL.out.cap
   have hcd:=HM.out.cap
   clear hLl hMl
   go_enter Tryz.func74,Tryz.ntmps74
   go_wp2_with fail
   go_loopw [5] (fun i wr=>∃ j:Nat,j≤n∧i=.int .i64 j∧Hid (Below W.heap.size W wr)∧Hid (∀ i,i<j→L.getD i tk0=M.getD i tk0)) (fun i _=>n-(Go.RowKit.intOf i).toNat)
   case atStart=>exact⟨0,Nat.zero_le _,rfl,hid (Below.refl _ _),hid fun i hi=>by omega⟩
   case round =>
    obtain⟨j,hj,rfl,HB,HE⟩:=hrel
    by_cases hlt:j<n
    · have hlt':(j:Int)<n:=by omega
      obtain⟨b,off,rfl,_,c0,c1,c2,c3⟩:=z1g (HL.out.later HB.out) hlt
      obtain⟨b',off',rfl,_,d0,d1,d2,d3⟩:=z1g (HM.out.later HB.out) hlt
      generalize hx:L.getD j tk0=x at *
      generalize hy:M.getD j tk0=y at *
      have HX:=hid hx
      have HY:=hid hy
      have hq:=fun w=>take_neq x.1 x.2.1 x.2.2.1 x.2.2.2 y.1 y.2.1 y.2.2.1 y.2.2.2 w
      have e1:decide (((x.1,x.2.1,x.2.2.1,x.2.2.2):Tk)=(y.1,y.2.1,y.2.2.1,y.2.2.2))=decide (x=y):=rfl
      rw [e1] at hq
      clear e1 hx hy
      by_cases hxy:x=y
      · rw [decide_eq_true hxy] at hq
        have HXY:=hid hxy
        clear hxy
        go_wp2_with fail
        go_quiet (fail)
        go_wp2_with fail
        go_roundw
        case rel =>
         refine⟨j+1,by omega,by go_num,hid (z0e HB.out _),hid fun i hi=>?_⟩
         by_cases e:i=j
         · subst e;rw [HX.out,HY.out,HXY.out]
         · exact HE.out i (by omega)
        case measure=>simp [Go.RowKit.intOf];omega
      · rw [decide_eq_false hxy] at hq
        have HF:Hid (decide (L=M)=false):=hid (decide_eq_false fun e=>hxy (by rw [← HX.out,← HY.out,e]))
        clear hxy
        go_wp2_with fail
        go_quiet (fail)
        go_wp2_with fail
        go_ret
        exact⟨by rw [HF.out];rfl,z0e HB.out _⟩
    · obtain rfl:j=n:=by omega
      have HF:Hid (decide (L=M)=true):=hid (decide_eq_true (tklists_same HLN.out HMN.out HE.out))
      go_wp2_with fail
      go_ret
      exact⟨by rw [HF.out];rfl,HB.out⟩
 · have h0:((n:Int) != (m:Int))=true:=by simp;omega
   have HF:Hid (decide (L=M)=false):=hid (decide_eq_false fun e=>hnm (by rw [← HLN.out,← HMN.out,e]))
   clear hLl hMl
   go_enter Tryz.func74,Tryz.ntmps74
   go_wp2_with fail
   go_ret
   exact⟨by rw [HF.out];rfl,Below.refl _ _⟩
theorem z2o (W:World) (a b:Array Value):∃ W2,(W.alloc (.cells a 26)).alloc (.cells b 26)=W2∧W2.heap[W.heap.size]?=some (.cells a 26 (0,0))∧W2.heap[W.heap.size+1]?=some (.cells b 26 (0,0))∧Below W.heap.size W W2:=by
 refine⟨_,rfl,?_,?_,((Below.refl _ _).alloc (Nat.le_refl _) _).alloc (by simp) _⟩
 · exact (Below.heap_alloc _ _ _ (by simp)).trans (z0c W _)
 · have:=z0c (W.alloc (.cells a 26)) (.cells b 26)
   rwa [World.size_alloc] at this
theorem prog_cases (k od po:Int) (L:List Ln) (T:List Tk) (M:List Ln) (sk fr to q:Int) (k' od' po':Int) (L':List Ln) (T':List Tk) (M':List Ln) (sk' fr' to' q':Int) :
 ((decide ((⟨k,od,po,L,T,M,sk,fr,to,q⟩:Pg)=⟨k',od',po',L',T',M',sk',fr',to',q'⟩):Bool)=((k==k') && (od==od') && (po==po') && decide (L=L') && decide (T=T') && decide (M=M') && (sk==sk') && (fr==fr') && (to==to') && (q==q'))):=by
 rw [Bool.eq_iff_iff]
 simp [and_assoc]
theorem cells_two (k od po:Int) (lp:Option Addr) (ln lcp:Nat) (tp:Option Addr) (tn tcp:Nat) (wp:Option Addr) (wn wcp:Nat) (sk fr to q:Int) (k' od' po':Int) (lp':Option Addr) (ln' lcp':Nat) (tp':Option Addr) (tn' tcp':Nat) (wp':Option Addr) (wn' wcp':Nat) (sk' fr' to' q':Int) {w:World} {X Y:Nat} (hx:w.heap[X]?=some (.cells #[.int .u8 k,.int .u32 od,.int .u8 po,.slice lp ln lcp,.slice tp tn tcp,.slice wp wn wcp,.int .u8 sk,.int .u8 fr,.int .u8 to,.int .i64 q] 26 (0,0))) (hy:w.heap[Y]?=some (.cells #[.int .u8 k',.int .u32 od',.int .u8 po',.slice lp' ln' lcp',.slice tp' tn' tcp',.slice wp' wn' wcp',.int .u8 sk',.int .u8 fr',.int .u8 to',.int .i64 q'] 26 (0,0))) :
 w.cell? ⟨X,0,none⟩=some (.int .u8 k)∧w.cell? ⟨X,1,none⟩=some (.int .u32 od)∧w.cell? ⟨X,2,none⟩=some (.int .u8 po)∧w.cell? ⟨X,3,none⟩=some (.slice lp ln lcp)∧w.cell? ⟨X,4,none⟩=some (.slice tp tn tcp)∧w.cell? ⟨X,5,none⟩=some (.slice wp wn wcp)∧w.cell? ⟨X,6,none⟩=some (.int .u8 sk)∧w.cell? ⟨X,7,none⟩=some (.int .u8 fr)∧w.cell? ⟨X,8,none⟩=some (.int .u8 to)∧w.cell? ⟨X,9,none⟩=some (.int .i64 q)∧w.cell? ⟨Y,0,none⟩=some (.int .u8 k')∧w.cell? ⟨Y,1,none⟩=some (.int .u32 od')∧w.cell? ⟨Y,2,none⟩=some (.int .u8 po')∧w.cell? ⟨Y,3,none⟩=some (.slice lp' ln' lcp')∧w.cell? ⟨Y,4,none⟩=some (.slice tp' tn' tcp')∧w.cell? ⟨Y,5,none⟩=some (.slice wp' wn' wcp')∧w.cell? ⟨Y,6,none⟩=some (.int .u8 sk')∧w.cell? ⟨Y,7,none⟩=some (.int .u8 fr')∧w.cell? ⟨Y,8,none⟩=some (.int .u8 to')∧w.cell? ⟨Y,9,none⟩=some (.int .i64 q'):=⟨z0a hx rfl,z0a hx rfl,z0a hx rfl,z0a hx rfl,z0a hx rfl,z0a hx rfl,z0a hx rfl,z0a hx rfl,z0a hx rfl,z0a hx rfl,z0a hy rfl,z0a hy rfl,z0a hy rfl,z0a hy rfl,z0a hy rfl,z0a hy rfl,z0a hy rfl,z0a hy rfl,z0a hy rfl,z0a hy rfl⟩
theorem z7t (k od po:Int) (lp:Option Addr) (ln lcp:Nat) (tp:Option Addr) (tn tcp:Nat) (wp:Option Addr) (wn wcp:Nat) (sk fr to q:Int) (k' od' po':Int) (lp':Option Addr) (ln' lcp':Nat) (tp':Option Addr) (tn' tcp':Nat) (wp':Option Addr) (wn' wcp':Nat) (sk' fr' to' q':Int) (L:List Ln) (T:List Tk) (M:List Ln) (L':List Ln) (T':List Tk) (M':List Ln) (W:World) (hP:PgM W lp ln lcp L tp tn tcp T wp wn wcp M) (hP':PgM W lp' ln' lcp' L' tp' tn' tcp' T' wp' wn' wcp' M') (h1:ln≤1000∧tn≤1000∧wn≤1000) (h2:ln'≤1000∧tn'≤1000∧wn'≤1000) :
 Calls Tryz.prog 39 #[.agg #[.int .u8 k,.int .u32 od,.int .u8 po,.slice lp ln lcp,.slice tp tn tcp,.slice wp wn wcp,.int .u8 sk,.int .u8 fr,.int .u8 to,.int .i64 q],.agg #[.int .u8 k',.int .u32 od',.int .u8 po',.slice lp' ln' lcp',.slice tp' tn' tcp',.slice wp' wn' wcp',.int .u8 sk',.int .u8 fr',.int .u8 to',.int .i64 q']] W fun e w'=>e=.returned (.bool (decide ((⟨k,od,po,L,T,M,sk,fr,to,q⟩:Pg)=⟨k',od',po',L',T',M',sk',fr',to',q'⟩)))∧Below W.heap.size W w':=by
 rw [prog_cases]
 obtain⟨W2,hW2,b0,b1,hb⟩:=z2o W #[.int .u8 k,.int .u32 od,.int .u8 po,.slice lp ln lcp,.slice tp tn tcp,.slice wp wn wcp,.int .u8 sk,.int .u8 fr,.int .u8 to,.int .i64 q] #[.int .u8 k',.int .u32 od',.int .u8 po',.slice lp' ln' lcp',.slice tp' tn' tcp',.slice wp' wn' wcp',.int .u8 sk',.int .u8 fr',.int .u8 to',.int .i64 q']
 have HW:=hid hW2
 have HB:=hid hb
 have HX:=hid b0
 have HY:=hid b1
 have HL:=hid fun w (h:Below W2.heap.size W2 w)=>rsame_ln lp lp' ln ln' lcp lcp' L L' w ((hP.later hb).l.later h) ((hP'.later hb).l.later h) (by omega) (by omega)
 have HT:=hid fun w (h:Below W2.heap.size W2 w)=>rsame_tk tp tp' tn tn' tcp tcp' T T' w ((hP.later hb).t.later h) ((hP'.later hb).t.later h) (by omega) (by omega)
 have HM:=hid fun w (h:Below W2.heap.size W2 w)=>rsame_ln wp wp' wn wn' wcp wcp' M M' w ((hP.later hb).o.later h) ((hP'.later hb).o.later h) (by omega) (by omega)
 have HC:=hid fun w (h:Below W2.heap.size W2 w)=>cells_two k od po lp ln lcp tp tn tcp wp wn wcp sk fr to q k' od' po' lp' ln' lcp' tp' tn' tcp' wp' wn' wcp' sk' fr' to' q' (z0b HX.out h) (z0b HY.out h)
 clear hP hP' h1 h2 hb b0 b1 hW2
 cases h0:(k==k') with
 | false =>
  have HF:Hid (((k==k') && (od==od') && (po==po') && decide (L=L') && decide (T=T') && decide (M=M') && (sk==sk') && (fr==fr') && (to==to') && (q==q'))=false):=hid (by rw [h0];simp)
  obtain⟨a0,a1,a2,a3,a4,a5,a6,a7,a8,a9,b0,b1,b2,b3,b4,b5,b6,b7,b8,b9⟩:=HC.out W2 (Below.refl _ _)
  go_enter Tryz.func39,Tryz.ntmps39
  go_wp2_with fail
  go_ret
  rw [HW.out]
  exact⟨by first | (rw [HF.out];rfl) | simp,HB.out⟩
 | true =>
  cases h1:(od==od') with
  | false =>
   have HF:Hid (((k==k') && (od==od') && (po==po') && decide (L=L') && decide (T=T') && decide (M=M') && (sk==sk') && (fr==fr') && (to==to') && (q==q'))=false):=hid (by rw [h0,h1];simp)
   obtain⟨a0,a1,a2,a3,a4,a5,a6,a7,a8,a9,b0,b1,b2,b3,b4,b5,b6,b7,b8,b9⟩:=HC.out W2 (Below.refl _ _)
   go_enter Tryz.func39,Tryz.ntmps39
   go_wp2_with fail
   go_ret
   rw [HW.out]
   exact⟨by first | (rw [HF.out];rfl) | simp,HB.out⟩
  | true =>
   cases h2:(po==po') with
   | false =>
    have HF:Hid (((k==k') && (od==od') && (po==po') && decide (L=L') && decide (T=T') && decide (M=M') && (sk==sk') && (fr==fr') && (to==to') && (q==q'))=false):=hid (by rw [h0,h1,h2];simp)
    obtain⟨a0,a1,a2,a3,a4,a5,a6,a7,a8,a9,b0,b1,b2,b3,b4,b5,b6,b7,b8,b9⟩:=HC.out W2 (Below.refl _ _)
    go_enter Tryz.func39,Tryz.ntmps39
    go_wp2_with fail
    go_ret
    rw [HW.out]
    exact⟨by first | (rw [HF.out];rfl) | simp,HB.out⟩
   | true =>
    cases h3:decide (L=L') with
    | false =>
     have HF:Hid (((k==k') && (od==od') && (po==po') && decide (L=L') && decide (T=T') && decide (M=M') && (sk==sk') && (fr==fr') && (to==to') && (q==q'))=false):=hid (by rw [h0,h1,h2,h3];simp)
     obtain⟨a0,a1,a2,a3,a4,a5,a6,a7,a8,a9,b0,b1,b2,b3,b4,b5,b6,b7,b8,b9⟩:=HC.out W2 (Below.refl _ _)
     go_enter Tryz.func39,Tryz.ntmps39
     go_wp2_with fail
     rw [HW.out]
     have hc0:=HL.out W2 (Below.refl _ _)
     rw [h3] at hc0
     refine hc0.mono ?_
     rintro e w0 ⟨rfl,hb0⟩
     have HB0:Hid (Below W2.heap.size W2 w0):=hid (hb0)
     clear hc0 hb0 a0 a1 a2 a3 a4 a5 a6 a7 a8 a9 b0 b1 b2 b3 b4 b5 b6 b7 b8 b9
     obtain⟨a0,a1,a2,a3,a4,a5,a6,a7,a8,a9,b0,b1,b2,b3,b4,b5,b6,b7,b8,b9⟩:=HC.out w0 HB0.out
     go_wp2_with fail
     go_ret
     exact⟨by first | (rw [HF.out];rfl) | simp,HB.out.trans (HB0.out.mono HB.out.size)⟩
    | true =>
     cases h4:decide (T=T') with
     | false =>
      have HF:Hid (((k==k') && (od==od') && (po==po') && decide (L=L') && decide (T=T') && decide (M=M') && (sk==sk') && (fr==fr') && (to==to') && (q==q'))=false):=hid (by rw [h0,h1,h2,h3,h4];simp)
      obtain⟨a0,a1,a2,a3,a4,a5,a6,a7,a8,a9,b0,b1,b2,b3,b4,b5,b6,b7,b8,b9⟩:=HC.out W2 (Below.refl _ _)
      go_enter Tryz.func39,Tryz.ntmps39
      go_wp2_with fail
      rw [HW.out]
      have hc0:=HL.out W2 (Below.refl _ _)
      rw [h3] at hc0
      refine hc0.mono ?_
      rintro e w0 ⟨rfl,hb0⟩
      have HB0:Hid (Below W2.heap.size W2 w0):=hid (hb0)
      clear hc0 hb0 a0 a1 a2 a3 a4 a5 a6 a7 a8 a9 b0 b1 b2 b3 b4 b5 b6 b7 b8 b9
      obtain⟨a0,a1,a2,a3,a4,a5,a6,a7,a8,a9,b0,b1,b2,b3,b4,b5,b6,b7,b8,b9⟩:=HC.out w0 HB0.out
      go_wp2_with fail
      have hc1:=HT.out w0 HB0.out
      rw [h4] at hc1
      refine hc1.mono ?_
      rintro e w1 ⟨rfl,hb1⟩
      have HB1:Hid (Below W2.heap.size W2 w1):=hid (HB0.out.trans (hb1.mono HB0.out.size))
      clear hc1 hb1 a0 a1 a2 a3 a4 a5 a6 a7 a8 a9 b0 b1 b2 b3 b4 b5 b6 b7 b8 b9
      obtain⟨a0,a1,a2,a3,a4,a5,a6,a7,a8,a9,b0,b1,b2,b3,b4,b5,b6,b7,b8,b9⟩:=HC.out w1 HB1.out
      go_wp2_with fail
      go_ret
      exact⟨by first | (rw [HF.out];rfl) | simp,HB.out.trans (HB1.out.mono HB.out.size)⟩
     | true =>
      cases h5:decide (M=M') with
      | false =>
       have HF:Hid (((k==k') && (od==od') && (po==po') && decide (L=L') && decide (T=T') && decide (M=M') && (sk==sk') && (fr==fr') && (to==to') && (q==q'))=false):=hid (by rw [h0,h1,h2,h3,h4,h5];simp)
       obtain⟨a0,a1,a2,a3,a4,a5,a6,a7,a8,a9,b0,b1,b2,b3,b4,b5,b6,b7,b8,b9⟩:=HC.out W2 (Below.refl _ _)
       go_enter Tryz.func39,Tryz.ntmps39
       go_wp2_with fail
       rw [HW.out]
       have hc0:=HL.out W2 (Below.refl _ _)
       rw [h3] at hc0
       refine hc0.mono ?_
       rintro e w0 ⟨rfl,hb0⟩
       have HB0:Hid (Below W2.heap.size W2 w0):=hid (hb0)
       clear hc0 hb0 a0 a1 a2 a3 a4 a5 a6 a7 a8 a9 b0 b1 b2 b3 b4 b5 b6 b7 b8 b9
       obtain⟨a0,a1,a2,a3,a4,a5,a6,a7,a8,a9,b0,b1,b2,b3,b4,b5,b6,b7,b8,b9⟩:=HC.out w0 HB0.out
       go_wp2_with fail
       have hc1:=HT.out w0 HB0.out
       rw [h4] at hc1
       refine hc1.mono ?_
       rintro e w1 ⟨rfl,hb1⟩
       have HB1:Hid (Below W2.heap.size W2 w1):=hid (HB0.out.trans (hb1.mono HB0.out.size))
       clear hc1 hb1 a0 a1 a2 a3 a4 a5 a6 a7 a8 a9 b0 b1 b2 b3 b4 b5 b6 b7 b8 b9
       obtain⟨a0,a1,a2,a3,a4,a5,a6,a7,a8,a9,b0,b1,b2,b3,b4,b5,b6,b7,b8,b9⟩:=HC.out w1 HB1.out
       go_wp2_with fail
       have hc2:=HM.out w1 HB1.out
       rw [h5] at hc2
       refine hc2.mono ?_
       rintro e w2 ⟨rfl,hb2⟩
       have HB2:Hid (Below W2.heap.size W2 w2):=hid (HB1.out.trans (hb2.mono HB1.out.size))
       clear hc2 hb2 a0 a1 a2 a3 a4 a5 a6 a7 a8 a9 b0 b1 b2 b3 b4 b5 b6 b7 b8 b9
       obtain⟨a0,a1,a2,a3,a4,a5,a6,a7,a8,a9,b0,b1,b2,b3,b4,b5,b6,b7,b8,b9⟩:=HC.out w2 HB2.out
       go_wp2_with fail
       go_ret
       exact⟨by first | (rw [HF.out];rfl) | simp,HB.out.trans (HB2.out.mono HB.out.size)⟩
      | true =>
       cases h6:(sk==sk') with
       | false =>
        have HF:Hid (((k==k') && (od==od') && (po==po') && decide (L=L') && decide (T=T') && decide (M=M') && (sk==sk') && (fr==fr') && (to==to') && (q==q'))=false):=hid (by rw [h0,h1,h2,h3,h4,h5,h6];simp)
        obtain⟨a0,a1,a2,a3,a4,a5,a6,a7,a8,a9,b0,b1,b2,b3,b4,b5,b6,b7,b8,b9⟩:=HC.out W2 (Below.refl _ _)
        go_enter Tryz.func39,Tryz.ntmps39
        go_wp2_with fail
        rw [HW.out]
        have hc0:=HL.out W2 (Below.refl _ _)
        rw [h3] at hc0
        refine hc0.mono ?_
        rintro e w0 ⟨rfl,hb0⟩
        have HB0:Hid (Below W2.heap.size W2 w0):=hid (hb0)
        clear hc0 hb0 a0 a1 a2 a3 a4 a5 a6 a7 a8 a9 b0 b1 b2 b3 b4 b5 b6 b7 b8 b9
        obtain⟨a0,a1,a2,a3,a4,a5,a6,a7,a8,a9,b0,b1,b2,b3,b4,b5,b6,b7,b8,b9⟩:=HC.out w0 HB0.out
        go_wp2_with fail
        have hc1:=HT.out w0 HB0.out
        rw [h4] at hc1
        refine hc1.mono ?_
        rintro e w1 ⟨rfl,hb1⟩
        have HB1:Hid (Below W2.heap.size W2 w1):=hid (HB0.out.trans (hb1.mono HB0.out.size))
        clear hc1 hb1 a0 a1 a2 a3 a4 a5 a6 a7 a8 a9 b0 b1 b2 b3 b4 b5 b6 b7 b8 b9
        obtain⟨a0,a1,a2,a3,a4,a5,a6,a7,a8,a9,b0,b1,b2,b3,b4,b5,b6,b7,b8,b9⟩:=HC.out w1 HB1.out
        go_wp2_with fail
        have hc2:=HM.out w1 HB1.out
        rw [h5] at hc2
        refine hc2.mono ?_
        rintro e w2 ⟨rfl,hb2⟩
        have HB2:Hid (Below W2.heap.size W2 w2):=hid (HB1.out.trans (hb2.mono HB1.out.size))
        clear hc2 hb2 a0 a1 a2 a3 a4 a5 a6 a7 a8 a9 b0 b1 b2 b3 b4 b5 b6 b7 b8 b9
        obtain⟨a0,a1,a2,a3,a4,a5,a6,a7,a8,a9,b0,b1,b2,b3,b4,b5,b6,b7,b8,b9⟩:=HC.out w2 HB2.out
        go_wp2_with fail
        go_ret
        exact⟨by first | (rw [HF.out];rfl) | simp,HB.out.trans (HB2.out.mono HB.out.size)⟩
       | true =>
        cases h7:(fr==fr') with
        | false =>
         have HF:Hid (((k==k') && (od==od') && (po==po') && decide (L=L') && decide (T=T') && decide (M=M') && (sk==sk') && (fr==fr') && (to==to') && (q==q'))=false):=hid (by rw [h0,h1,h2,h3,h4,h5,h6,h7];simp)
         obtain⟨a0,a1,a2,a3,a4,a5,a6,a7,a8,a9,b0,b1,b2,b3,b4,b5,b6,b7,b8,b9⟩:=HC.out W2 (Below.refl _ _)
         go_enter Tryz.func39,Tryz.ntmps39
         go_wp2_with fail
         rw [HW.out]
         have hc0:=HL.out W2 (Below.refl _ _)
         rw [h3] at hc0
         refine hc0.mono ?_
         rintro e w0 ⟨rfl,hb0⟩
         have HB0:Hid (Below W2.heap.size W2 w0):=hid (hb0)
         clear hc0 hb0 a0 a1 a2 a3 a4 a5 a6 a7 a8 a9 b0 b1 b2 b3 b4 b5 b6 b7 b8 b9
         obtain⟨a0,a1,a2,a3,a4,a5,a6,a7,a8,a9,b0,b1,b2,b3,b4,b5,b6,b7,b8,b9⟩:=HC.out w0 HB0.out
         go_wp2_with fail
         have hc1:=HT.out w0 HB0.out
         rw [h4] at hc1
         refine hc1.mono ?_
         rintro e w1 ⟨rfl,hb1⟩
         have HB1:Hid (Below W2.heap.size W2 w1):=hid (HB0.out.trans (hb1.mono HB0.out.size))
         clear hc1 hb1 a0 a1 a2 a3 a4 a5 a6 a7 a8 a9 b0 b1 b2 b3 b4 b5 b6 b7 b8 b9
         obtain⟨a0,a1,a2,a3,a4,a5,a6,a7,a8,a9,b0,b1,b2,b3,b4,b5,b6,b7,b8,b9⟩:=HC.out w1 HB1.out
         go_wp2_with fail
         have hc2:=HM.out w1 HB1.out
         rw [h5] at hc2
         refine hc2.mono ?_
         rintro e w2 ⟨rfl,hb2⟩
         have HB2:Hid (Below W2.heap.size W2 w2):=hid (HB1.out.trans (hb2.mono HB1.out.size))
         clear hc2 hb2 a0 a1 a2 a3 a4 a5 a6 a7 a8 a9 b0 b1 b2 b3 b4 b5 b6 b7 b8 b9
         obtain⟨a0,a1,a2,a3,a4,a5,a6,a7,a8,a9,b0,b1,b2,b3,b4,b5,b6,b7,b8,b9⟩:=HC.out w2 HB2.out
         go_wp2_with fail
         go_ret
         exact⟨by first | (rw [HF.out];rfl) | simp,HB.out.trans (HB2.out.mono HB.out.size)⟩
        | true =>
         cases h8:(to==to') with
         | false =>
          have HF:Hid (((k==k') && (od==od') && (po==po') && decide (L=L') && decide (T=T') && decide (M=M') && (sk==sk') && (fr==fr') && (to==to') && (q==q'))=false):=hid (by rw [h0,h1,h2,h3,h4,h5,h6,h7,h8];simp)
          obtain⟨a0,a1,a2,a3,a4,a5,a6,a7,a8,a9,b0,b1,b2,b3,b4,b5,b6,b7,b8,b9⟩:=HC.out W2 (Below.refl _ _)
          go_enter Tryz.func39,Tryz.ntmps39
          go_wp2_with fail
          rw [HW.out]
          have hc0:=HL.out W2 (Below.refl _ _)
          rw [h3] at hc0
          refine hc0.mono ?_
          rintro e w0 ⟨rfl,hb0⟩
          have HB0:Hid (Below W2.heap.size W2 w0):=hid (hb0)
          clear hc0 hb0 a0 a1 a2 a3 a4 a5 a6 a7 a8 a9 b0 b1 b2 b3 b4 b5 b6 b7 b8 b9
          obtain⟨a0,a1,a2,a3,a4,a5,a6,a7,a8,a9,b0,b1,b2,b3,b4,b5,b6,b7,b8,b9⟩:=HC.out w0 HB0.out
          go_wp2_with fail
          have hc1:=HT.out w0 HB0.out
          rw [h4] at hc1
          refine hc1.mono ?_
          rintro e w1 ⟨rfl,hb1⟩
          have HB1:Hid (Below W2.heap.size W2 w1):=hid (HB0.out.trans (hb1.mono HB0.out.size))
          clear hc1 hb1 a0 a1 a2 a3 a4 a5 a6 a7 a8 a9 b0 b1 b2 b3 b4 b5 b6 b7 b8 b9
          obtain⟨a0,a1,a2,a3,a4,a5,a6,a7,a8,a9,b0,b1,b2,b3,b4,b5,b6,b7,b8,b9⟩:=HC.out w1 HB1.out
          go_wp2_with fail
          have hc2:=HM.out w1 HB1.out
          rw [h5] at hc2
          refine hc2.mono ?_
          rintro e w2 ⟨rfl,hb2⟩
          have HB2:Hid (Below W2.heap.size W2 w2):=hid (HB1.out.trans (hb2.mono HB1.out.size))
          clear hc2 hb2 a0 a1 a2 a3 a4 a5 a6 a7 a8 a9 b0 b1 b2 b3 b4 b5 b6 b7 b8 b9
          obtain⟨a0,a1,a2,a3,a4,a5,a6,a7,a8,a9,b0,b1,b2,b3,b4,b5,b6,b7,b8,b9⟩:=HC.out w2 HB2.out
          go_wp2_with fail
          go_ret
          exact⟨by first | (rw [HF.out];rfl) | simp,HB.out.trans (HB2.out.mono HB.out.size)⟩
         | true =>
          cases h9:(q==q') with
          | false =>
           have HF:Hid (((k==k') && (od==od') && (po==po') && decide (L=L') && decide (T=T') && decide (M=M') && (sk==sk') && (fr==fr') && (to==to') && (q==q'))=false):=hid (by rw [h0,h1,h2,h3,h4,h5,h6,h7,h8,h9];simp)
           obtain⟨a0,a1,a2,a3,a4,a5,a6,a7,a8,a9,b0,b1,b2,b3,b4,b5,b6,b7,b8,b9⟩:=HC.out W2 (Below.refl _ _)
           go_enter Tryz.func39,Tryz.ntmps39
           go_wp2_with fail
           rw [HW.out]
           have hc0:=HL.out W2 (Below.refl _ _)
           rw [h3] at hc0
           refine hc0.mono ?_
           rintro e w0 ⟨rfl,hb0⟩
           have HB0:Hid (Below W2.heap.size W2 w0):=hid (hb0)
           clear hc0 hb0 a0 a1 a2 a3 a4 a5 a6 a7 a8 a9 b0 b1 b2 b3 b4 b5 b6 b7 b8 b9
           obtain⟨a0,a1,a2,a3,a4,a5,a6,a7,a8,a9,b0,b1,b2,b3,b4,b5,b6,b7,b8,b9⟩:=HC.out w0 HB0.out
           go_wp2_with fail
           have hc1:=HT.out w0 HB0.out
           rw [h4] at hc1
           refine hc1.mono ?_
           rintro e w1 ⟨rfl,hb1⟩
           have HB1:Hid (Below W2.heap.size W2 w1):=hid (HB0.out.trans (hb1.mono HB0.out.size))
           clear hc1 hb1 a0 a1 a2 a3 a4 a5 a6 a7 a8 a9 b0 b1 b2 b3 b4 b5 b6 b7 b8 b9
           obtain⟨a0,a1,a2,a3,a4,a5,a6,a7,a8,a9,b0,b1,b2,b3,b4,b5,b6,b7,b8,b9⟩:=HC.out w1 HB1.out
           go_wp2_with fail
           have hc2:=HM.out w1 HB1.out
           rw [h5] at hc2
           refine hc2.mono ?_
           rintro e w2 ⟨rfl,hb2⟩
           have HB2:Hid (Below W2.heap.size W2 w2):=hid (HB1.out.trans (hb2.mono HB1.out.size))
           clear hc2 hb2 a0 a1 a2 a3 a4 a5 a6 a7 a8 a9 b0 b1 b2 b3 b4 b5 b6 b7 b8 b9
           obtain⟨a0,a1,a2,a3,a4,a5,a6,a7,a8,a9,b0,b1,b2,b3,b4,b5,b6,b7,b8,b9⟩:=HC.out w2 HB2.out
           go_wp2_with fail
           go_ret
           exact⟨by first | (rw [HF.out];rfl) | simp,HB.out.trans (HB2.out.mono HB.out.size)⟩
          | true =>
           have HF:Hid (((k==k') && (od==od') && (po==po') && decide (L=L') && decide (T=T') && decide (M=M') && (sk==sk') && (fr==fr') && (to==to') && (q==q'))=true):=hid (by rw [h0,h1,h2,h3,h4,h5,h6,h7,h8,h9];rfl)
           obtain⟨a0,a1,a2,a3,a4,a5,a6,a7,a8,a9,b0,b1,b2,b3,b4,b5,b6,b7,b8,b9⟩:=HC.out W2 (Below.refl _ _)
           go_enter Tryz.func39,Tryz.ntmps39
           go_wp2_with fail
           rw [HW.out]
           have hc0:=HL.out W2 (Below.refl _ _)
           rw [h3] at hc0
           refine hc0.mono ?_
           rintro e w0 ⟨rfl,hb0⟩
           have HB0:Hid (Below W2.heap.size W2 w0):=hid (hb0)
           clear hc0 hb0 a0 a1 a2 a3 a4 a5 a6 a7 a8 a9 b0 b1 b2 b3 b4 b5 b6 b7 b8 b9
           obtain⟨a0,a1,a2,a3,a4,a5,a6,a7,a8,a9,b0,b1,b2,b3,b4,b5,b6,b7,b8,b9⟩:=HC.out w0 HB0.out
           go_wp2_with fail
           have hc1:=HT.out w0 HB0.out
           rw [h4] at hc1
           refine hc1.mono ?_
           rintro e w1 ⟨rfl,hb1⟩
           have HB1:Hid (Below W2.heap.size W2 w1):=hid (HB0.out.trans (hb1.mono HB0.out.size))
           clear hc1 hb1 a0 a1 a2 a3 a4 a5 a6 a7 a8 a9 b0 b1 b2 b3 b4 b5 b6 b7 b8 b9
           obtain⟨a0,a1,a2,a3,a4,a5,a6,a7,a8,a9,b0,b1,b2,b3,b4,b5,b6,b7,b8,b9⟩:=HC.out w1 HB1.out
           go_wp2_with fail
           have hc2:=HM.out w1 HB1.out
           rw [h5] at hc2
           refine hc2.mono ?_
           rintro e w2 ⟨rfl,hb2⟩
           have HB2:Hid (Below W2.heap.size W2 w2):=hid (HB1.out.trans (hb2.mono HB1.out.size))
           clear hc2 hb2 a0 a1 a2 a3 a4 a5 a6 a7 a8 a9 b0 b1 b2 b3 b4 b5 b6 b7 b8 b9
           obtain⟨a0,a1,a2,a3,a4,a5,a6,a7,a8,a9,b0,b1,b2,b3,b4,b5,b6,b7,b8,b9⟩:=HC.out w2 HB2.out
           go_wp2_with fail
           go_ret
           exact⟨by first | (rw [HF.out];rfl) | simp,HB.out.trans (HB2.out.mono HB.out.size)⟩
theorem equal_tk (p q:Option Addr) (n m c d:Nat) (L M:List Tk) (W:World) (hL:TKL W p n c L) (hM:TKL W q m d M) (hn:n≤100000) (hm:m≤100000) :
 Calls Tryz.prog 143 #[.slice p n c,.slice q m d] W fun e w'=>e=.returned (.bool (decide (L=M)))∧Below W.heap.size W w':=by
 have HL:=hid hL
 have HM:=hid hM
 have HLN:=hid hL.len
 have HMN:=hid hM.len
 clear hL hM
 by_cases hnm:n=m
 · subst hnm
   have h0:((n:Int) != (n:Int))=false:=by simp
   have hcc:=HL.out.cap
   have hcd:=HM.out.cap
   go_enter Tryz.func143,Tryz.ntmps143
   go_wp2_with fail
   go_loopw [13] (fun i wr=>∃ j:Nat,j≤n∧i=.int .i64 j∧Hid (Below W.heap.size W wr)∧Hid (∀ i,i<j→L.getD i tk0=M.getD i tk0)) (fun i _=>n-(Go.RowKit.intOf i).toNat)
   case atStart=>exact⟨0,Nat.zero_le _,rfl,hid (Below.refl _ _),hid fun i hi=>by omega⟩
   case round =>
    obtain⟨j,hj,rfl,HB,HE⟩:=hrel
    by_cases hlt:j<n
    · have hlt':(j:Int)<n:=by omega
      obtain⟨b,off,rfl,_,c0,c1,c2,c3⟩:=z1g (HL.out.later HB.out) hlt
      obtain⟨b',off',rfl,_,d0,d1,d2,d3⟩:=z1g (HM.out.later HB.out) hlt
      generalize hx:L.getD j tk0=x at *
      generalize hy:M.getD j tk0=y at *
      have HX:=hid hx
      have HY:=hid hy
      have hq:=fun w=>take_neq x.1 x.2.1 x.2.2.1 x.2.2.2 y.1 y.2.1 y.2.2.1 y.2.2.2 w
      have e1:decide (((x.1,x.2.1,x.2.2.1,x.2.2.2):Tk)=(y.1,y.2.1,y.2.2.1,y.2.2.2))=decide (x=y):=rfl
      rw [e1] at hq
      clear e1 hx hy
      by_cases hxy:x=y
      · rw [decide_eq_true hxy] at hq
        have HXY:=hid hxy
        clear hxy
        go_wp2_with fail
        go_quiet (fail)
        go_wp2_with fail
        go_roundw
        case rel =>
         refine⟨j+1,by omega,by go_num,hid (z0e HB.out _),hid fun i hi=>?_⟩
         by_cases e:i=j
         · subst e;rw [HX.out,HY.out,HXY.out]
         · exact HE.out i (by omega)
        case measure=>simp [Go.RowKit.intOf];omega
      · rw [decide_eq_false hxy] at hq
        have HF:Hid (decide (L=M)=false):=hid (decide_eq_false fun e=>hxy (by rw [← HX.out,← HY.out,e]))
        clear hxy
        go_wp2_with fail
        go_quiet (fail)
        go_wp2_with fail
        go_ret
        exact⟨by rw [HF.out];rfl,z0e HB.out _⟩
    · obtain rfl:j=n:=by omega
      have HF:Hid (decide (L=M)=true):=hid (decide_eq_true (tklists_same HLN.out HMN.out HE.out))
      go_wp2_with fail
      go_ret
      exact⟨by rw [HF.out];rfl,HB.out⟩
 · have h0:((n:Int) != (m:Int))=true:=by simp;omega
   have HF:Hid (decide (L=M)=false):=hid (decide_eq_false fun e=>hnm (by rw [← HLN.out,← HMN.out,e]))
   go_enter Tryz.func143,Tryz.ntmps143
   go_wp2_with fail
   go_ret
   exact⟨by rw [HF.out];rfl,Below.refl _ _⟩
theorem prog_order (k od po sk fr to q k' od' po' sk' fr' to' q':Int) (L:List Ln) (T:List Tk) (M:List Ln) (L':List Ln) (T':List Tk) (M':List Ln):((k==k') && (od==od') && (po==po') && decide (L=L') && decide (T=T') && decide (M=M') && (sk==sk') && (fr==fr') && (to==to') && (q==q'))=((k==k') && (od==od') && (po==po') && (sk==sk') && (fr==fr') && (to==to') && (q==q') && decide (L=L') && decide (T=T') && decide (M=M')):=by
 generalize (k==k')=x0
 generalize (od==od')=x1
 generalize (po==po')=x2
 generalize decide (L=L')=x3
 generalize decide (T=T')=x4
 generalize decide (M=M')=x5
 generalize (sk==sk')=x6
 generalize (fr==fr')=x7
 generalize (to==to')=x8
 generalize (q==q')=x9
 cases x0 <;> cases x1 <;> cases x2 <;> cases x3 <;> cases x4 <;> cases x5 <;> cases x6 <;> cases x7 <;> cases x8 <;> cases x9 <;> rfl
theorem same_p (k od po:Int) (lp:Option Addr) (ln lcp:Nat) (tp:Option Addr) (tn tcp:Nat) (wp:Option Addr) (wn wcp:Nat) (sk fr to q:Int) (k' od' po':Int) (lp':Option Addr) (ln' lcp':Nat) (tp':Option Addr) (tn' tcp':Nat) (wp':Option Addr) (wn' wcp':Nat) (sk' fr' to' q':Int) (L:List Ln) (T:List Tk) (M:List Ln) (L':List Ln) (T':List Tk) (M':List Ln) (W:World) (hP:PgM W lp ln lcp L tp tn tcp T wp wn wcp M) (hP':PgM W lp' ln' lcp' L' tp' tn' tcp' T' wp' wn' wcp' M') (h1:ln≤1000∧tn≤1000∧wn≤1000) (h2:ln'≤1000∧tn'≤1000∧wn'≤1000) :
 Calls Tryz.prog 122 #[.agg #[.int .u8 k,.int .u32 od,.int .u8 po,.slice lp ln lcp,.slice tp tn tcp,.slice wp wn wcp,.int .u8 sk,.int .u8 fr,.int .u8 to,.int .i64 q],.agg #[.int .u8 k',.int .u32 od',.int .u8 po',.slice lp' ln' lcp',.slice tp' tn' tcp',.slice wp' wn' wcp',.int .u8 sk',.int .u8 fr',.int .u8 to',.int .i64 q']] W fun e w'=>e=.returned (.bool (decide ((⟨k,od,po,L,T,M,sk,fr,to,q⟩:Pg)=⟨k',od',po',L',T',M',sk',fr',to',q'⟩)))∧Below W.heap.size W w':=by
 rw [prog_cases,prog_order]
 obtain⟨W2,hW2,b0,b1,hb⟩:=z2o W #[.int .u8 k,.int .u32 od,.int .u8 po,.slice lp ln lcp,.slice tp tn tcp,.slice wp wn wcp,.int .u8 sk,.int .u8 fr,.int .u8 to,.int .i64 q] #[.int .u8 k',.int .u32 od',.int .u8 po',.slice lp' ln' lcp',.slice tp' tn' tcp',.slice wp' wn' wcp',.int .u8 sk',.int .u8 fr',.int .u8 to',.int .i64 q']
 have HW:=hid hW2
 have HB:=hid hb
 have HX:=hid b0
 have HY:=hid b1
 have HL:=hid fun w (h:Below W2.heap.size W2 w)=>equal_ln lp lp' ln ln' lcp lcp' L L' w ((hP.later hb).l.later h) ((hP'.later hb).l.later h) (by omega) (by omega)
 have HT:=hid fun w (h:Below W2.heap.size W2 w)=>equal_tk tp tp' tn tn' tcp tcp' T T' w ((hP.later hb).t.later h) ((hP'.later hb).t.later h) (by omega) (by omega)
 have HM:=hid fun w (h:Below W2.heap.size W2 w)=>equal_ln wp wp' wn wn' wcp wcp' M M' w ((hP.later hb).o.later h) ((hP'.later hb).o.later h) (by omega) (by omega)
 have HC:=hid fun w (h:Below W2.heap.size W2 w)=>cells_two k od po lp ln lcp tp tn tcp wp wn wcp sk fr to q k' od' po' lp' ln' lcp' tp' tn' tcp' wp' wn' wcp' sk' fr' to' q' (z0b HX.out h) (z0b HY.out h)
 clear hP hP' h1 h2 hb b0 b1 hW2
 cases h0:(k==k') with
 | false =>
  have HF:Hid (((k==k') && (od==od') && (po==po') && (sk==sk') && (fr==fr') && (to==to') && (q==q') && decide (L=L') && decide (T=T') && decide (M=M'))=false):=hid (by rw [h0];simp)
  obtain⟨a0,a1,a2,a3,a4,a5,a6,a7,a8,a9,b0,b1,b2,b3,b4,b5,b6,b7,b8,b9⟩:=HC.out W2 (Below.refl _ _)
  go_enter Tryz.func122,Tryz.ntmps122
  go_wp2_with fail
  go_ret
  rw [HW.out]
  exact⟨by first | (rw [HF.out];rfl) | simp,HB.out⟩
 | true =>
  cases h1:(od==od') with
  | false =>
   have HF:Hid (((k==k') && (od==od') && (po==po') && (sk==sk') && (fr==fr') && (to==to') && (q==q') && decide (L=L') && decide (T=T') && decide (M=M'))=false):=hid (by rw [h0,h1];simp)
   obtain⟨a0,a1,a2,a3,a4,a5,a6,a7,a8,a9,b0,b1,b2,b3,b4,b5,b6,b7,b8,b9⟩:=HC.out W2 (Below.refl _ _)
   go_enter Tryz.func122,Tryz.ntmps122
   go_wp2_with fail
   go_ret
   rw [HW.out]
   exact⟨by first | (rw [HF.out];rfl) | simp,HB.out⟩
  | true =>
   cases h2:(po==po') with
   | false =>
    have HF:Hid (((k==k') && (od==od') && (po==po') && (sk==sk') && (fr==fr') && (to==to') && (q==q') && decide (L=L') && decide (T=T') && decide (M=M'))=false):=hid (by rw [h0,h1,h2];simp)
    obtain⟨a0,a1,a2,a3,a4,a5,a6,a7,a8,a9,b0,b1,b2,b3,b4,b5,b6,b7,b8,b9⟩:=HC.out W2 (Below.refl _ _)
    go_enter Tryz.func122,Tryz.ntmps122
    go_wp2_with fail
    go_ret
    rw [HW.out]
    exact⟨by first | (rw [HF.out];rfl) | simp,HB.out⟩
   | true =>
    cases h3:(sk==sk') with
    | false =>
     have HF:Hid (((k==k') && (od==od') && (po==po') && (sk==sk') && (fr==fr') && (to==to') && (q==q') && decide (L=L') && decide (T=T') && decide (M=M'))=false):=hid (by rw [h0,h1,h2,h3];simp)
     obtain⟨a0,a1,a2,a3,a4,a5,a6,a7,a8,a9,b0,b1,b2,b3,b4,b5,b6,b7,b8,b9⟩:=HC.out W2 (Below.refl _ _)
     go_enter Tryz.func122,Tryz.ntmps122
     go_wp2_with fail
     go_ret
     rw [HW.out]
     exact⟨by first | (rw [HF.out];rfl) | simp,HB.out⟩
    | true =>
     cases h4:(fr==fr') with
     | false =>
      have HF:Hid (((k==k') && (od==od') && (po==po') && (sk==sk') && (fr==fr') && (to==to') && (q==q') && decide (L=L') && decide (T=T') && decide (M=M'))=false):=hid (by rw [h0,h1,h2,h3,h4];simp)
      obtain⟨a0,a1,a2,a3,a4,a5,a6,a7,a8,a9,b0,b1,b2,b3,b4,b5,b6,b7,b8,b9⟩:=HC.out W2 (Below.refl _ _)
      go_enter Tryz.func122,Tryz.ntmps122
      go_wp2_with fail
      go_ret
      rw [HW.out]
      exact⟨by first | (rw [HF.out];rfl) | simp,HB.out⟩
     | true =>
      cases h5:(to==to') with
      | false =>
       have HF:Hid (((k==k') && (od==od') && (po==po') && (sk==sk') && (fr==fr') && (to==to') && (q==q') && decide (L=L') && decide (T=T') && decide (M=M'))=false):=hid (by rw [h0,h1,h2,h3,h4,h5];simp)
       obtain⟨a0,a1,a2,a3,a4,a5,a6,a7,a8,a9,b0,b1,b2,b3,b4,b5,b6,b7,b8,b9⟩:=HC.out W2 (Below.refl _ _)
       go_enter Tryz.func122,Tryz.ntmps122
       go_wp2_with fail
       go_ret
       rw [HW.out]
       exact⟨by first | (rw [HF.out];rfl) | simp,HB.out⟩
      | true =>
       cases h6:(q==q') with
       | false =>
        have HF:Hid (((k==k') && (od==od') && (po==po') && (sk==sk') && (fr==fr') && (to==to') && (q==q') && decide (L=L') && decide (T=T') && decide (M=M'))=false):=hid (by rw [h0,h1,h2,h3,h4,h5,h6];simp)
        obtain⟨a0,a1,a2,a3,a4,a5,a6,a7,a8,a9,b0,b1,b2,b3,b4,b5,b6,b7,b8,b9⟩:=HC.out W2 (Below.refl _ _)
        go_enter Tryz.func122,Tryz.ntmps122
        go_wp2_with fail
        go_ret
        rw [HW.out]
        exact⟨by first | (rw [HF.out];rfl) | simp,HB.out⟩
       | true =>
        cases h7:decide (L=L') with
        | false =>
         have HF:Hid (((k==k') && (od==od') && (po==po') && (sk==sk') && (fr==fr') && (to==to') && (q==q') && decide (L=L') && decide (T=T') && decide (M=M'))=false):=hid (by rw [h0,h1,h2,h3,h4,h5,h6,h7];simp)
         obtain⟨a0,a1,a2,a3,a4,a5,a6,a7,a8,a9,b0,b1,b2,b3,b4,b5,b6,b7,b8,b9⟩:=HC.out W2 (Below.refl _ _)
         go_enter Tryz.func122,Tryz.ntmps122
         go_wp2_with fail
         rw [HW.out]
         have hc0:=HL.out W2 (Below.refl _ _)
         rw [h7] at hc0
         refine hc0.mono ?_
         rintro e w0 ⟨rfl,hb0⟩
         have HB0:Hid (Below W2.heap.size W2 w0):=hid (hb0)
         clear hc0 hb0 a0 a1 a2 a3 a4 a5 a6 a7 a8 a9 b0 b1 b2 b3 b4 b5 b6 b7 b8 b9
         obtain⟨a0,a1,a2,a3,a4,a5,a6,a7,a8,a9,b0,b1,b2,b3,b4,b5,b6,b7,b8,b9⟩:=HC.out w0 HB0.out
         go_wp2_with fail
         go_ret
         exact⟨by first | (rw [HF.out];rfl) | simp,HB.out.trans (HB0.out.mono HB.out.size)⟩
        | true =>
         cases h8:decide (T=T') with
         | false =>
          have HF:Hid (((k==k') && (od==od') && (po==po') && (sk==sk') && (fr==fr') && (to==to') && (q==q') && decide (L=L') && decide (T=T') && decide (M=M'))=false):=hid (by rw [h0,h1,h2,h3,h4,h5,h6,h7,h8];simp)
          obtain⟨a0,a1,a2,a3,a4,a5,a6,a7,a8,a9,b0,b1,b2,b3,b4,b5,b6,b7,b8,b9⟩:=HC.out W2 (Below.refl _ _)
          go_enter Tryz.func122,Tryz.ntmps122
          go_wp2_with fail
          rw [HW.out]
          have hc0:=HL.out W2 (Below.refl _ _)
          rw [h7] at hc0
          refine hc0.mono ?_
          rintro e w0 ⟨rfl,hb0⟩
          have HB0:Hid (Below W2.heap.size W2 w0):=hid (hb0)
          clear hc0 hb0 a0 a1 a2 a3 a4 a5 a6 a7 a8 a9 b0 b1 b2 b3 b4 b5 b6 b7 b8 b9
          obtain⟨a0,a1,a2,a3,a4,a5,a6,a7,a8,a9,b0,b1,b2,b3,b4,b5,b6,b7,b8,b9⟩:=HC.out w0 HB0.out
          go_wp2_with fail
          have hc1:=HT.out w0 HB0.out
          rw [h8] at hc1
          refine hc1.mono ?_
          rintro e w1 ⟨rfl,hb1⟩
          have HB1:Hid (Below W2.heap.size W2 w1):=hid (HB0.out.trans (hb1.mono HB0.out.size))
          clear hc1 hb1 a0 a1 a2 a3 a4 a5 a6 a7 a8 a9 b0 b1 b2 b3 b4 b5 b6 b7 b8 b9
          obtain⟨a0,a1,a2,a3,a4,a5,a6,a7,a8,a9,b0,b1,b2,b3,b4,b5,b6,b7,b8,b9⟩:=HC.out w1 HB1.out
          go_wp2_with fail
          go_ret
          exact⟨by first | (rw [HF.out];rfl) | simp,HB.out.trans (HB1.out.mono HB.out.size)⟩
         | true =>
          cases h9:decide (M=M') with
          | false =>
           have HF:Hid (((k==k') && (od==od') && (po==po') && (sk==sk') && (fr==fr') && (to==to') && (q==q') && decide (L=L') && decide (T=T') && decide (M=M'))=false):=hid (by rw [h0,h1,h2,h3,h4,h5,h6,h7,h8,h9];simp)
           obtain⟨a0,a1,a2,a3,a4,a5,a6,a7,a8,a9,b0,b1,b2,b3,b4,b5,b6,b7,b8,b9⟩:=HC.out W2 (Below.refl _ _)
           go_enter Tryz.func122,Tryz.ntmps122
           go_wp2_with fail
           rw [HW.out]
           have hc0:=HL.out W2 (Below.refl _ _)
           rw [h7] at hc0
           refine hc0.mono ?_
           rintro e w0 ⟨rfl,hb0⟩
           have HB0:Hid (Below W2.heap.size W2 w0):=hid (hb0)
           clear hc0 hb0 a0 a1 a2 a3 a4 a5 a6 a7 a8 a9 b0 b1 b2 b3 b4 b5 b6 b7 b8 b9
           obtain⟨a0,a1,a2,a3,a4,a5,a6,a7,a8,a9,b0,b1,b2,b3,b4,b5,b6,b7,b8,b9⟩:=HC.out w0 HB0.out
           go_wp2_with fail
           have hc1:=HT.out w0 HB0.out
           rw [h8] at hc1
           refine hc1.mono ?_
           rintro e w1 ⟨rfl,hb1⟩
           have HB1:Hid (Below W2.heap.size W2 w1):=hid (HB0.out.trans (hb1.mono HB0.out.size))
           clear hc1 hb1 a0 a1 a2 a3 a4 a5 a6 a7 a8 a9 b0 b1 b2 b3 b4 b5 b6 b7 b8 b9
           obtain⟨a0,a1,a2,a3,a4,a5,a6,a7,a8,a9,b0,b1,b2,b3,b4,b5,b6,b7,b8,b9⟩:=HC.out w1 HB1.out
           go_wp2_with fail
           have hc2:=HM.out w1 HB1.out
           rw [h9] at hc2
           refine hc2.mono ?_
           rintro e w2 ⟨rfl,hb2⟩
           have HB2:Hid (Below W2.heap.size W2 w2):=hid (HB1.out.trans (hb2.mono HB1.out.size))
           clear hc2 hb2 a0 a1 a2 a3 a4 a5 a6 a7 a8 a9 b0 b1 b2 b3 b4 b5 b6 b7 b8 b9
           obtain⟨a0,a1,a2,a3,a4,a5,a6,a7,a8,a9,b0,b1,b2,b3,b4,b5,b6,b7,b8,b9⟩:=HC.out w2 HB2.out
           go_wp2_with fail
           go_ret
           exact⟨by first | (rw [HF.out];rfl) | simp,HB.out.trans (HB2.out.mono HB.out.size)⟩
          | true =>
           have HF:Hid (((k==k') && (od==od') && (po==po') && (sk==sk') && (fr==fr') && (to==to') && (q==q') && decide (L=L') && decide (T=T') && decide (M=M'))=true):=hid (by rw [h0,h1,h2,h3,h4,h5,h6,h7,h8,h9];rfl)
           obtain⟨a0,a1,a2,a3,a4,a5,a6,a7,a8,a9,b0,b1,b2,b3,b4,b5,b6,b7,b8,b9⟩:=HC.out W2 (Below.refl _ _)
           go_enter Tryz.func122,Tryz.ntmps122
           go_wp2_with fail
           rw [HW.out]
           have hc0:=HL.out W2 (Below.refl _ _)
           rw [h7] at hc0
           refine hc0.mono ?_
           rintro e w0 ⟨rfl,hb0⟩
           have HB0:Hid (Below W2.heap.size W2 w0):=hid (hb0)
           clear hc0 hb0 a0 a1 a2 a3 a4 a5 a6 a7 a8 a9 b0 b1 b2 b3 b4 b5 b6 b7 b8 b9
           obtain⟨a0,a1,a2,a3,a4,a5,a6,a7,a8,a9,b0,b1,b2,b3,b4,b5,b6,b7,b8,b9⟩:=HC.out w0 HB0.out
           go_wp2_with fail
           have hc1:=HT.out w0 HB0.out
           rw [h8] at hc1
           refine hc1.mono ?_
           rintro e w1 ⟨rfl,hb1⟩
           have HB1:Hid (Below W2.heap.size W2 w1):=hid (HB0.out.trans (hb1.mono HB0.out.size))
           clear hc1 hb1 a0 a1 a2 a3 a4 a5 a6 a7 a8 a9 b0 b1 b2 b3 b4 b5 b6 b7 b8 b9
           obtain⟨a0,a1,a2,a3,a4,a5,a6,a7,a8,a9,b0,b1,b2,b3,b4,b5,b6,b7,b8,b9⟩:=HC.out w1 HB1.out
           go_wp2_with fail
           have hc2:=HM.out w1 HB1.out
           rw [h9] at hc2
           refine hc2.mono ?_
           rintro e w2 ⟨rfl,hb2⟩
           have HB2:Hid (Below W2.heap.size W2 w2):=hid (HB1.out.trans (hb2.mono HB1.out.size))
           clear hc2 hb2 a0 a1 a2 a3 a4 a5 a6 a7 a8 a9 b0 b1 b2 b3 b4 b5 b6 b7 b8 b9
           obtain⟨a0,a1,a2,a3,a4,a5,a6,a7,a8,a9,b0,b1,b2,b3,b4,b5,b6,b7,b8,b9⟩:=HC.out w2 HB2.out
           go_wp2_with fail
           go_ret
           exact⟨by first | (rw [HF.out];rfl) | simp,HB.out.trans (HB2.out.mono HB.out.size)⟩
structure Tv where
 c:Tc
 p:Option Addr
 n:Nat
 m:Nat
def tv0:Tv:=⟨tc0,none,0,0⟩
def Tv.id (t:Tv):Int:=t.c.id
def Tv.sg (t:Tv):Int:=t.c.sg
abbrev tcs (t:Tv):Array Value:=#[.int .u32 t.c.id,.int .u32 t.c.sg,.int .u8 t.c.st,.bool t.c.cp,.bool t.c.dd,.slice t.p t.n t.m,.int .i64 t.c.fs,.int .i64 t.c.sz]
def tce (t:Tv):List Value:=(tcs t).toList
abbrev TvM (w:World) (t:Tv):Prop:=OL w t.p t.n t.m t.c.dn
theorem q1w (w:World):TvM w tv0:=SlG.empty _
structure TL (w:World) (p:Option Addr) (n c:Nat) (L:List Tv):Prop where
 row:SlG tce 8 tv0 w p n c L
 each:∀ t∈L,TvM w t
theorem TL.empty (w:World):TL w none 0 0 []:=⟨SlG.empty _,fun t h=>by cases h⟩
theorem TL.mem {w:World} {p:Option Addr} {n c:Nat} {L:List Tv} (h:TL w p n c L) {j:Nat} (hj:j<n):L.getD j tv0∈L:=by
 rw [List.getD,List.getElem?_eq_getElem (by rw [h.row.len];exact hj)]
 exact List.getElem_mem _
theorem TL.at {w:World} {p:Option Addr} {n c:Nat} {L:List Tv} (h:TL w p n c L) {j:Nat} (hj:j<n):TvM w (L.getD j tv0):=h.each _ (h.mem hj)
theorem txr_cells {w:World} {p:Option Addr} {n c:Nat} {L:List Tv} (h:SlG tce 8 tv0 w p n c L) {j:Nat} (hj:j<n):∃ b off,p=some ⟨b,off,none⟩∧b<w.heap.size∧w.cell? ⟨b,off+j*8,none⟩=some (.int .u32 (L.getD j tv0).c.id)∧w.cell? ⟨b,off+j*8+1,none⟩=some (.int .u32 (L.getD j tv0).c.sg)∧w.cell? ⟨b,off+j*8+2,none⟩=some (.int .u8 (L.getD j tv0).c.st)∧w.cell? ⟨b,off+j*8+3,none⟩=some (.bool (L.getD j tv0).c.cp)∧w.cell? ⟨b,off+j*8+4,none⟩=some (.bool (L.getD j tv0).c.dd)∧w.cell? ⟨b,off+j*8+5,none⟩=some (.slice (L.getD j tv0).p (L.getD j tv0).n (L.getD j tv0).m)∧w.cell? ⟨b,off+j*8+6,none⟩=some (.int .i64 (L.getD j tv0).c.fs)∧w.cell? ⟨b,off+j*8+7,none⟩=some (.int .i64 (L.getD j tv0).c.sz):=by
 obtain⟨b,off,rfl,hb,hc⟩:=h.cell (by omega)
 exact⟨b,off,rfl,hb,hc j hj 0 _ rfl,hc j hj 1 _ rfl,hc j hj 2 _ rfl,hc j hj 3 _ rfl,hc j hj 4 _ rfl,hc j hj 5 _ rfl,hc j hj 6 _ rfl,hc j hj 7 _ rfl⟩
theorem z0i {w:World} {B:Nat} {a b c d e f g h:Value} {T:TypeId} (hb:w.heap[B]?=some (.cells #[a,b,c,d,e,f,g,h] T (0,0))):w.cell? ⟨B,0,none⟩=some a∧w.cell? ⟨B,1,none⟩=some b∧w.cell? ⟨B,2,none⟩=some c∧w.cell? ⟨B,3,none⟩=some d∧w.cell? ⟨B,4,none⟩=some e∧w.cell? ⟨B,5,none⟩=some f∧w.cell? ⟨B,6,none⟩=some g∧w.cell? ⟨B,7,none⟩=some h:=⟨z0a hb rfl,z0a hb rfl,z0a hb rfl,z0a hb rfl,z0a hb rfl,z0a hb rfl,z0a hb rfl,z0a hb rfl⟩
end Go.Proofs.YtclbkfpbdidaiaaGreatDoor
