import Derived.Test.YtclbkfpbdidaiaaGreatDoorPC20
import Derived.Test.YtclbkfpbdidaiaaGreatDoorPC36
import Derived.Maps.Ext
namespace Go.Proofs.YtclbkfpbdidaiaaGreatDoor
open Go.RowKit Go.ChangeShapes Go.WideShapes Go.Maps
set_option linter.unusedVariables false
set_option linter.unusedSimpArgs false
set_option maxRecDepth 10000
structure Hx where
 id:Int
 sg:Int
 st:Int
 cp:Bool
 dd:Bool
 p:Option Addr
 n:Nat
 m:Nat
 fs:Int
 sz:Int
abbrev hcs (h:Hx):Array Value:=#[.int .u32 h.id,.int .u32 h.sg,.int .u8 h.st,.bool h.cp,.bool h.dd,.slice h.p h.n h.m,.int .i64 h.fs,.int .i64 h.sz]
def hx (t:Tv):Hx:=⟨t.c.id,t.c.sg,t.c.st,t.c.cp,t.c.dd,t.p,t.n,t.m,t.c.fs,t.c.sz⟩
def z5k (v:Value):Option (DataW Hx × List MemPlace):=match v with
 | .agg c=>match c.toList with
  | [.int .u32 a,.int .u32 b,.int .u8 c,.bool d,.bool e,.slice p n m,.int .i64 f,.int .i64 g]=>some (.held ⟨a,b,c,d,e,p,n,m,f,g⟩,[])
  | _=>none
 | _=>none
theorem q2d (h:Hx):z5k (.agg (hcs h))=some (.held h,[]):=rfl
theorem txe_inv {v:Value} {y:DataW Hx × List MemPlace} (h:z5k v=some y):∃ f:Hx,v=.agg (hcs f)∧y=(.held f,[]):=by
 unfold z5k at h
 split at h
 · rename_i c
   split at h
   · rename_i a b c' d e p n m f g hc
     refine⟨⟨a,b,c',d,e,p,n,m,f,g⟩,?_,by cases h;rfl⟩
     have:c=#[.int .u32 a,.int .u32 b,.int .u8 c',.bool d,.bool e,.slice p n m,.int .i64 f,.int .i64 g]:=Array.ext' hc
     rw [this]
   · cases h
 · cases h
theorem q0t:Keyed Tryz.prog 22:=int_keyed Tryz.underlying22
abbrev kU (x:Int):Lit:=.int .u32 x
theorem z9k {x:Int} (h:0≤x∧x≤4294967295):(Lit.int .u32 x).wf=true:=by
 simpa [Lit.wf,IntKind.min,IntKind.max,IntKind.bits,IntKind.signed] using h
theorem z6c {x:Int} (h:(Lit.int .u32 x).wf=true):keyOf Tryz.prog 22 (.int .u32 x)=some (kU x):=keyOf_int_mk Tryz.underlying22 h
theorem kU_is (x:Int):WideAt.IsKeyLit (kU x):=trivial
theorem kU_inj {x y:Int} (h:kU x=kU y):x=y:=by cases h;rfl
theorem zeroTx (w:World):(zeroValue 46).run Tryz.prog w=.ok (.agg #[.int .u32 0,.int .u32 0,.int .u8 0,.bool false,.bool false,.slice none 0 0,.int .i64 0,.int .i64 0]) w:=by kernel_rfl
abbrev MapU (w:World) (b n:Nat) (D:DataW Hx):Prop:=w.ownsMap Tryz.prog 22 z5k b n D
structure Gj (D:DataW Hx) (H:List Tv):Prop where
 tidy:Tidy D
 at_:∀ x zd,D.atKey (kU x) zd=match getT Tv.id H x with | some t=>.held (hx t) | none=>zd
 size:Maps.size D=H.length
theorem Gj.has {D:DataW Hx} {H:List Tv} (h:Gj D H) (x:Int):Maps.has D (kU x)=(getT Tv.id H x).isSome:=by
 have ha:=h.at_ x
 cases hg:getT Tv.id H x with
 | none =>
  rw [hg] at ha
  exact has_false_of_atKey ha
 | some v =>
  rw [hg] at ha
  exact has_true_of_atKey ha
theorem Gj.empty:Gj (.map []) []:=⟨tidy_empty,fun x zd=>rfl,rfl⟩
theorem Gj.put {D:DataW Hx} {H:List Tv} (h:Gj D H) (hu:UpT Tv.id H) (t:Tv):Gj (D.put (kU t.c.id) (.held (hx t))) (z1x Tv.id H t):=by
 refine⟨h.tidy.put (kU_is _) _,fun y zd=>?_,?_⟩
 · rw [getT_withT,show Tv.id t=t.c.id from rfl]
   by_cases e:y=t.c.id
   · subst e
     rw [if_pos rfl,atKey_put_same h.tidy.isMap (kU_is _)]
   · rw [if_neg e,atKey_put_other (fun e'=>e (kU_inj e')),h.at_]
 · rw [size_put h.tidy,h.has,h.size,len_withT_is hu]
   rfl
theorem Gj.del {D:DataW Hx} {H:List Tv} (h:Gj D H) (hu:UpT Tv.id H) {x:Int} (hx:(getT Tv.id H x).isSome=true):Gj (D.del (kU x)) (z1v Tv.id H x):=by
 refine⟨h.tidy.del _,fun y zd=>?_,?_⟩
 · rw [z8c]
   by_cases e:y=x
   · subst e
     rw [if_pos rfl,atKey_del_same]
   · rw [if_neg e,atKey_del_other (fun e'=>e (kU_inj e')),h.at_]
 · have h1:=size_del (k:=kU x) h.tidy
   rw [h.has,hx,h.size] at h1
   simp at h1
   have h2:=z4j hu hx
   omega
theorem gj_look {D:DataW Hx} {H:List Tv} (hT:Gj D H) (x:Int) {f:Hx} {ps:List MemPlace} {y:DataW Hx × List MemPlace} (hy:y=(.held f,[])) (hc:(D.atKey (kU x) (.held (hx tv0)),ps)=y):f=hx ((getT Tv.id H x).getD tv0):=by
 rw [hT.at_,hy,Prod.mk.injEq] at hc
 cases hg:getT Tv.id H x with
 | none =>
  rw [hg] at hc
  have:hx tv0=f:=by simpa using hc.1
  exact this.symm
 | some v =>
  rw [hg] at hc
  have:hx v=f:=by simpa using hc.1
  exact this.symm
theorem look_tx {w:World} {mb:Option Nat} {H:List Tv} (hn:mb=none→H=[]) (hs:∀ b,mb=some b→∃ D,MapU w b H.length D∧Gj D H) {x:Int} (hx:0≤x∧x≤4294967295) {t:Tv} (ht:(getT Tv.id H x).getD tv0=t) {b:Bool} (hb:(getT Tv.id H x).isSome=b) :
 (Instr.lookup 91 (.map mb) (.int .u32 x) true).run Tryz.prog w=.ok (.tuple #[.agg #[.int .u32 t.c.id,.int .u32 t.c.sg,.int .u8 t.c.st,.bool t.c.cp,.bool t.c.dd,.slice t.p t.n t.m,.int .i64 t.c.fs,.int .i64 t.c.sz],.bool b]) w:=by
 cases mb with
 | none =>
  have hl:=Maps.look_nil (w:=w) (P:=Tryz.prog) true q0t Tryz.underlying91 (zeroTx w) (z6c (z9k hx))
  rw [hn rfl] at ht hb
  rw [← ht,← hb]
  exact hl
 | some B =>
  obtain⟨D,hown,hT⟩:=hs B rfl
  obtain⟨v,ps,hrun,hv⟩:=hown.look_ok q0t Tryz.underlying91 (zeroTx w) (zd:=.held (Go.Proofs.YtclbkfpbdidaiaaGreatDoor.hx tv0)) (zp:=[]) rfl (z6c (z9k hx))
  obtain⟨f,rfl,hc⟩:=txe_inv hv
  obtain rfl:=gj_look hT x rfl hc
  rw [hT.has,hb,ht] at hrun
  exact hrun
def Tv.blk (t:Tv):Option Nat:=(Value.slice t.p t.n t.m).ownBlock
abbrev OwnO (w:World) (t:Tv):Prop:=w.ownsRow 0 105 4 (.slice t.p t.n t.m) t.n (z0n oc t.c.dn)
theorem OwnO.len {w:World} {t:Tv} (h:OwnO w t):t.c.dn.length=t.n:=by
 have h1:=h.1
 rw [z1m z5l] at h1
 omega
theorem OwnO.m {w:World} {t:Tv} (h:OwnO w t):TvM w t:=by
 obtain⟨p,c,he,hs,_⟩:=SlG.of_own (d:=o0) z5l (by decide) h
 cases he
 exact hs
theorem OwnO.keep {w w':World} {t:Tv} (h:OwnO w t) {S:Nat→Prop} (hc:Turn S w w') (hs:∀ b,t.blk=some b→¬ S b):OwnO w' t :=
 z0x (S:=S) h ⟨hc.os,hc.tape,hc.output,hc.size,hc.block⟩ hs
theorem OwnO.lt {w:World} {t:Tv} (h:OwnO w t) {b:Nat} (hb:t.blk=some b):b<w.heap.size:=(World.ownsRow.lt h b hb).2
theorem OwnO.free {w:World} {t:Tv} (h:OwnO w t) {b:Nat} (hb:t.blk=some b):∃ cs,w.heap[b]?=some (.cells cs 105 (0,0)):=by
 rcases h.2 with hn | ⟨g,cap,cur,he,h1,h2,h3⟩
 · unfold Tv.blk at hb
   rw [hn.1] at hb
   cases hb
 · unfold Tv.blk at hb
   rw [he] at hb
   cases hb
   exact⟨_,h2⟩
theorem z8k {w:World} {b0 b1 k n:Nat} {T:TypeId} {v:Value} {xs:List Value} (hb:∀ g,v.ownBlock=some g→b1≤g) (h:w.ownsRow b0 T k v n xs):w.ownsRow b1 T k v n xs:=by
 refine⟨h.1,?_⟩
 rcases h.2 with hn | ⟨g,cap,cur,rfl,h1,h2⟩
 · exact .inl hn
 · exact .inr ⟨g,cap,cur,rfl,hb g rfl,h2⟩
structure JgX (w:World) (B:Nat) (mb:Option Nat) (H:List Tv) (Q:Nat→Prop):Prop where
 b:w.heap[B]?=some (.cells #[.map mb] 93 (0,0))
 none_:mb=none→H=[]
 some_:∀ b,mb=some b→∃ D,MapU w b H.length D∧Gj D H
 up:UpT Tv.id H
 own:∀ t∈H,OwnO w t
 apart:∀ t∈H,∀ u∈H,t.c.id≠u.c.id→∀ g,t.blk=some g→u.blk≠some g
 qb:Q B
 qm:∀ b,mb=some b→Q b
 qr:∀ t∈H,∀ g,t.blk=some g→Q g
 lt:∀ j,Q j→j<w.heap.size
theorem MapU.turn {w w':World} {b n:Nat} {D:DataW Hx} {S:Nat→Prop} (h:MapU w b n D) (hc:Turn S w w') (hn:¬ S b):MapU w' b n D:=ownsMap_turn h hc hn
theorem MapU.ne {w:World} {b n g:Nat} {D:DataW Hx} {cs:Array Value} {t:TypeId} {z:Nat × Nat} (h:MapU w b n D) (hg:w.heap[g]?=some (.cells cs t z)):g≠b:=by
 obtain⟨es,clock,hb,_⟩:=h
 intro e
 rw [e,hb] at hg
 cases hg
theorem JgX.keep {w w':World} {B:Nat} {mb:Option Nat} {H:List Tv} {Q S:Nat→Prop} (h:JgX w B mb H Q) (hc:Turn S w w') (hs:∀ j,Q j→¬ S j):JgX w' B mb H Q :=
 ⟨(hc.block B (z0g h.b) (hs _ h.qb)).trans h.b,h.none_,fun b hb=>by
  obtain⟨D,h1,h2⟩:=h.some_ b hb
  exact⟨D,MapU.turn h1 hc (hs _ (h.qm b hb)),h2⟩,h.up,fun t ht=>(h.own t ht).keep hc fun b hb=>hs _ (h.qr t ht b hb),h.apart,h.qb,h.qm,h.qr,fun j hj=>Nat.lt_of_lt_of_le (h.lt j hj) hc.size⟩
theorem JgX.mono {w:World} {B:Nat} {mb:Option Nat} {H:List Tv} {Q Q':Nat→Prop} (h:JgX w B mb H Q) (h1:∀ k,Q k→Q' k) (h2:∀ k,Q' k→k<w.heap.size):JgX w B mb H Q' :=
 ⟨h.b,h.none_,h.some_,h.up,h.own,h.apart,h1 _ h.qb,fun b e=>h1 _ (h.qm b e),fun t ht g e=>h1 _ (h.qr t ht g e),h2⟩
theorem JgX.later {w w':World} {B:Nat} {mb:Option Nat} {H:List Tv} {Q:Nat→Prop} (h:JgX w B mb H Q) (hb:Below w.heap.size w w'):JgX w' B mb H Q:=h.keep (Turn.of_below (S:=fun _=>False) hb) fun _ _ h=>h
theorem JgX.look {w:World} {B:Nat} {mb:Option Nat} {H:List Tv} {Q:Nat→Prop} (h:JgX w B mb H Q) {x:Int} (hx:0≤x∧x≤4294967295) {t:Tv} (ht:(getT Tv.id H x).getD tv0=t) {b:Bool} (hb:(getT Tv.id H x).isSome=b) :
 (Instr.lookup 91 (.map mb) (.int .u32 x) true).run Tryz.prog w=.ok (.tuple #[.agg #[.int .u32 t.c.id,.int .u32 t.c.sg,.int .u8 t.c.st,.bool t.c.cp,.bool t.c.dd,.slice t.p t.n t.m,.int .i64 t.c.fs,.int .i64 t.c.sz],.bool b]) w:=look_tx h.none_ h.some_ hx ht hb
theorem JgX.nm {w:World} {B:Nat} {mb:Option Nat} {H:List Tv} {Q:Nat→Prop} (h:JgX w B mb H Q) {t:Tv} (ht:OwnO w t) {g:Nat} (hg:t.blk=some g):mb≠some g∧g≠B:=by
 obtain⟨cs,hc⟩:=ht.free hg
 refine⟨fun e=>?_,fun e=>?_⟩
 · obtain⟨D,h1,_⟩:=h.some_ g e
   exact MapU.ne h1 hc rfl
 · have hb:=h.b
   rw [← e,hc] at hb
   injection hb with hb
   injection hb with _ e4 _
   revert e4
   decide
theorem JgX.mB {w:World} {B:Nat} {mb:Option Nat} {H:List Tv} {Q:Nat→Prop} (h:JgX w B mb H Q):mb≠some B:=fun e=>by
 obtain⟨D,h1,_⟩:=h.some_ B e
 exact MapU.ne h1 h.b rfl
structure JgY (w:World) (B:Nat) (mb:Option Nat) (H:List Tv) (Q:Nat→Prop) (i:Int):Prop where
 b:w.heap[B]?=some (.cells #[.map mb] 93 (0,0))
 none_:mb=none→H=[]
 some_:∀ b,mb=some b→∃ D,MapU w b H.length D∧Gj D H
 up:UpT Tv.id H
 own:∀ t∈H,t.c.id≠i→OwnO w t
 apart:∀ t∈H,∀ u∈H,t.c.id≠u.c.id→∀ g,t.blk=some g→u.blk≠some g
 qb:Q B
 qm:∀ b,mb=some b→Q b
 qr:∀ t∈H,∀ g,t.blk=some g→Q g
 lt:∀ j,Q j→j<w.heap.size
theorem JgX.y {w:World} {B:Nat} {mb:Option Nat} {H:List Tv} {Q:Nat→Prop} (h:JgX w B mb H Q) (i:Int):JgY w B mb H Q i:=⟨h.b,h.none_,h.some_,h.up,fun t ht _=>h.own t ht,h.apart,h.qb,h.qm,h.qr,h.lt⟩
theorem JgY.keep {w w':World} {B:Nat} {mb:Option Nat} {H:List Tv} {Q S:Nat→Prop} {i:Int} (h:JgY w B mb H Q i) (hc:Turn S w w') (h1:¬ S B) (h2:∀ b,mb=some b→¬ S b) (h3:∀ t∈H,t.c.id≠i→∀ g,t.blk=some g→¬ S g):JgY w' B mb H Q i :=
 ⟨(hc.block B (z0g h.b) h1).trans h.b,h.none_,fun b hb=>by
  obtain⟨D,g1,g2⟩:=h.some_ b hb
  exact⟨D,MapU.turn g1 hc (h2 b hb),g2⟩,h.up,fun t ht hi=>(h.own t ht hi).keep hc (h3 t ht hi),h.apart,h.qb,h.qm,h.qr,fun j hj=>Nat.lt_of_lt_of_le (h.lt j hj) hc.size⟩
theorem JgY.later {w w':World} {B:Nat} {mb:Option Nat} {H:List Tv} {Q:Nat→Prop} {i:Int} (h:JgY w B mb H Q i) (hb:Below w.heap.size w w'):JgY w' B mb H Q i:=h.keep (Turn.of_below (S:=fun _=>False) hb) (fun h=>h) (fun _ _ h=>h) fun _ _ _ _ _ h=>h
theorem JgY.nm {w:World} {B:Nat} {mb:Option Nat} {H:List Tv} {Q:Nat→Prop} {i:Int} (h:JgY w B mb H Q i) {t:Tv} (ht:OwnO w t) {g:Nat} (hg:t.blk=some g):mb≠some g∧g≠B:=by
 obtain⟨cs,hc⟩:=ht.free hg
 refine⟨fun e=>?_,fun e=>?_⟩
 · obtain⟨D,h1,_⟩:=h.some_ g e
   exact MapU.ne h1 hc rfl
 · have hb:=h.b
   rw [← e,hc] at hb
   injection hb with hb
   injection hb with _ e4 _
   revert e4
   decide
theorem JgY.mB {w:World} {B:Nat} {mb:Option Nat} {H:List Tv} {Q:Nat→Prop} {i:Int} (h:JgY w B mb H Q i):mb≠some B:=fun e=>by
 obtain⟨D,h1,_⟩:=h.some_ B e
 exact MapU.ne h1 h.b rfl
theorem JgY.stored {w w':World} {B b' n':Nat} {mb:Option Nat} {H:List Tv} {Q:Nat→Prop} {t:Tv} (h:JgY w B mb H Q t.c.id) (hO:OwnO w t) (ha:∀ g,t.blk=some g→∀ u∈H,u.c.id≠t.c.id→u.blk≠some g) (ht:Turn (fun k=>k=B∨mb=some k) w w')
 (hb:w'.heap[B]?=some (.cells #[.map (some b')] 93 (0,0))) (hb':mb=some b'∨w.heap.size≤b') {D:DataW Hx} (hm:MapU w' b' n' D) (hg:Gj D (z1x Tv.id H t)) :
 JgX w' B (some b') (z1x Tv.id H t) (fun k=>Q k∨t.blk=some k∨(w.heap.size≤k∧k<w'.heap.size)):=by
 have hkeep:∀ u:Tv,OwnO w u→OwnO w' u:=fun u hu=>hu.keep ht fun g hg e=>by
  obtain⟨h1,h2⟩:=h.nm hu hg
  rcases e with e | e
  · exact h2 e
  · exact h1 e
 refine⟨hb,(fun e=>by cases e),fun b e=>?_,up_withT h.up,fun u hu=>?_,fun u hu v hv hne g e1 e2=>?_,.inl h.qb,fun b e=>?_,fun u hu g e=>?_,fun j hj=>?_⟩
 · cases e
   refine⟨D,?_,hg⟩
   have:=ownsMap_tight hm
   rw [hg.size] at this
   exact this
 · rcases mem_withT.1 hu with rfl | hu
   · exact hkeep _ hO
   · exact hkeep _ (h.own u hu.1 hu.2)
 · rcases mem_withT.1 hu with rfl | hu
   · rcases mem_withT.1 hv with rfl | hv
     · exact hne rfl
     · exact ha g e1 v hv.1 (fun e=>hne e.symm) e2
   · rcases mem_withT.1 hv with rfl | hv
     · exact ha g e2 u hu.1 hne e1
     · exact h.apart u hu.1 v hv.1 hne g e1 e2
 · cases e
   rcases hb' with e | e
   · exact .inl (h.qm _ e)
   · exact .inr (.inr ⟨e,hm.lt⟩)
 · rcases mem_withT.1 hu with rfl | hu
   · exact .inr (.inl e)
   · exact .inl (h.qr u hu.1 g e)
 · rcases hj with hj | hj | hj
   · exact Nat.lt_of_lt_of_le (h.lt j hj) ht.size
   · exact Nat.lt_of_lt_of_le (hO.lt hj) ht.size
   · exact hj.2
theorem JgX.struck {w w':World} {B b n':Nat} {H:List Tv} {Q:Nat→Prop} (h:JgX w B (some b) H Q) {i:Int} (ht:Turn (fun k=>k=b) w w') {D:DataW Hx} (hm:MapU w' b n' D) (hg:Gj D (z1v Tv.id H i)):JgX w' B (some b) (z1v Tv.id H i) Q:=by
 have hkeep:∀ u:Tv,OwnO w u→OwnO w' u:=fun u hu=>hu.keep ht fun g hg e=>(h.nm hu hg).1 (by rw [e])
 refine⟨(ht.block B (z0g h.b) (fun e=>h.mB (by rw [e]))).trans h.b,(fun e=>by cases e),fun b e=>?_,z9q i h.up,fun u hu=>hkeep u (h.own u (mem_witho.1 hu).1),fun u hu v hv=>h.apart u (mem_witho.1 hu).1 v (mem_witho.1 hv).1,h.qb,h.qm,fun u hu=>h.qr u (mem_witho.1 hu).1,fun j hj=>Nat.lt_of_lt_of_le (h.lt j hj) ht.size⟩
 cases e
 refine⟨D,?_,hg⟩
 have:=ownsMap_tight hm
 rw [hg.size] at this
 exact this
def Jg (w:World) (B:Nat) (M:List Tc) (Q:Nat→Prop):Prop:=∃ mb H,JgX w B mb H Q∧H.map (·.c)=M
theorem Jg.keep {w w':World} {B:Nat} {M:List Tc} {Q S:Nat→Prop} (h:Jg w B M Q) (hc:Turn S w w') (hs:∀ j,Q j→¬ S j):Jg w' B M Q:=by
 obtain⟨mb,H,h1,h2⟩:=h
 exact⟨mb,H,h1.keep hc hs,h2⟩
theorem Jg.lt {w:World} {B:Nat} {M:List Tc} {Q:Nat→Prop} (h:Jg w B M Q):∀ j,Q j→j<w.heap.size:=by
 obtain⟨mb,H,h1,h2⟩:=h
 exact h1.lt
theorem jget_c {H:List Tv} {M:List Tc} (h:H.map (·.c)=M) (i:Int):(getT Tc.id M i).getD tc0=((getT Tv.id H i).getD tv0).c∧(getT Tc.id M i).isSome=(getT Tv.id H i).isSome:=by
 have h1:=z6b (ix:=Tv.id) (jx:=Tc.id) (f:=(·.c)) (fun _=>rfl) i H
 rw [h] at h1
 rw [← h1]
 cases getT Tv.id H i <;> exact⟨rfl,rfl⟩
end Go.Proofs.YtclbkfpbdidaiaaGreatDoor
