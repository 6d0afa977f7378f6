import Derived.Test.YtfdgnniicjdjdaaGreatDoorPY00
import Derived.Test.YtfdgnniicjdjdaaGreatDoorPY02
import Derived.Lib.SliceRun
import Derived.Test.YtfdgnniicjdjdaaGreatDoorPY09
namespace Go.Proofs.YtfdgnniicjdjdaaGreatDoor
open Go.Lib (hid)
open Go.RowKit Go.ChangeShapes Go.WideShapes
set_option linter.unusedVariables false
set_option maxRecDepth 10000
set_option linter.unusedSimpArgs false
def eb (x:Int):List Value:=[.int .u8 x]
theorem eb_len (x:Int):(eb x).length=1:=rfl
theorem eb_one (x:Int):∀ u∈eb x,u.oneCell'=true:=by
 intro u hu
 simp only [eb,List.mem_cons,List.not_mem_nil,or_false] at hu
 subst hu
 rfl
abbrev BL (w:World) (p:Option Addr) (n c:Nat) (L:List Int):Prop:=SlG eb 1 0 w p n c L
def vB (L:List Int):List Value:=L.map (Value.int .u8)
theorem z6k (L:List Int):(vB L).length=L.length:=by simp [vB]
theorem vB_one (L:List Int):∀ u∈vB L,u.oneCell'=true:=by
 intro u hu
 obtain⟨x,_,rfl⟩:=List.mem_map.1 hu
 rfl
theorem q2g (L:List Int) (j:Nat) (h:j<L.length):(vB L)[j]?=some (.int .u8 (L.getD j 0)):=by simp [vB,List.getD,List.getElem?_eq_getElem h]
theorem vB_take (L:List Int) (k:Nat):(vB L).take k=vB (L.take k):=by simp [vB]
theorem vB_drop (L:List Int) (k:Nat):(vB L).drop k=vB (L.drop k):=by simp [vB]
theorem vB_append (L M:List Int):vB (L++M)=vB L++vB M:=by simp [vB]
theorem vB_splice (L M:List Int) (k:Nat):splice (vB L) k (vB M)=vB (splice L k M):=by simp only [splice,vB_take,vB_drop,vB_append,z6k]
theorem BL.at {w:World} {p:Option Addr} {n c:Nat} {L:List Int} (h:BL w p n c L) (h0:0<n):∃ b off,p=some ⟨b,off,none⟩∧b<w.heap.size∧∀ j,j<n→w.cell? ⟨b,off+j,none⟩=some (.int .u8 (L.getD j 0)):=by
 obtain⟨b,off,hp,hlt,hc⟩:=h.cell h0
 refine⟨b,off,hp,hlt,fun j hj=>?_⟩
 have:=hc j hj 0 _ rfl
 rwa [Nat.mul_one,Nat.add_zero] at this
theorem BL.mk {w:World} {p:Option Addr} {n c:Nat} {L:List Int} (hl:L.length=n) (hc:n≤c) (hm:c≤maxLen) (hn:p=none→c=0) (h:0<n→∃ b off,p=some ⟨b,off,none⟩∧b<w.heap.size∧∀ j,j<n→w.cell? ⟨b,off+j,none⟩=some (.int .u8 (L.getD j 0))):BL w p n c L:=by
 refine⟨hl,hc,hm,hn,fun h0=>?_⟩
 obtain⟨b,off,hp,hlt,hcell⟩:=h h0
 refine⟨b,off,hp,hlt,fun j hj i v hv=>?_⟩
 match i,hv with
 | 0,hv =>
  simp only [eb,List.getElem?_cons_zero,Option.some.injEq] at hv
  subst hv
  rw [Nat.mul_one,Nat.add_zero]
  exact hcell j hj
theorem BL.keep {w w':World} {p:Option Addr} {n c:Nat} {L:List Int} {S:Nat→Prop} (h:BL w p n c L) (hc:Chg S w w') (hs:0<n→∀ a,p=some a→¬ S a.block):BL w' p n c L :=
 SlG.turn h hc.size fun h0 a ha hlt=>hc.block _ hlt (hs h0 a ha)
theorem BL.of_row {w:World} {g off n c:Nat} {cur:List Int} {t:TypeId} (hg:w.heap[g]?=some (.cells (vB cur).toArray t (0,0))) (hn:off+n≤cur.length) (hc:n≤c) (hm:c≤maxLen):BL w (some ⟨g,off,none⟩) n c ((cur.drop off).take n):=by
 refine BL.mk (by rw [List.length_take,List.length_drop];omega) hc hm (fun h=>by cases h) fun h0=>⟨g,off,rfl,z0k hg,fun j hj=>?_⟩
 refine z0a hg ?_
 rw [List.getElem?_toArray,q2g _ _ (by omega)]
 congr 2
 rw [List.getD,List.getD,List.getElem?_take,if_pos hj,List.getElem?_drop]
theorem conv_bl {w:World} {p:Option Addr} {n c:Nat} {L:List Int} (h:BL w p n c L):(convert 33 9 (.slice p n c)).run Tryz.prog w=.ok (.string (strOfNums L)) w:=by
 cases p with
 | none =>
  have h1:=h.nil rfl
  have h2:=h.cap
  have h3:=h.len
  obtain rfl:n=0:=by omega
  obtain rfl:L=[]:=List.eq_nil_of_length_eq_zero h3
  exact run_convert_bytes_nil w _ _ Tryz.underlying33 Tryz.underlying5 0 c _ Tryz.underlying9
 | some a =>
  have hl:(loadCells a n).run Tryz.prog w=.ok (L.map (Value.int .u8)).toArray w:=by
   have:=run_loadCells_list (P:=Tryz.prog) w a (L.map (Value.int .u8)) (fun j v hj=>by
    have hjl:j<n:=by
     rcases Nat.lt_or_ge j n with h' | h'
     · exact h'
     · rw [List.getElem?_eq_none (by simp [h.len];exact h')] at hj;cases hj
    obtain⟨b,off,hp,_,hc⟩:=h.at (by omega)
    cases hp
    rw [Go.WideShapes.add_plain,hc j hjl,← hj]
    have:j<L.length:=by rw [h.len];exact hjl
    simp [List.getD,List.getElem?_eq_getElem this])
   simpa [h.len] using this
  rw [run_convert_bytes_string w _ _ _ _ n c Tryz.underlying33 Tryz.underlying5 Tryz.underlying9,run_bytesToString w _ n c _ hl,foldl_push_bytes]
  simp [strOfNums,ByteArray.empty,ByteArray.emptyWithCapacity]
  rfl
theorem Chg.setRow {w:World} {g:Nat} (cs:Array Value):Chg (fun k=>k=g) w (w.setRow g cs):=⟨rfl,rfl,rfl,by simp [World.setRow],fun k hk hn=>setRow_other w g k cs hn⟩
theorem z8p:(Value.int .u8 0).cells=#[.int .u8 0]:=rfl
theorem size_u8:(Tryz.prog.info? 5).map (·.size)=some 1:=by kernel_rfl
theorem wpList_copy_at {w:World} {ops:Array Oper} {rest:List Oper} {o:Oper} {a:Act} {Q:Exit→Act→World→Prop} (hgd:o.guard=none) (d s:Operand)
 (ho:o.op=.call { callee:=.builtin .copy,args:=#[d,s],argTypes:=#[33,33] }) (dp sp:Option Addr) (dLen dCap sLen sCap m:Nat) (hd:a.eval d=.slice dp dLen dCap) (hs:a.eval s=.slice sp sLen sCap) (hm:Nat.min sLen dLen=m)
 (g off:Nat) (cur:List Int) (t:TypeId) (hg:w.heap[g]?=some (.cells (vB cur).toArray t (0,0))) (src:List Int) (hsrc:BL w sp sLen sCap src)
 (hpos:0<m→dp=some ⟨g,off,none⟩) (hfit:off+m≤cur.length)
 (h:∀ w',Hid (w'.heap[g]?=some (.cells (vB (splice cur off (src.take m))).toArray t (0,0)))→Chg (fun k=>k=g) w w'→wpList Tryz.prog ops Q rest (a.put o.dst (.int .i64 (m:Nat))) w'):wpList Tryz.prog ops Q (o::rest) a w:=by
 subst hm
 have hle:Nat.min sLen dLen≤sLen:=Nat.min_le_left ..
 have hlen:(src.take (Nat.min sLen dLen)).length=Nat.min sLen dLen:=by rw [List.length_take,hsrc.len];omega
 by_cases h0:Nat.min sLen dLen=0
 · refine wpList_copy_nothing hgd d s _ _ ho 5 Tryz.underlying33 size_u8 dp sp dLen dCap sLen sCap hd hs h0 ?_
   have:=h w (hid (by rw [h0];simpa [splice] using hg)) (Chg.refl _ _)
   rw [h0] at this
   exact this
 · obtain rfl:=hpos (by omega)
   obtain⟨b,off',rfl,_,hc⟩:=hsrc.at (by omega)
   refine wpList_copy_own hgd d s _ _ ho 5 Tryz.underlying33 size_u8 g off dLen dCap ⟨b,off',none⟩ sLen sCap hd hs _ t hg (vB (src.take (Nat.min sLen dLen))) (by rw [z6k,hlen]) ?_ (by simpa [z6k,hlen] using hfit) (vB_one _) ?_
   · intro j v hv
     have hj:j<Nat.min sLen dLen:=by
      rcases Nat.lt_or_ge j (Nat.min sLen dLen) with h' | h'
      · exact h'
      · rw [List.getElem?_eq_none (by rw [z6k,hlen];exact h')] at hv;cases hv
     rw [Go.WideShapes.add_plain,hc j (by omega),← hv,q2g _ _ (by rw [hlen];exact hj)]
     rw [List.getD,List.getD,List.getElem?_take,if_pos hj]
   · rw [z6k,hlen]
     refine h _ (hid ?_) (Chg.setRow _)
     rw [setRow_heap w g _ _ t _ hg,← vB_splice]
     simp [splice,z6k,hlen]
theorem made_bytes (n:Nat) (hn:n≤5000000) (w:World):(Instr.makeSlice 33 (.int .i64 (n:Nat)) (.int .i64 (n:Nat))).run Tryz.prog w=.ok (.slice (some ⟨w.heap.size,0,none⟩) n n) (w.alloc (.cells (vB (List.replicate n 0)).toArray 5)):=by
 obtain⟨i,hi,hz0,hz1,hz2⟩:=info_parts z0x
 have hr:=run_make (P:=Tryz.prog) w 33 5 i _ Tryz.underlying33 hi hz0 .i64 .i64 (n:Nat) (n:Nat) (by omega) (by omega) (by rw [hz2];omega) (by omega)
 rw [hr,hz1,Int.toNat_natCast,Nat.mul_one]
 refine congrArg (fun c=>Result.ok _ (w.alloc (.cells c 5))) ?_
 apply Array.ext
 · simp [size_madeCells,vB,z8p]
 · intro j h1 h2
   simp [madeCells,vB,z8p,Nat.mod_one]
structure Vo (w:World) (B G s:Nat) (V:List (List Int)):Prop where
 blk:w.heap[B]?=some (.cells #[.int .i64 (V.length:Nat),.int .i64 (s:Nat),.slice (some ⟨G,0,none⟩) (V.length*s) (V.length*s)] 168 (0,0))
 row:w.heap[G]?=some (.cells (vB V.flatten).toArray 5 (0,0))
 len:∀ x∈V,x.length=s
 ne:B≠G
 n:V.length≤1024
 s:s≤4096
theorem Vo.keep {w w':World} {B G s:Nat} {V:List (List Int)} {S:Nat→Prop} (h:Vo w B G s V) (hc:Chg S w w') (hB:¬ S B) (hG:¬ S G):Vo w' B G s V :=
 ⟨(hc.block B (z0k h.blk) hB).trans h.blk,(hc.block G (z0k h.row) hG).trans h.row,h.len,h.ne,h.n,h.s⟩
theorem Vo.later {w w':World} {B G s:Nat} {V:List (List Int)} (h:Vo w B G s V) (hb:Below w.heap.size w w'):Vo w' B G s V:=h.keep (Chg.of_below (S:=fun _=>False) hb) (fun h=>h) (fun h=>h)
theorem Vo.cells {w:World} {B G s:Nat} {V:List (List Int)} (h:Vo w B G s V):w.cell? ⟨B,0,none⟩=some (.int .i64 (V.length:Nat))∧w.cell? ⟨B,1,none⟩=some (.int .i64 (s:Nat))∧w.cell? ⟨B,2,none⟩=some (.slice (some ⟨G,0,none⟩) (V.length*s) (V.length*s)) :=
 ⟨z0a h.blk rfl,z0a h.blk rfl,z0a h.blk rfl⟩
theorem Vo.flat {w:World} {B G s:Nat} {V:List (List Int)} (h:Vo w B G s V):V.flatten.length=V.length*s:=len_flatten s V h.len
theorem Vo.big {w:World} {B G s:Nat} {V:List (List Int)} (h:Vo w B G s V):V.length*s≤4194304:=Nat.le_trans (Nat.mul_le_mul h.n h.s) (by omega)
def es (s:Nat) (x:Option Addr × Nat):List Value:=[.slice x.1 s x.2]
theorem q0y (s:Nat) (x:Option Addr × Nat):(es s x).length=1:=rfl
theorem es_one (s:Nat) (x:Option Addr × Nat):∀ u∈es s x,u.oneCell'=true:=by
 intro u hu
 simp only [es,List.mem_cons,List.not_mem_nil,or_false] at hu
 subst hu
 rfl
abbrev d0:Option Addr × Nat:=(none,0)
def U8 (w:World) (k:Nat):Prop:=∃ cs,w.heap[k]?=some (.cells cs 5 (0,0))
theorem U8.lt {w:World} {k:Nat} (h:U8 w k):k<w.heap.size:=by
 obtain⟨cs,h⟩:=h
 exact z0k h
theorem U8.keep {w w':World} {k:Nat} {S:Nat→Prop} (h:U8 w k) (hc:Chg S w w') (hs:¬ S k):U8 w' k:=by
 have hlt:=h.lt
 obtain⟨cs,h⟩:=h
 exact⟨cs,(hc.block k hlt hs).trans h⟩
def US (w:World) (k:Nat):Prop:=∃ cs,w.heap[k]?=some (.cells cs 33 (0,0))
theorem US.keep {w w':World} {k:Nat} {S:Nat→Prop} (h:US w k) (hc:Chg S w w') (hs:¬ S k):US w' k:=by
 obtain⟨cs,h⟩:=h
 exact⟨cs,(hc.block k (z0k h) hs).trans h⟩
def Each (w:World) (Q:Nat→Prop) (s:Nat) (L:List (Option Addr × Nat)) (V:List (List Int)):Prop :=
 ∀ i,i<V.length→BL w (L.getD i d0).1 s (L.getD i d0).2 (V.getD i [])∧∀ a,(L.getD i d0).1=some a→Q a.block∧U8 w a.block
theorem Each.keep {w w':World} {Q S:Nat→Prop} {s:Nat} {L:List (Option Addr × Nat)} {V:List (List Int)} (h:Each w Q s L V) (hc:Chg S w w') (hs:∀ k,Q k→U8 w k→¬ S k):Each w' Q s L V:=fun i hi =>
 ⟨(h i hi).1.keep hc fun _ a ha=>hs _ ((h i hi).2 a ha).1 ((h i hi).2 a ha).2,fun a ha=>⟨((h i hi).2 a ha).1,((h i hi).2 a ha).2.keep hc (hs _ ((h i hi).2 a ha).1 ((h i hi).2 a ha).2)⟩⟩
theorem Each.mono {w:World} {Q T:Nat→Prop} {s:Nat} {L:List (Option Addr × Nat)} {V:List (List Int)} (h:Each w Q s L V) (hs:∀ k,Q k→k<w.heap.size→T k):Each w T s L V:=fun i hi =>
 ⟨(h i hi).1,fun a ha=>⟨hs _ ((h i hi).2 a ha).1 ((h i hi).2 a ha).2.lt,((h i hi).2 a ha).2⟩⟩
theorem Each.push {w:World} {Q:Nat→Prop} {s:Nat} {L:List (Option Addr × Nat)} {V:List (List Int)} (h:Each w Q s L V) (hl:L.length=V.length) {e:Option Addr × Nat} {x:List Int} (hb:BL w e.1 s e.2 x) (ha:∀ a,e.1=some a→Q a.block∧U8 w a.block):Each w Q s (L ++ [e]) (V ++ [x]):=by
 intro i hi
 rw [List.length_append,List.length_singleton] at hi
 by_cases h1:i<V.length
 · have e1:(L ++ [e]).getD i d0=L.getD i d0:=by rw [List.getD,List.getD,List.getElem?_append_left (by omega)]
   have e2:(V ++ [x]).getD i []=V.getD i []:=by rw [List.getD,List.getD,List.getElem?_append_left h1]
   rw [e1,e2]
   exact h i h1
 · have e1:(L ++ [e]).getD i d0=e:=by rw [List.getD,List.getElem?_append_right (by omega),show i-L.length=0 by omega];rfl
   have e2:(V ++ [x]).getD i []=x:=by rw [List.getD,List.getElem?_append_right (by omega),show i-V.length=0 by omega];rfl
   rw [e1,e2]
   exact⟨hb,ha⟩
structure RV (w:World) (Q:Nat→Prop) (p:Option Addr) (c s:Nat) (V:List (List Int)):Prop where
 row:∃ L,SlG (es s) 1 d0 w p V.length c L∧(0<V.length→∀ a,p=some a→Q a.block∧US w a.block)∧Each w Q s L V
 len:∀ x∈V,x.length=s
theorem RV.keep_typed {w w':World} {Q S:Nat→Prop} {p:Option Addr} {c s:Nat} {V:List (List Int)} (h:RV w Q p c s V) (hc:Chg S w w') (hp:∀ k,Q k→US w k→¬ S k) (hs:∀ k,Q k→U8 w k→¬ S k):RV w' Q p c s V:=by
 obtain⟨L,h1,h2,h3⟩:=h.row
 have hx:0<V.length→∀ a,p=some a→¬ S a.block:=fun h0 a ha=>hp _ (h2 h0 a ha).1 (h2 h0 a ha).2
 exact⟨⟨L,h1.turn hc.size fun h0 a ha hlt=>hc.block _ hlt (hx h0 a ha),fun h0 a ha=>⟨(h2 h0 a ha).1,(h2 h0 a ha).2.keep hc (hx h0 a ha)⟩,h3.keep hc hs⟩,h.len⟩
theorem RV.keep {w w':World} {Q S:Nat→Prop} {p:Option Addr} {c s:Nat} {V:List (List Int)} (h:RV w Q p c s V) (hc:Chg S w w') (hs:∀ k,Q k→¬ S k):RV w' Q p c s V:=h.keep_typed hc (fun k hk _=>hs k hk) fun k hk _=>hs k hk
theorem RV.later {w w':World} {Q:Nat→Prop} {p:Option Addr} {c s:Nat} {V:List (List Int)} (h:RV w Q p c s V) (hb:Below w.heap.size w w'):RV w' Q p c s V:=h.keep (Chg.of_below (S:=fun _=>False) hb) fun _ _ h=>h
theorem RV.mono {w:World} {Q T:Nat→Prop} {p:Option Addr} {c s:Nat} {V:List (List Int)} (h:RV w Q p c s V) (hs:∀ k,Q k→k<w.heap.size→T k):RV w T p c s V:=by
 obtain⟨L,h1,h2,h3⟩:=h.row
 refine⟨⟨L,h1,fun h0 a ha=>⟨hs _ (h2 h0 a ha).1 ?_,(h2 h0 a ha).2⟩,h3.mono hs⟩,h.len⟩
 obtain⟨cs,hk⟩:=(h2 h0 a ha).2
 exact z0k hk
theorem RV.one {w:World} {Q:Nat→Prop} {p:Option Addr} {c s:Nat} {V:List (List Int)} (h:RV w Q p c s V) {i:Nat} (hi:i<V.length):∃ b off q cq,p=some ⟨b,off,none⟩∧w.cell? ⟨b,off+i,none⟩=some (.slice q s cq)∧BL w q s cq (V.getD i [])∧∀ a,q=some a→Q a.block∧U8 w a.block:=by
 obtain⟨L,h1,h2,h3⟩:=h.row
 obtain⟨b,off,rfl,hlt,hc⟩:=h1.cell (by omega)
 have:=hc i hi 0 _ rfl
 rw [Nat.mul_one,Nat.add_zero] at this
 exact⟨b,off,_,_,rfl,this,(h3 i hi).1,(h3 i hi).2⟩
structure Fi (W0 wr:World) (Q:Nat→Prop) (base R s:Nat) (v:Value) (L:List (Option Addr × Nat)) (V:List (List Int)):Prop where
 own:wr.ownsRow base 33 1 v V.length (z0t (es s) L)
 len:L.length=V.length
 each:Each wr Q s L V
 all:∀ x∈V,x.length=s
 blk:wr.heap[R]?=some (.cells #[v,.int .i64 (s:Nat)] 32 (0,0))
 below:Below W0.heap.size W0 wr
 lo:W0.heap.size≤R∧R<base∧base≤wr.heap.size∧∀ k,W0.heap.size≤k→Q k
theorem Fi.later {W0 wr w':World} {Q:Nat→Prop} {base R s:Nat} {v:Value} {L:List (Option Addr × Nat)} {V:List (List Int)} (h:Fi W0 wr Q base R s v L V) (hb:Below wr.heap.size wr w'):Fi W0 w' Q base R s v L V:=by
 refine⟨⟨h.own.1,?_⟩,h.len,h.each.keep (Chg.of_below (S:=fun _=>False) hb) (fun _ _ _ h=>h),h.all,z0b h.blk hb,h.below.trans (hb.mono h.below.size),h.lo.1,h.lo.2.1,Nat.le_trans h.lo.2.2.1 hb.size,h.lo.2.2.2⟩
 rcases h.own.2 with hn | ⟨g,cap,cur,rfl,h1,h2,h3⟩
 · exact .inl hn
 · exact .inr ⟨g,cap,cur,rfl,h1,(hb.block g (z0k h2)).trans h2,h3⟩
theorem Fi.blk_ne {W0 wr:World} {Q:Nat→Prop} {base R s:Nat} {v:Value} {L:List (Option Addr × Nat)} {V:List (List Int)} (h:Fi W0 wr Q base R s v L V):∀ k,v.ownBlock=some k→k≠R:=fun k hk e=>by
 have:=(h.own.lt k hk).1
 have:=h.lo.2.1
 omega
theorem Fi.step {W0 wr w':World} {Q:Nat→Prop} {base R s:Nat} {v v':Value} {L:List (Option Addr × Nat)} {V:List (List Int)} {e:Option Addr × Nat} {x:List Int} (h:Fi W0 wr Q base R s v L V) (hx:BL wr e.1 s e.2 x) (ha:∀ a,e.1=some a→Q a.block∧U8 wr a.block)
 (h1:w'.ownsRow base 33 1 v' (V.length+1) (z0t (es s) (L ++ [e]))) (h2:wr.grownBy w' v.ownBlock) :
 w'.cell? ⟨R,0,none⟩=some v∧w'.frozen? ⟨R,0,none⟩=false∧Fi W0 (w'.setCell ⟨R,0,none⟩ v') Q base R s v' (L ++ [e]) (V ++ [x]):=by
 have hne:=h.blk_ne
 have hR:w'.heap[R]?=some (.cells #[v,.int .i64 (s:Nat)] 32 (0,0)):=(h2.block R (z0k h.blk) (fun e=>hne R e.symm rfl)).trans h.blk
 have hc1:Chg (fun k=>v.ownBlock=some k) wr w':=Chg.of_grown h2
 have hu:∀ k,U8 wr k→¬ v.ownBlock=some k:=fun k ⟨cs,hk⟩ e=>by
  rcases h.own.2 with ⟨rfl,_⟩ | ⟨g,cap,cur,rfl,_,hg,_⟩
  · cases e
  · cases e
    rw [hg] at hk
    cases hk
 have hc2:Chg (fun k=>k=R) w' (w'.setCell ⟨R,0,none⟩ v'):=(Chg.refl _ _).setCell _ _ fun _=>rfl
 have huR:∀ k,U8 w' k→¬ k=R:=fun k ⟨cs,hk⟩ e=>by
  rw [e,hR] at hk
  cases hk
 have hE:Each wr Q s (L ++ [e]) (V ++ [x]):=h.each.push h.len hx ha
 have hE1:=hE.keep hc1 fun k _ hk=>hu k hk
 have hE2:=hE1.keep hc2 fun k _ hk=>huR k hk
 have hne':∀ k,v'.ownBlock=some k→k≠R:=fun k hk e=>by
  have:=(h1.lt k hk).1
  have:=h.lo.2.1
  omega
 refine⟨z0a hR rfl,z0c 0 hR,⟨⟨?_,?_⟩,by simp [h.len],hE2,?_,z0m 0 v' hR,?_,h.lo.1,h.lo.2.1,?_,h.lo.2.2.2⟩⟩
 · rw [List.length_append,List.length_singleton]
   exact h1.1
 · rw [List.length_append,List.length_singleton]
   rcases h1.2 with hn | ⟨g,cap,cur,rfl,g1,g2,g3⟩
   · exact .inl hn
   · exact .inr ⟨g,cap,cur,rfl,g1,(Below.heap_setCell _ _ _ _ (fun e=>hne' g rfl e)).trans g2,g3⟩
 · intro y hy
   rcases List.mem_append.1 hy with hy | hy
   · exact h.all y hy
   · rw [List.mem_singleton] at hy
     subst hy
     exact hx.len
 · have hb1:Below W0.heap.size W0 w':=hc1.below h.below h.below.size fun k hk=>by have:=(h.own.lt k hk).1;have:=h.lo;omega
   exact hc2.below hb1 hb1.size fun k hk=>by rw [hk];exact h.lo.1
 · have:=h2.size
   have:=h.lo.2.2.1
   simp
   omega
theorem own_slices {w:World} {base n s:Nat} {v:Value} {L:List (Option Addr × Nat)} (h:w.ownsRow base 33 1 v n (z0t (es s) L)):∃ p c,v=.slice p n c∧SlG (es s) 1 d0 w p n c L∧∀ a,p=some a→base≤a.block∧US w a.block:=by
 obtain⟨p,c,rfl,hs,hp⟩:=SlG.of_own (d:=d0) (q0y s) (by decide) h
 refine⟨p,c,rfl,hs,fun a ha=>⟨hp a ha,?_⟩⟩
 rcases h.2 with ⟨h1,_⟩ | ⟨g,cap,cur,h1,_,hg,_⟩
 · cases h1
   cases ha
 · cases h1
   cases ha
   exact⟨cur,hg⟩
theorem Fi.rv {W0 wr:World} {Q:Nat→Prop} {base R s:Nat} {v:Value} {L:List (Option Addr × Nat)} {V:List (List Int)} (h:Fi W0 wr Q base R s v L V):∃ p c,v=.slice p V.length c∧RV wr Q p c s V:=by
 obtain⟨p,c,rfl,hs,hp⟩:=own_slices h.own
 exact⟨p,c,rfl,⟨L,hs,fun _ a ha=>⟨h.lo.2.2.2 _ (by have:=(hp a ha).1;have:=h.lo.1;have:=h.lo.2.1;omega),(hp a ha).2⟩,h.each⟩,h.all⟩
theorem fill_one {W0 wr W2:World} {Q:Nat→Prop} {base R s j c0:Nat} {p0:Option Addr} {L:List (Option Addr × Nat)} {V:List (List Int)} {e:Option Addr × Nat} {x:List Int} (h:Fi W0 wr Q base R s (.slice p0 j c0) L V) (hj:V.length=j) (hb:Below wr.heap.size wr W2)
 (hn:W2.heap[wr.heap.size]?=some (.cells #[.slice e.1 s e.2] 33 (0,0))) (hx:BL wr e.1 s e.2 x) (ha:∀ a,e.1=some a→Q a.block∧U8 wr a.block) :
 W2.ownsRow base 33 1 (.slice p0 j c0) j (z0t (es s) L)∧(∀ i u,(es s e)[i]?=some u→W2.cell? ⟨wr.heap.size,i,none⟩=some u)∧base≤W2.heap.size∧W2.cell? ⟨R,0,none⟩=some (.slice p0 j c0) ∧
 ∀ v' w',w'.ownsRow base 33 1 v' (j+1) (z0t (es s) (L ++ [e]))→W2.grownBy w' (Value.slice p0 j c0).ownBlock →
  w'.cell? ⟨R,0,none⟩=some (.slice p0 j c0)∧w'.frozen? ⟨R,0,none⟩=false∧Fi W0 (w'.setCell ⟨R,0,none⟩ v') Q base R s v' (L ++ [e]) (V ++ [x]):=by
 have h2:=h.later hb
 refine⟨hj ▸ h2.own,fun i u hu=>?_,h2.lo.2.2.1,z0a h2.blk rfl,fun v' w' ho hg=>?_⟩
 · refine z0a (w:=W2) hn ?_
   rw [List.getElem?_toArray]
   exact hu
 · exact h2.step (e:=e) (SlG.later hx hb) (fun a ha'=>⟨(ha a ha').1,(ha a ha').2.keep (Chg.of_below (S:=fun _=>False) hb) (fun h=>h)⟩) (hj ▸ ho) hg
theorem own_bytes {w:World} {base n:Nat} {v:Value} {L:List Int} (h:w.ownsRow base 5 1 v n (z0t eb L)):∃ p c,v=.slice p n c∧BL w p n c L∧∀ a,p=some a→base≤a.block∧U8 w a.block:=by
 obtain⟨p,c,rfl,hs,hp⟩:=SlG.of_own (d:=(0:Int)) eb_len (by decide) h
 refine⟨p,c,rfl,hs,fun a ha=>⟨hp a ha,?_⟩⟩
 rcases h.2 with ⟨h1,_⟩ | ⟨g,cap,cur,h1,_,hg,_⟩
 · cases h1
   cases ha
 · cases h1
   cases ha
   exact⟨cur,hg⟩
theorem fi_start {wr:World} {Q:Nat→Prop} {s:Nat} (hn:∀ k,wr.heap.size≤k→Q k):Fi wr (wr.alloc (.cells #[.slice none 0 0,.int .i64 (s:Nat)] 32)) Q (wr.heap.size+1) wr.heap.size s (.slice none 0 0) [] [] :=
 ⟨World.ownsRow_nil _ _ _ _,rfl,fun i hi=>by simp at hi,(fun x hx=>by cases hx),z0e _ _,(Below.refl _ _).alloc (Nat.le_refl _) _,Nat.le_refl _,by omega,by simp,hn⟩
end Go.Proofs.YtfdgnniicjdjdaaGreatDoor
