import Derived.Test.YtfdgnniicjdjdaaGreatDoorPS00
import Derived.Test.YtfdgnniicjdjdaaGreatDoorPS02
import Derived.Lib.SliceRun
import Derived.Test.YtfdgnniicjdjdaaGreatDoorPS09
namespace Go.Proofs.YtfdgnniicjdjdaaGreatDoor
open Go.Lib (hid)
open Go.RowKit Go.ChangeShapes Go.WideShapes
set_option linter.unusedVariables false
set_option maxRecDepth 10000
set_option linter.unusedSimpArgs false
def eb (x:Int):List Value:=[.int .u8 x]
abbrev BL (w:World) (p:Option Addr) (n c:Nat) (L:List Int):Prop:=SlG eb 1 0 w p n c L
def vB (L:List Int):List Value:=L.map (Value.int .u8)
theorem z7g (L:List Int):(vB L).length=L.length:=by simp [vB]
theorem vB_one (L:List Int):∀ u∈vB L,u.oneCell'=true:=by
 intro u hu
 obtain⟨x,_,rfl⟩:=List.mem_map.1 hu
 rfl
theorem q2v (L:List Int) (j:Nat) (h:j<L.length):(vB L)[j]?=some (.int .u8 (L.getD j 0)):=by simp [vB,List.getD,List.getElem?_eq_getElem h]
theorem vB_take (L:List Int) (k:Nat):(vB L).take k=vB (L.take k):=by simp [vB]
theorem vB_drop (L:List Int) (k:Nat):(vB L).drop k=vB (L.drop k):=by simp [vB]
theorem vB_append (L M:List Int):vB (L++M)=vB L++vB M:=by simp [vB]
theorem vB_splice (L M:List Int) (k:Nat):splice (vB L) k (vB M)=vB (splice L k M):=by simp only [splice,vB_take,vB_drop,vB_append,z7g]
theorem BL.at {w:World} {p:Option Addr} {n c:Nat} {L:List Int} (h:BL w p n c L) (h0:0<n):∃ b off,p=some ⟨b,off,none⟩∧b<w.heap.size∧∀ j,j<n→w.cell? ⟨b,off+j,none⟩=some (.int .u8 (L.getD j 0)):=by
 obtain⟨b,off,hp,hlt,hc⟩:=h.cell h0
 refine⟨b,off,hp,hlt,fun j hj=>?_⟩
 have:=hc j hj 0 _ rfl
 rwa [Nat.mul_one,Nat.add_zero] at this
theorem BL.mk {w:World} {p:Option Addr} {n c:Nat} {L:List Int} (hl:L.length=n) (hc:n≤c) (hm:c≤maxLen) (hn:p=none→c=0) (h:0<n→∃ b off,p=some ⟨b,off,none⟩∧b<w.heap.size∧∀ j,j<n→w.cell? ⟨b,off+j,none⟩=some (.int .u8 (L.getD j 0))):BL w p n c L:=by
 refine⟨hl,hc,hm,hn,fun h0=>?_⟩
 obtain⟨b,off,hp,hlt,hcell⟩:=h h0
 refine⟨b,off,hp,hlt,fun j hj i v hv=>?_⟩
 match i,hv with
 | 0,hv =>
  simp only [eb,List.getElem?_cons_zero,Option.some.injEq] at hv
  subst hv
  rw [Nat.mul_one,Nat.add_zero]
  exact hcell j hj
theorem BL.keep {w w':World} {p:Option Addr} {n c:Nat} {L:List Int} {S:Nat→Prop} (h:BL w p n c L) (hc:Chg S w w') (hs:0<n→∀ a,p=some a→¬ S a.block):BL w' p n c L :=
 SlG.turn h hc.size fun h0 a ha hlt=>hc.block _ hlt (hs h0 a ha)
theorem BL.of_row {w:World} {g off n c:Nat} {cur:List Int} {t:TypeId} (hg:w.heap[g]?=some (.cells (vB cur).toArray t (0,0))) (hn:off+n≤cur.length) (hc:n≤c) (hm:c≤maxLen):BL w (some ⟨g,off,none⟩) n c ((cur.drop off).take n):=by
 refine BL.mk (by rw [List.length_take,List.length_drop];omega) hc hm (fun h=>by cases h) fun h0=>⟨g,off,rfl,z0g hg,fun j hj=>?_⟩
 refine z0a hg ?_
 rw [List.getElem?_toArray,q2v _ _ (by omega)]
 congr 2
 rw [List.getD,List.getD,List.getElem?_take,if_pos hj,List.getElem?_drop]
theorem Chg.setRow {w:World} {g:Nat} (cs:Array Value):Chg (fun k=>k=g) w (w.setRow g cs):=⟨rfl,rfl,rfl,by simp [World.setRow],fun k hk hn=>setRow_other w g k cs hn⟩
theorem cells_u8:(Value.int .u8 0).cells=#[.int .u8 0]:=rfl
theorem size_u8:(Tryz.prog.info? 5).map (·.size)=some 1:=by kernel_rfl
theorem wpList_copy_at {w:World} {ops:Array Oper} {rest:List Oper} {o:Oper} {a:Act} {Q:Exit→Act→World→Prop} (hgd:o.guard=none) (d s:Operand)
 (ho:o.op=.call { callee:=.builtin .copy,args:=#[d,s],argTypes:=#[33,33] }) (dp sp:Option Addr) (dLen dCap sLen sCap m:Nat) (hd:a.eval d=.slice dp dLen dCap) (hs:a.eval s=.slice sp sLen sCap) (hm:Nat.min sLen dLen=m)
 (g off:Nat) (cur:List Int) (t:TypeId) (hg:w.heap[g]?=some (.cells (vB cur).toArray t (0,0))) (src:List Int) (hsrc:BL w sp sLen sCap src)
 (hpos:0<m→dp=some ⟨g,off,none⟩) (hfit:off+m≤cur.length)
 (h:∀ w',Hid (w'.heap[g]?=some (.cells (vB (splice cur off (src.take m))).toArray t (0,0)))→Chg (fun k=>k=g) w w'→wpList Tryz.prog ops Q rest (a.put o.dst (.int .i64 (m:Nat))) w'):wpList Tryz.prog ops Q (o::rest) a w:=by
 subst hm
 have hle:Nat.min sLen dLen≤sLen:=Nat.min_le_left ..
 have hlen:(src.take (Nat.min sLen dLen)).length=Nat.min sLen dLen:=by rw [List.length_take,hsrc.len];omega
 by_cases h0:Nat.min sLen dLen=0
 · refine wpList_copy_nothing hgd d s _ _ ho 5 Tryz.underlying33 size_u8 dp sp dLen dCap sLen sCap hd hs h0 ?_
   have:=h w (hid (by rw [h0];simpa [splice] using hg)) (Chg.refl _ _)
   rw [h0] at this
   exact this
 · obtain rfl:=hpos (by omega)
   obtain⟨b,off',rfl,_,hc⟩:=hsrc.at (by omega)
   refine wpList_copy_own hgd d s _ _ ho 5 Tryz.underlying33 size_u8 g off dLen dCap ⟨b,off',none⟩ sLen sCap hd hs _ t hg (vB (src.take (Nat.min sLen dLen))) (by rw [z7g,hlen]) ?_ (by simpa [z7g,hlen] using hfit) (vB_one _) ?_
   · intro j v hv
     have hj:j<Nat.min sLen dLen:=by
      rcases Nat.lt_or_ge j (Nat.min sLen dLen) with h' | h'
      · exact h'
      · rw [List.getElem?_eq_none (by rw [z7g,hlen];exact h')] at hv;cases hv
     rw [Go.WideShapes.add_plain,hc j (by omega),← hv,q2v _ _ (by rw [hlen];exact hj)]
     rw [List.getD,List.getD,List.getElem?_take,if_pos hj]
   · rw [z7g,hlen]
     refine h _ (hid ?_) (Chg.setRow _)
     rw [setRow_heap w g _ _ t _ hg,← vB_splice]
     simp [splice,z7g,hlen]
theorem made_bytes (n:Nat) (hn:n≤5000000) (w:World):(Instr.makeSlice 33 (.int .i64 (n:Nat)) (.int .i64 (n:Nat))).run Tryz.prog w=.ok (.slice (some ⟨w.heap.size,0,none⟩) n n) (w.alloc (.cells (vB (List.replicate n 0)).toArray 5)):=by
 obtain⟨i,hi,hz0,hz1,hz2⟩:=info_parts q0q
 have hr:=run_make (P:=Tryz.prog) w 33 5 i _ Tryz.underlying33 hi hz0 .i64 .i64 (n:Nat) (n:Nat) (by omega) (by omega) (by rw [hz2];omega) (by omega)
 rw [hr,hz1,Int.toNat_natCast,Nat.mul_one]
 refine congrArg (fun c=>Result.ok _ (w.alloc (.cells c 5))) ?_
 apply Array.ext
 · simp [size_madeCells,vB,cells_u8]
 · intro j h1 h2
   simp [madeCells,vB,cells_u8,Nat.mod_one]
structure Vo (w:World) (B G s:Nat) (V:List (List Int)):Prop where
 blk:w.heap[B]?=some (.cells #[.int .i64 (V.length:Nat),.int .i64 (s:Nat),.slice (some ⟨G,0,none⟩) (V.length*s) (V.length*s)] 168 (0,0))
 row:w.heap[G]?=some (.cells (vB V.flatten).toArray 5 (0,0))
 len:∀ x∈V,x.length=s
 ne:B≠G
 n:V.length≤1024
 s:s≤4096
theorem Vo.keep {w w':World} {B G s:Nat} {V:List (List Int)} {S:Nat→Prop} (h:Vo w B G s V) (hc:Chg S w w') (hB:¬ S B) (hG:¬ S G):Vo w' B G s V :=
 ⟨(hc.block B (z0g h.blk) hB).trans h.blk,(hc.block G (z0g h.row) hG).trans h.row,h.len,h.ne,h.n,h.s⟩
theorem Vo.later {w w':World} {B G s:Nat} {V:List (List Int)} (h:Vo w B G s V) (hb:Below w.heap.size w w'):Vo w' B G s V:=h.keep (Chg.of_below (S:=fun _=>False) hb) (fun h=>h) (fun h=>h)
theorem Vo.cells {w:World} {B G s:Nat} {V:List (List Int)} (h:Vo w B G s V):w.cell? ⟨B,0,none⟩=some (.int .i64 (V.length:Nat))∧w.cell? ⟨B,1,none⟩=some (.int .i64 (s:Nat))∧w.cell? ⟨B,2,none⟩=some (.slice (some ⟨G,0,none⟩) (V.length*s) (V.length*s)) :=
 ⟨z0a h.blk rfl,z0a h.blk rfl,z0a h.blk rfl⟩
theorem Vo.flat {w:World} {B G s:Nat} {V:List (List Int)} (h:Vo w B G s V):V.flatten.length=V.length*s:=len_flatten s V h.len
theorem Vo.big {w:World} {B G s:Nat} {V:List (List Int)} (h:Vo w B G s V):V.length*s≤4194304:=Nat.le_trans (Nat.mul_le_mul h.n h.s) (by omega)
def es (s:Nat) (x:Option Addr × Nat):List Value:=[.slice x.1 s x.2]
abbrev d0:Option Addr × Nat:=(none,0)
end Go.Proofs.YtfdgnniicjdjdaaGreatDoor
