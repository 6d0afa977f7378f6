import Derived.Test.YtnpjpelbcmgodaaGreatDoorPA17
import Derived.Shelf.SlIterI.Nil
import Derived.RangeFuncNested
import Derived.Maps.OwnIn
namespace Go.Proofs.YtnpjpelbcmgodaaGreatDoor
open Go.Lib (hid)
set_option maxHeartbeats 2000000
open Go.RowKit Go.ChangeShapes Go.WideShapes Go.Maps
set_option linter.unusedVariables false
set_option linter.unusedSimpArgs false
set_option maxRecDepth 10000
section
attribute [local go_sem] Oper.semAt_some
def juc (x:Int):List Value:=[.int .u32 x]
theorem juc_len (x:Int):(juc x).length=1:=rfl
theorem juc_one (x:Int):∀ u∈juc x,u.oneCell'=true:=by
 intro u hu
 simp only [juc,List.mem_cons,List.not_mem_nil,or_false] at hu
 rw [hu];rfl
theorem jinfo_u32:(Tryz.prog.info? 32).map (fun i=>(i.zero,i.size,i.bytes))=some (some (.int .u32 0),1,4):=by kernel_rfl
def Uok (x:Int):Prop:=0≤x∧x≤4294967295
theorem uok_wf {x:Int} (h:(Lit.int .u32 x).wf=true):Uok x:=by simpa [Uok,Lit.wf,IntKind.min,IntKind.max,IntKind.bits,IntKind.signed] using h
theorem kU_same (x y:Int):(kU x).sameKey (kU y)=decide (x=y):=by
 simp [Lit.sameKey]
def CollU (D0:DataW Hx) (left:Lit→Bool) (ss:List Int):Prop:=ss.Nodup∧(∀ x∈ss,Uok x)∧∀ x,Uok x→(x∈ss ↔ has D0 (kU x)=true∧left (kU x)=false)
def AllU (D0:DataW Hx) (ss:List Int):Prop:=ss.Nodup∧(∀ x∈ss,Uok x)∧∀ x,Uok x→(x∈ss ↔ has D0 (kU x)=true)
theorem CollU.start (D0:DataW Hx):CollU D0 (has D0) []:=⟨List.nodup_nil,(fun x hx=>by cases hx),fun x _=>by cases has D0 (kU x) <;> simp⟩
theorem CollU.step {D0:DataW Hx} {left:Lit→Bool} {ss:List Int} (h:CollU D0 left ss) {x:Int} (hk:Uok x) {y:DataW Hx} (hlk:left (kU x)=true) (hat:∀ zd,D0.atKey (kU x) zd=y):CollU D0 (fun z=>left z && !z.sameKey (kU x)) (ss ++ [x]):=by
 have hhas:has D0 (kU x)=true:=has_true_of_atKey hat
 have hnew:x ∉ ss:=fun hx=>by have:=((h.2.2 x hk).1 hx).2;rw [hlk] at this;cases this
 refine⟨List.nodup_append.2 ⟨h.1,by simp,fun a ha b hb=>by simp at hb;subst hb;exact fun e=>hnew (e ▸ ha)⟩,fun y hy=>?_,fun y hy=>?_⟩
 · rcases List.mem_append.1 hy with hy | hy
   · exact h.2.1 y hy
   · rw [List.mem_singleton] at hy
     exact hy ▸ hk
 · show _ ↔ _∧(left (kU y) && !(kU y).sameKey (kU x))=false
   rw [kU_same]
   by_cases e:y=x
   · subst e;simp [hhas]
   · simp [h.2.2 y hy,e]
set_option maxRecDepth 100000 in
/-- The iterator over a map's numbers, for every loop body that keeps its word. -/
theorem ukeys1_in (n l Bm b nn:Nat) (hn:1≤n) (D0:DataW Hx) (J Jx:List Int→World→Prop)
 (hY:∀ pre x W,J pre W→pre.length<Maps.size D0→YieldAt Fence.wide (n-1) Tryz.prog l #[.int .u32 x] W fun e W' =>
  (e=.returned (.bool true)∧J (pre ++ [x]) W'∧KeepsWalks W W')∨(e=.returned (.bool false)∧Jx (pre ++ [x]) W'))
 (W:World) (hJ:AbidesFrom W.heap.size J) (hm:W.cell? ⟨Bm,0,none⟩=some (.map (some b))) (hown:W.ownsMap Tryz.prog 32 z3l b nn D0) (h0:J [] W) :
 CallsIn Fence.wide n Tryz.prog 87 #[.func (.yield l) #[] #[],.pointer (some ⟨Bm,0,none⟩)] W fun e W'=>(∃ v,e=.returned v) ∧
  ((∃ ss:List Int,AllU D0 ss∧J ss W')∨(∃ pre:List Int,True∧Jx pre W')):=by
 refine callsIn_of_wp Tryz.func87 rfl trivial ?_ rfl
 simp only [Tryz.ntmps87,List.size_toArray,List.length_cons,List.length_nil,Nat.reduceAdd,Nat.reduceSub,Array.replicate_succ,Array.replicate_zero,List.push_toArray,List.append_toArray,List.nil_append,List.cons_append]
 gi_wp2_with (first
  | (gi_at_range;refine wpListIn_range_own _ rfl _ 61 rfl 32 58 z6h Tryz.underlying61 _ b nn _ rfl hown ?_;intro w0 hrg0 hg0 hs0)
  | gi_in)
 go_frame
 gi_loopw [3] (fun _ wr=>∃ (left:Lit→Bool) (cnt:Nat) (ss:List Int),wr.ranges Tryz.prog 32 z3l b W.heap.size nn D0 left cnt∧ss.length+cnt≤Maps.size D0∧CollU D0 left ss∧J ss wr)
  (fun _ wr=>wr.rangeLeft b W.heap.size)
 case atStart =>
  exact⟨_,_,[],hrg0,by simp,CollU.start D0,hJ [] W w0 none h0 hg0 (fun r e=>by cases e)⟩
 case round =>
  obtain⟨left,cnt,ss,hrg,hcs,hC,hJs⟩:=hrel
  gi_wp2_with (first
   | (gi_at_next;refine wpListIn_next_ranges _ rfl _ rfl 32 z6h z3l (Value.int .u32) id (fun key kl hk=>by obtain⟨x,hx,_⟩:=Maps.keyOf_int_inv Tryz.underlying32 hk;exact⟨x,hx⟩) (fun v _ _=>⟨v,rfl⟩) b W.heap.size nn _ _ _ rfl hrg ?_ ?_)
   | gi_in)
  · intro hc0 hl0
    gi_wp2
    go_end0
    exact⟨⟨_,rfl⟩,.inl ⟨ss,⟨hC.1,hC.2.1,fun x hx=>by rw [hC.2.2 x hx,hl0];simp⟩,hJs⟩⟩
  · intro x c kl yd yp w2 cnt2 hkey hlk hv hat hrg2 hlt hg2 hs2 hen
    obtain⟨x',ex,rfl,hwf⟩:=Maps.keyOf_int_inv Tryz.underlying32 hkey
    cases ex
    have hJ2:J ss w2:=hJ ss wr w2 (some W.heap.size) hJs hg2 (fun r e=>by cases e;exact⟨Nat.le_refl _,hrg.iter_walk⟩)
    have hC2:=hC.step (uok_wf hwf) hlk hat
    obtain⟨fn,tmps,assign,body,hy,hR⟩:=hY ss x _ hJ2 (by omega)
    clear hs2
    gi_wp2
    refine hR.mono ?_
    rintro e W3 (⟨rfl,hJ4,hk4⟩ | ⟨rfl,hJx4⟩)
    · gi_wp2
      have hrg4:=hrg2.of_walks hk4
      go_roundw
      case rel=>exact⟨_,cnt2,ss ++ [x],hrg4,by simp;omega,hC2,hJ4⟩
      case measure=>rw [hrg4.left_eq,hrg.left_eq];exact hlt
    · gi_wp2
      refine bodyPost_ret (results_none rfl _ _ _) rfl ?_
      exact⟨⟨_,rfl⟩,.inr ⟨ss ++ [x],trivial,hJx4⟩⟩
theorem ownsMap_low {P:Program} {k:TypeId} {R:Value→Option (DataW Hx × List MemPlace)} {w W:World} {b nn:Nat} {D:DataW Hx} (hown:w.ownsMap P k R b nn D) (hW:Below w.heap.size w W):W.ownsMap P k R b nn D:=by
 have hbl:=hown.lt
 obtain⟨es,clock,hb,Ft,hs,hD⟩:=hown
 exact⟨es,clock,(hW.block b hbl).trans hb,Ft,hs,hD⟩
theorem ukeys_stops (n Bm b nn:Nat) (hn:1≤n) (D0:DataW Hx) (w:World) (hm:w.cell? ⟨Bm,0,none⟩=some (.map (some b))) (hown:w.ownsMap Tryz.prog 32 z3l b nn D0) :
 SeqStopsK Fence.wide n Tryz.prog 87 #[.pointer (some ⟨Bm,0,none⟩)] (fun x=>#[.int .u32 x]) KeepsWalks (AllU D0) (fun _=>True) (Maps.size D0) w:=fun l J Jx W hW hJ _ hY h0 =>
 ukeys1_in n l Bm b nn hn D0 J Jx hY W hJ ((hW.cell (p:=⟨Bm,0,none⟩) (World.block_lt_of_cell? _ _ hm)).trans hm) (ownsMap_low hown hW) h0
set_option maxRecDepth 100000 in
theorem ukeys_stops_nil (n Bm:Nat) (w:World) (hm:w.cell? ⟨Bm,0,none⟩=some (.map none)) :
 SeqStopsK Fence.wide n Tryz.prog 87 #[.pointer (some ⟨Bm,0,none⟩)] (fun x=>#[.int .u32 x]) KeepsWalks (fun ss=>ss=[]) (fun _=>True) 0 w:=fun l J Jx W hW hJ _ hY h0=>by
 have hm':=(hW.cell (p:=⟨Bm,0,none⟩) (World.block_lt_of_cell? _ _ hm)).trans hm
 refine callsIn_of_wp Tryz.func87 rfl trivial ?_ rfl
 simp only [Tryz.ntmps87,List.size_toArray,List.length_cons,List.length_nil,Nat.reduceAdd,Nat.reduceSub,Array.replicate_succ,Array.replicate_zero,List.push_toArray,List.append_toArray,List.nil_append,List.cons_append]
 have hrg:=run_range_nilMap (P:=Tryz.prog) W 61 32 58 Tryz.underlying61
 have hnx:∀ ty,(Instr.next (.pointer (some ⟨W.heap.size,0,none⟩)) false ty).run Tryz.prog (W.alloc (.mapIter none 0 #[] 0))=_:=fun ty=>run_next_nilMap _ ty 0 0 #[]
 gi_wp2
 refine wpIn_loop_rounds 1 ?_
 rw [roundsIn_succ]
 gi_wp2
 go_end0
 exact⟨⟨_,rfl⟩,.inl ⟨[],rfl,hJ [] W _ none h0 (World.grownBy_alloc W _ none) (fun r e=>by cases e)⟩⟩
theorem umkeys_any (mb:Option Nat) (w:World) :
 Calls Tryz.prog 60 #[.map mb] w fun e w'=>e=.returned (.func (.func 87) #[] #[.pointer (some ⟨w.heap.size,0,none⟩)])∧w'=w.alloc (.cells #[.map mb] 61):=by
 go_enter Tryz.func60,Tryz.ntmps60
 go_wp2_with fail
 go_ret
 exact⟨rfl,rfl⟩
theorem ju_news (W:World) (x:Int):∀ j u,(juc x)[j]?=some u→(W.alloc (.cells #[.int .u32 x] 32)).cell? ((⟨W.heap.size,0,none⟩:Addr).add j)=some u:=by
 intro j u hu
 rw [Go.WideShapes.add_plain,Nat.zero_add]
 exact z0a (World.alloc_heap_new W _) (by simpa [juc] using hu)
def uL (L:List Int):List Value:=z0u juc L
theorem uL_append (L:List Int) (x:Int):uL (L ++ [x])=uL L++juc x:=by
 unfold uL
 rw [z2a,z4y]
set_option maxRecDepth 100000 in
/-- slices.AppendSeq(nil, seq): what the iterator gives, in a row of the call's own. -/
theorem uappendSeq_in (g:Nat) (lb:Array Value) (eg:∀ args w,(callFunc g args).run Tryz.prog w=.ok (.enter g args) w) (S:List Int→Prop) (N:Nat) (hN:N≤100000) (w:World)
 (hseq:SeqStopsK Fence.wide 2 Tryz.prog g lb (fun x:Int=>#[.int .u32 x]) KeepsWalks S (fun _=>True) N w) :
 CallsIn Fence.wide 3 Tryz.prog 106 #[.slice none 0 0,.func (.func g) #[] lb] w fun e w'=>∃ (v:Value) (ss:List Int),e=.returned v∧S ss∧w'.ownsRow w.heap.size 32 1 v ss.length (uL ss)∧Below w.heap.size w w':=by
 obtain⟨i0,hi,hz0,hz1,hz2⟩:=info_parts jinfo_u32
 refine callsIn_of_wp_marks Tryz.func106 rfl trivial ?_ rfl
 simp only [Tryz.ntmps106,List.size_toArray,List.length_cons,List.length_nil,Nat.reduceAdd,Nat.reduceSub,Array.replicate_succ,Array.replicate_zero,List.push_toArray,List.append_toArray,List.nil_append,List.cons_append]
 gi_wp2
 have bO:=Boxed.new w 103 (.slice none 0 0)
 have hB0:Below w.heap.size w (w.alloc (.cells #[.slice none 0 0] 103)):=(Below.refl _ w).alloc (Nat.le_refl _) _
 refine wpIn_rangeFunc_ownH rfl (by decide) (gf:=g) (lb:=lb) rfl trivial eg hseq walksK_t walksK_b hB0 (fun _=>rfl)
  (fun pre W=>(∃ v,Boxed W w.heap.size 103 v∧W.ownsRow w.heap.size 32 1 v pre.length (uL pre)∧True)∧Below w.heap.size w W)
  (fun _ _ _=>False)
  (OwnFrom.and (Own.from (holdsRow_own w.heap.size w.heap.size 103 32 1 (fun pre=>pre.length) (fun pre=>uL pre) (fun _ _=>True)) _) (ownFrom_below (Nat.le_refl _) (by simp)))
  (fun _ _ _ _ _ hs _ _=>hs)
  ⟨⟨_,bO,World.ownsRow_nil _ _ _ _,trivial⟩,hB0⟩
  (fun x a' W=>a'={ tmps:=#[.slice none 0 0,.func (.func g) #[] lb,.pointer (some ⟨w.heap.size,0,none⟩),undef,.slice none 0 0,.int .u32 x,.func (.func g) #[] lb,.int .u32 x,undef,undef,undef,undef,undef],defers:=[] })
  ?ownA ?assign ?body ?done ?stop
 case ownA =>
  rintro x a' s W W' row h3 hg hrow
  exact h3
 case assign =>
  rintro l pre x W K' ⟨⟨v,bS1,hr1,_⟩,hB1⟩ hK
  gi_wp2
  exact hK _ _ ((KeepsOthers.refl _).from _) (KeepsWalks.refl _) ⟨⟨v,bS1,hr1,trivial⟩,hB1⟩ rfl
 case body =>
  rintro l pre x a' W hl ⟨r,hr⟩ ⟨⟨v,bS,hrow,_⟩,hB⟩ rfl hlt
  have hc:=bS.cell
  gi_wp2_with (gi_at_builtin;refine wpListIn_append_own _ rfl _ _ 103 rfl w.heap.size 32 i0 (.int .u32 0) 1 4 Tryz.underlying103 hi hz0 hz1 hz2 rfl (by decide) _ _ _ rfl (hrow.alloc _) ⟨W.heap.size,0,none⟩ 1 1 (juc x) rfl rfl (ju_news W x) (juc_one x) (by unfold maxLen;omega) (by omega) (by have:=hB.size;simp;omega) ?_;intro v' w1 hown' hgrow _;obtain⟨g',cap',rfl⟩:=ownsRow_succ hown';obtain⟨hv1,hv2,hr2,hk2,hb2⟩:=bS.appended (by decide) hrow hB.size (Nat.le_refl _) hown' hgrow;have hc1:=hv1.cell;have hf1:=hv1.frozen)
  exact⟨hk2.from _,⟨hk2.size,fun k o hk ho=>hk2.same k o hk (by cases o <;> first | rfl | cases ho)⟩,⟨_,hv2,by rw [uL_append];simpa [uL] using hr2,trivial⟩,hB.trans hb2⟩
 case done =>
  rintro D ys W hD hS ⟨⟨v,bS,hrow,_⟩,hB⟩ hK
  have hc:=bS.cell
  gi_wp2
  refine⟨by simp,.inl ⟨_,_,rfl,run_takeDeferred hK,?_⟩⟩
  exact⟨_,results_tmp rfl _ _ _,v,ys,rfl,hS,ownsRow_putObj hrow _ hK rfl,hB.trans (belowK_b (w:=w) (Nat.le_refl _) W D _ _ (by simp at hD;omega) hK rfl rfl)⟩
 case stop =>
  rintro D c pre W _ _ h _
  exact h.elim
theorem ucollect_any (g:Nat) (lb:Array Value) (eg:∀ args w,(callFunc g args).run Tryz.prog w=.ok (.enter g args) w) (S:List Int→Prop) (N:Nat) (hN:N≤100000) (W:World)
 (hseq:SeqStopsK Fence.wide 2 Tryz.prog g lb (fun x:Int=>#[.int .u32 x]) KeepsWalks S (fun _=>True) N W) :
 Calls Tryz.prog 85 #[.func (.func g) #[] lb] W fun e w'=>∃ (v:Value) (ss:List Int),e=.returned v∧S ss∧w'.ownsRow W.heap.size 32 1 v ss.length (uL ss)∧Below W.heap.size W w':=by
 have hc:=callsIn_wide.1 (uappendSeq_in g lb eg S N hN W hseq)
 clear hseq eg
 go_enter Tryz.func85,Tryz.ntmps85
 go_wp2_with fail
 refine hc.mono ?_
 rintro e w' ⟨v,ss,rfl,hS,hrow,hb⟩
 have H:=hid (And.intro hS (And.intro hrow hb))
 clear hc hS hrow hb
 go_wp2_with fail
 go_ret
 exact⟨v,ss,rfl,H.out.1,H.out.2.1,H.out.2.2⟩
end
end Go.Proofs.YtnpjpelbcmgodaaGreatDoor
