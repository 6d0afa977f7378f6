import Derived.Test.YtmdldbchdnkfcaaPA23
import Derived.Test.YtmdldbchdnkfcaaPA25
import Derived.Shelf.SlIterI.Nil
import Derived.RangeFuncNested
import Derived.Maps.OwnIn
namespace Go.Proofs.Ytmdldbchdnkfcaa
open Go.RowKit Go.ChangeShapes Go.WideShapes Go.Maps
set_option linter.unusedVariables false
section
attribute [local go_sem] Oper.semAt_some
theorem ft_lit_inv (e : Nat) (x : Value) (l : List Lit) (h : Try.prog.keyLits e 5 [x] = some l) : ∃ n, x = .int .u8 n ∧ (Lit.int .u8 n).wf = true ∧ l = [.int .u8 n] := by
 have hu5 := Try.underlying5
 cases e with
 | zero => simp [Program.keyLits] at h
 | succ e =>
  simp only [Program.keyLits, hu5] at h
  cases x <;> simp at h
  obtain ⟨⟨rfl, hw⟩, rfl⟩ := h
  exact ⟨_, rfl, hw, rfl⟩
set_option maxRecDepth 100000 in
/-- What reads as a key is a key's value. -/
theorem ft_key_inv {v : Value} {kl : Lit} (h : keyOf Try.prog 32 v = some kl) : ∃ k : K, Kok k ∧ v = keyVal k ∧ kl = keyLit k := by
 have hu := Try.underlying32
 have hu5 := Try.underlying5
 unfold keyOf at h
 rw [hu] at h
 dsimp only at h
 rw [keyTyped] at h
 split at h
 · rename_i hf
   have hf' : Value.formed Try.prog 32 v = true := by simpa using hf
   generalize Try.prog.types.size = d at h
   cases v with
   | agg cs =>
    simp only [Value.formed, hu, keyCells] at hf'
    obtain ⟨x, y, z, rfl⟩ : ∃ x y z, cs = #[x, y, z] := by
     obtain ⟨l⟩ := cs
     match l, hf' with
     | [x, y, z], _ => exact ⟨x, y, z, rfl⟩
     | [], hf' => simp at hf'
     | [_], hf' => simp at hf'
     | [_, _], hf' => simp at hf'
     | _ :: _ :: _ :: _ :: _, hf' => simp at hf'
    simp only [Program.keyLits, hu] at h
    simp [keyCells, byteCells, Value.cells, Option.bind_eq_some_iff] at h
    obtain ⟨la, hx, _, ⟨lb, hy, _, ⟨lc, hz, rfl⟩, rfl⟩, rfl⟩ := h
    obtain ⟨a, rfl, wa, rfl⟩ := ft_lit_inv d x la hx
    obtain ⟨b, rfl, wb, rfl⟩ := ft_lit_inv d y lb hy
    obtain ⟨c, rfl, wc, rfl⟩ := ft_lit_inv d z lc hz
    exact ⟨(a, b, c), ⟨bounds_u8 wa, bounds_u8 wb, bounds_u8 wc⟩, rfl, rfl⟩
   | _ => simp [Value.formed, hu] at hf'
 · cases h
abbrev ft_encK (k : K) : Value := .agg #[.int .u8 k.1, .int .u8 k.2.1, .int .u8 k.2.2]
def ft_CollK (D0 : DataW Fv) (left : Lit → Bool) (ss : List K) : Prop := ss.Nodup ∧ (∀ x ∈ ss, Kok x) ∧ ∀ x, Kok x → (x ∈ ss ↔ has D0 (keyLit x) = true ∧ left (keyLit x) = false)
def ft_AllK (D0 : DataW Fv) (ss : List K) : Prop := ss.Nodup ∧ (∀ x ∈ ss, Kok x) ∧ ∀ x, Kok x → (x ∈ ss ↔ has D0 (keyLit x) = true)
theorem ft_CollK.start (D0 : DataW Fv) : ft_CollK D0 (has D0) [] := ⟨List.nodup_nil, (fun x hx => by cases hx), fun x _ => by cases has D0 (keyLit x) <;> simp⟩
theorem ft_CollK.step {D0 : DataW Fv} {left : Lit → Bool} {ss : List K} (h : ft_CollK D0 left ss) {x : K} (hk : Kok x) {y : DataW Fv} (hlk : left (keyLit x) = true) (hat : ∀ zd, D0.atKey (keyLit x) zd = y) : ft_CollK D0 (fun z => left z && !z.sameKey (keyLit x)) (ss ++ [x]) := by
 have hhas : has D0 (keyLit x) = true := has_true_of_atKey hat
 have hnew : x ∉ ss := fun hx => by have := ((h.2.2 x hk).1 hx).2; rw [hlk] at this; cases this
 refine ⟨List.nodup_append.2 ⟨h.1, by simp, fun a ha b hb => by simp at hb; subst hb; exact fun e => hnew (e ▸ ha)⟩, fun y hy => ?_, fun y hy => ?_⟩
 · rcases List.mem_append.1 hy with hy | hy
   · exact h.2.1 y hy
   · rw [List.mem_singleton] at hy
     exact hy ▸ hk
 · show _ ↔ _ ∧ (left (keyLit y) && !(keyLit y).sameKey (keyLit x)) = false
   rw [keyLit_same hy hk]
   by_cases e : y = x
   · subst e; simp [hhas]
   · simp [h.2.2 y hy, e]
set_option maxRecDepth 100000 in
set_option maxHeartbeats 1000000 in
/-- The iterator over a map's keys, for every loop body that keeps its word. -/
theorem ft_keys1_in (n l Bm b nn : Nat) (hn : 1 ≤ n) (D0 : DataW Fv) (J Jx : List K → World → Prop)
 (hY : ∀ pre x W, J pre W → pre.length < Maps.size D0 → YieldAt Fence.wide (n - 1) Try.prog l #[ft_encK x] W fun e W' =>
  (e = .returned (.bool true) ∧ J (pre ++ [x]) W' ∧ KeepsWalks W W') ∨ (e = .returned (.bool false) ∧ Jx (pre ++ [x]) W'))
 (W : World) (hJ : AbidesFrom W.heap.size J) (hm : W.cell? ⟨Bm, 0, none⟩ = some (.map (some b))) (hown : W.ownsMap Try.prog 32 fldElem b nn D0) (h0 : J [] W) :
 CallsIn Fence.wide n Try.prog 79 #[.func (.yield l) #[] #[], .pointer (some ⟨Bm, 0, none⟩)] W fun e W' => (∃ v, e = .returned v) ∧
  ((∃ ss : List K, ft_AllK D0 ss ∧ J ss W') ∨ (∃ pre : List K, True ∧ Jx pre W')) := by
 refine callsIn_of_wp Try.func79 rfl trivial ?_ rfl
 simp only [Try.ntmps79, List.size_toArray, List.length_cons, List.length_nil, Nat.reduceAdd, Nat.reduceSub, Array.replicate_succ, Array.replicate_zero, List.push_toArray, List.append_toArray, List.nil_append, List.cons_append]
 gi_wp2_with (first
  | (gi_at_range; refine wpListIn_range_own _ rfl _ 83 rfl 32 42 keyLaw Try.underlying83 _ b nn _ rfl hown ?_; intro w0 hrg0 hg0 hs0)
  | gi_in)
 go_frame
 gi_loopw [3] (fun _ wr => ∃ (left : Lit → Bool) (cnt : Nat) (ss : List K), wr.ranges Try.prog 32 fldElem b W.heap.size nn D0 left cnt ∧ ss.length + cnt ≤ Maps.size D0 ∧ ft_CollK D0 left ss ∧ J ss wr)
  (fun _ wr => wr.rangeLeft b W.heap.size)
 case atStart =>
  exact ⟨_, _, [], hrg0, by simp, ft_CollK.start D0, hJ [] W w0 none h0 hg0 (fun r e => by cases e)⟩
 case round =>
  obtain ⟨left, cnt, ss, hrg, hcs, hC, hJs⟩ := hrel
  gi_wp2_with (first
   | (gi_at_next; refine wpListIn_next_ranges _ rfl _ rfl 32 keyLaw fldElem ft_encK id (fun key kl hk => by obtain ⟨x, _, hx, _⟩ := ft_key_inv hk; exact ⟨x, hx⟩) (fun v _ _ => ⟨v, rfl⟩) b W.heap.size nn _ _ _ rfl hrg ?_ ?_)
   | gi_in)
  · intro hc0 hl0
    gi_wp2
    go_end0
    exact ⟨⟨_, rfl⟩, .inl ⟨ss, ⟨hC.1, hC.2.1, fun x hx => by rw [hC.2.2 x hx, hl0]; simp⟩, hJs⟩⟩
  · intro xa xb xc c kl yd yp w2 cnt2 hkey hlk hv hat hrg2 hlt hg2 hs2 hen
    obtain ⟨x, hxx⟩ : ∃ x : K, x = (xa, xb, xc) := ⟨_, rfl⟩
    obtain rfl : xa = x.1 := by rw [hxx]
    obtain rfl : xb = x.2.1 := by rw [hxx]
    obtain rfl : xc = x.2.2 := by rw [hxx]
    clear hxx
    obtain ⟨x', hx', ex, rfl⟩ := ft_key_inv hkey
    obtain rfl : x = x' := keyVal_inj ex
    clear ex
    have hJ2 : J ss w2 := hJ ss wr w2 (some W.heap.size) hJs hg2 (fun r e => by cases e; exact ⟨Nat.le_refl _, hrg.iter_walk⟩)
    have hJ3 := hJ ss w2 (w2.alloc (.cells #[.int .u8 x.1, .int .u8 x.2.1, .int .u8 x.2.2] 32)) none hJ2 (World.grownBy_alloc _ _ none) (fun r e => by cases e)
    have hrg3 := hrg2.of_walks (KeepsWalks.alloc w2 (.cells #[.int .u8 x.1, .int .u8 x.2.1, .int .u8 x.2.2] 32))
    have hC2 := hC.step hx' hlk hat
    obtain ⟨fn, tmps, assign, body, hy, hR⟩ := hY ss x _ hJ3 (by omega)
    clear hs2
    dsimp only [ft_encK] at hen hy ⊢
    gi_wp2
    refine hR.mono ?_
    rintro e W3 (⟨rfl, hJ4, hk4⟩ | ⟨rfl, hJx4⟩)
    · gi_wp2
      have hrg4 := hrg3.of_walks hk4
      go_roundw
      case rel => exact ⟨_, cnt2, ss ++ [x], hrg4, by simp; omega, hC2, hJ4⟩
      case measure => rw [hrg4.left_eq, hrg.left_eq]; exact hlt
    · gi_wp2
      refine bodyPost_ret (results_none rfl _ _ _) rfl ?_
      exact ⟨⟨_, rfl⟩, .inr ⟨ss ++ [x], trivial, hJx4⟩⟩
theorem ft_ownsMap_below {P : Program} {k : TypeId} {R : Value → Option (DataW Fv × List MemPlace)} {w W : World} {b nn : Nat} {D : DataW Fv} (hown : w.ownsMap P k R b nn D) (hW : Below w.heap.size w W) : W.ownsMap P k R b nn D := by
 have hbl := hown.lt
 obtain ⟨es, clock, hb, Ft, hs, hD⟩ := hown
 exact ⟨es, clock, (hW.block b hbl).trans hb, Ft, hs, hD⟩
theorem ft_keys_stops (n Bm b nn : Nat) (hn : 1 ≤ n) (D0 : DataW Fv) (w : World) (hm : w.cell? ⟨Bm, 0, none⟩ = some (.map (some b))) (hown : w.ownsMap Try.prog 32 fldElem b nn D0) :
 SeqStopsK Fence.wide n Try.prog 79 #[.pointer (some ⟨Bm, 0, none⟩)] (fun x => #[ft_encK x]) KeepsWalks (ft_AllK D0) (fun _ => True) (Maps.size D0) w := fun l J Jx W hW hJ _ hY h0 =>
 ft_keys1_in n l Bm b nn hn D0 J Jx hY W hJ ((hW.cell (p := ⟨Bm, 0, none⟩) (World.block_lt_of_cell? _ _ hm)).trans hm) (ft_ownsMap_below hown hW) h0
set_option maxRecDepth 100000 in
set_option maxHeartbeats 1000000 in
theorem ft_keys_stops_nil (n Bm : Nat) (w : World) (hm : w.cell? ⟨Bm, 0, none⟩ = some (.map none)) :
 SeqStopsK Fence.wide n Try.prog 79 #[.pointer (some ⟨Bm, 0, none⟩)] (fun x => #[ft_encK x]) KeepsWalks (fun ss => ss = []) (fun _ => True) 0 w := fun l J Jx W hW hJ _ hY h0 => by
 have hm' := (hW.cell (p := ⟨Bm, 0, none⟩) (World.block_lt_of_cell? _ _ hm)).trans hm
 refine callsIn_of_wp Try.func79 rfl trivial ?_ rfl
 simp only [Try.ntmps79, List.size_toArray, List.length_cons, List.length_nil, Nat.reduceAdd, Nat.reduceSub, Array.replicate_succ, Array.replicate_zero, List.push_toArray, List.append_toArray, List.nil_append, List.cons_append]
 have hrg := run_range_nilMap (P := Try.prog) W 83 32 42 Try.underlying83
 have hnx : ∀ ty, (Instr.next (.pointer (some ⟨W.heap.size, 0, none⟩)) false ty).run Try.prog (W.alloc (.mapIter none 0 #[] 0)) = _ := fun ty => run_next_nilMap _ ty 0 0 #[]
 gi_wp2
 refine wpIn_loop_rounds 1 ?_
 rw [roundsIn_succ]
 gi_wp2
 go_end0
 exact ⟨⟨_, rfl⟩, .inl ⟨[], rfl, hJ [] W _ none h0 (World.grownBy_alloc W _ none) (fun r e => by cases e)⟩⟩
set_option maxHeartbeats 1000000 in
theorem ft_mkeys_any (mb : Option Nat) (w : World) :
 Calls Try.prog 70 #[.map mb] w fun e w' => e = .returned (.func (.func 79) #[] #[.pointer (some ⟨w.heap.size, 0, none⟩)]) ∧ w' = w.alloc (.cells #[.map mb] 83) := by
 go_enter Try.func70, Try.ntmps70
 go_wp2_with fail
 go_ret
 exact ⟨rfl, rfl⟩
theorem ft_key_news (W : World) (x : K) : ∀ j u, (kc x)[j]? = some u → (W.alloc (.cells #[.int .u8 x.1, .int .u8 x.2.1, .int .u8 x.2.2] 32)).cell? ((⟨W.heap.size, 0, none⟩ : Addr).add j) = some u := by
 intro j u hu
 rw [Go.WideShapes.add_plain, Nat.zero_add]
 exact block_cell (World.alloc_heap_new W _) (by simpa [kc] using hu)
set_option maxRecDepth 100000 in
set_option maxHeartbeats 2000000 in
/-- slices.AppendSeq(nil, seq): what the iterator gives, in a row of the call's own. -/
theorem ft_appendSeq_in (g : Nat) (lb : Array Value) (eg : ∀ args w, (callFunc g args).run Try.prog w = .ok (.enter g args) w) (S : List K → Prop) (N : Nat) (hN : N ≤ 100000) (w : World)
 (hseq : SeqStopsK Fence.wide 2 Try.prog g lb (fun x : K => #[ft_encK x]) KeepsWalks S (fun _ => True) N w) :
 CallsIn Fence.wide 3 Try.prog 83 #[.slice none 0 0, .func (.func g) #[] lb] w fun e w' => ∃ (v : Value) (ss : List K), e = .returned v ∧ S ss ∧ w'.ownsRow w.heap.size 32 3 v ss.length (kL ss) ∧ Below w.heap.size w w' := by
 obtain ⟨i0, hi, hz0, hz1, hz2⟩ := info_parts info_key
 refine callsIn_of_wp_marks Try.func83 rfl trivial ?_ rfl
 simp only [Try.ntmps83, List.size_toArray, List.length_cons, List.length_nil, Nat.reduceAdd, Nat.reduceSub, Array.replicate_succ, Array.replicate_zero, List.push_toArray, List.append_toArray, List.nil_append, List.cons_append]
 gi_wp2
 have bO := Boxed.new w 55 (.slice none 0 0)
 have hB0 : Below w.heap.size w (w.alloc (.cells #[.slice none 0 0] 55)) := (Below.refl _ w).alloc (Nat.le_refl _) _
 refine wpIn_rangeFunc_ownH rfl (by decide) (gf := g) (lb := lb) rfl trivial eg hseq walksK_t walksK_b hB0 (fun _ => rfl)
  (fun pre W => (∃ v, Boxed W w.heap.size 55 v ∧ W.ownsRow w.heap.size 32 3 v pre.length (kL pre) ∧ True) ∧ Below w.heap.size w W)
  (fun _ _ _ => False)
  (OwnFrom.and (Own.from (holdsRow_own w.heap.size w.heap.size 55 32 3 (fun pre => pre.length) (fun pre => kL pre) (fun _ _ => True)) _) (ownFrom_below (Nat.le_refl _) (by simp)))
  (fun _ _ _ _ _ hs _ _ => hs)
  ⟨⟨_, bO, World.ownsRow_nil _ _ _ _, trivial⟩, hB0⟩
  (fun x a' W => ∃ Bx, w.heap.size < Bx ∧ W.heap[Bx]? = some (.cells #[.int .u8 x.1, .int .u8 x.2.1, .int .u8 x.2.2] 32 (0, 0)) ∧ a' = { tmps := #[.slice none 0 0, .func (.func g) #[] lb, .pointer (some ⟨w.heap.size, 0, none⟩), undef, .slice none 0 0, .pointer (some ⟨Bx, 0, none⟩), .func (.func g) #[] lb, ft_encK x, undef, undef, undef, undef, undef], defers := [] })
  ?ownA ?assign ?body ?done ?stop
 case ownA =>
  rintro x a' s W W' row ⟨Bx, h1, h2, h3⟩ hg hrow
  refine ⟨Bx, h1, (hg.block Bx (block_lt h2) ?_).trans h2, h3⟩
  intro e
  obtain ⟨_, o, ho, hc⟩ := hrow Bx e.symm
  rw [h2] at ho
  cases ho
  cases hc
 case assign =>
  rintro l pre x W K' ⟨⟨v, bS1, hr1, _⟩, hB1⟩ hK
  gi_wp2
  exact hK _ _ ((KeepsOthers.alloc _ _).from _) (KeepsWalks.alloc _ _) ⟨⟨v, bS1.alloc _, hr1.alloc _, trivial⟩, hB1.alloc hB1.size _⟩ ⟨W.heap.size, bS1.lt, World.alloc_heap_new W _, rfl⟩
 case body =>
  rintro l pre x a' W hl ⟨r, hr⟩ ⟨⟨v, bS, hrow, _⟩, hB⟩ ⟨Bx, hBx, bX, rfl⟩ hlt
  have hc := bS.cell
  have x0 := block_cell (j := 0) bX rfl
  have x1 := block_cell (j := 1) bX rfl
  have x2 := block_cell (j := 2) bX rfl
  gi_wp2_with (gi_at_builtin; refine wpListIn_append_own _ rfl _ _ 55 rfl w.heap.size 32 i0 (.agg #[.int .u8 0, .int .u8 0, .int .u8 0]) 3 3 Try.underlying55 hi hz0 hz1 hz2 rfl (by decide) _ _ _ rfl (hrow.alloc _) ⟨W.heap.size, 0, none⟩ 1 1 (kc x) rfl rfl (ft_key_news W x) (kc_one x) (by unfold maxLen; omega) (by omega) (by have := hB.size; simp; omega) ?_; intro v' w1 hown' hgrow _; obtain ⟨g', cap', rfl⟩ := ownsRow_succ hown'; obtain ⟨hv1, hv2, hr2, hk2, hb2⟩ := bS.appended (by decide) hrow hB.size (Nat.le_refl _) hown' hgrow; have hc1 := hv1.cell; have hf1 := hv1.frozen)
  exact ⟨hk2.from _, ⟨hk2.size, fun k o hk ho => hk2.same k o hk (by cases o <;> first | rfl | cases ho)⟩, ⟨_, hv2, by rw [kL_append]; simpa [kL] using hr2, trivial⟩, hB.trans hb2⟩
 case done =>
  rintro D ys W hD hS ⟨⟨v, bS, hrow, _⟩, hB⟩ hK
  have hc := bS.cell
  gi_wp2
  refine ⟨by simp, .inl ⟨_, _, rfl, run_takeDeferred hK, ?_⟩⟩
  exact ⟨_, results_tmp rfl _ _ _, v, ys, rfl, hS, ownsRow_putObj hrow _ hK rfl, hB.trans (belowK_b (w := w) (Nat.le_refl _) W D _ _ (by simp at hD; omega) hK rfl rfl)⟩
 case stop =>
  rintro D c pre W _ _ h _
  exact h.elim
end
def ft_ListsN (W : World) (L : List K) (e : Ending) (w' : World) : Prop := ∃ p c, e = .returned (.slice p L.length c) ∧ KL w' p L.length c L ∧ Below W.heap.size W w' ∧ ∀ a, p = some a → W.heap.size ≤ a.block
theorem ft_collect_any (g : Nat) (lb : Array Value) (eg : ∀ args w, (callFunc g args).run Try.prog w = .ok (.enter g args) w) (S : List K → Prop) (N : Nat) (hN : N ≤ 100000) (W : World)
 (hseq : SeqStopsK Fence.wide 2 Try.prog g lb (fun x : K => #[ft_encK x]) KeepsWalks S (fun _ => True) N W) :
 Calls Try.prog 77 #[.func (.func g) #[] lb] W fun e w' => ∃ (v : Value) (ss : List K), e = .returned v ∧ S ss ∧ w'.ownsRow W.heap.size 32 3 v ss.length (kL ss) ∧ Below W.heap.size W w' := by
 have hc := callsIn_wide.1 (ft_appendSeq_in g lb eg S N hN W hseq)
 clear hseq eg
 go_enter Try.func77, Try.ntmps77
 go_wp2_with fail
 refine hc.mono ?_
 rintro e w' ⟨v, ss, rfl, hS, hrow, hb⟩
 have H := Lib.hid (And.intro hS (And.intro hrow hb))
 clear hc hS hrow hb
 go_wp2_with fail
 go_ret
 exact ⟨v, ss, rfl, H.out.1, H.out.2.1, H.out.2.2⟩
set_option maxHeartbeats 1000000 in
theorem ft_sortedf_any (g : Nat) (lb : Array Value) (eg : ∀ args w, (callFunc g args).run Try.prog w = .ok (.enter g args) w) (S : List K → Prop) (N : Nat) (hN : N ≤ 100000) (L : List K) (hL : L.length ≤ 100000) (hS : ∀ ss, S ss → (∀ k ∈ ss, Kok k) ∧ sortL ss = L) (W : World)
 (hseq : SeqStopsK Fence.wide 2 Try.prog g lb (fun x : K => #[ft_encK x]) KeepsWalks S (fun _ => True) N W) :
 Calls Try.prog 69 #[.func (.func g) #[] lb, .func (.func 71) #[] #[]] W (ft_ListsN W L) := by
 have hc := ft_collect_any g lb eg S N hN W hseq
 have HS := Lib.hid hS
 clear hseq eg hS
 go_enter Try.func69, Try.ntmps69
 go_wp2_with fail
 refine hc.mono ?_
 rintro e w' ⟨v, ss, rfl, hs, hrow, hb⟩
 obtain ⟨hok, hset⟩ := HS.out ss hs
 have hl := sortL_len ss
 rw [hset] at hl
 have HB := Lib.hid hb
 have HSET := Lib.hid hset
 have HROW := Lib.hid hrow
 have HOK := Lib.hid hok
 clear hc hs hb hok hset
 rcases hrow.2 with ⟨rfl, h0⟩ | ⟨gg, cap, cur, rfl, hg, _⟩
 · have hnil : L = [] := List.eq_nil_of_length_eq_zero (by omega)
   have HNIL := Lib.hid hnil
   have hs := fun W => sort_none none 0 (.func (.func 71) #[] #[]) W
   clear hnil HSET HOK HROW hrow h0 hl
   go_wp2_with fail
   refine (hs _).mono ?_
   rintro e w2 ⟨rfl, rfl⟩
   go_wp2_with fail
   go_ret
   exact ⟨none, 0, by rw [HNIL.out]; rfl, by rw [HNIL.out]; exact KL.empty _, HB.out, (fun a ha => by cases ha)⟩
 · have hs := sort_some HROW.out (by omega) HOK.out
   rw [HSET.out] at hs
   have HGG := Lib.hid hg
   clear HSET HOK HROW hg hrow
   generalize ss.length = m at *
   have HLN := Lib.hid hl
   have HS1 := Lib.hid hs
   clear hl hs
   go_wp2_with fail
   refine HS1.out.mono ?_
   rintro e w2 ⟨rfl, hgr, hk⟩
   have HB2 := Lib.hid (HB.out.grown hgr HB.out.size (fun k hk => by cases hk; exact HGG.out))
   have HK := Lib.hid hk
   clear hgr hk HS1
   go_wp2_with fail
   go_ret
   exact ⟨_, _, by rw [HLN.out]; rfl, by rw [HLN.out]; exact HK.out, HB2.out, (fun a ha => by cases ha; exact HGG.out)⟩
theorem ftkeys_any (T : TypeId) (W : World) (B : Nat) (mb : Option Nat) (M : List FW) (h : FTab T W B mb M) (hn : M.length ≤ 1000) :
 Calls Try.prog 47 #[.pointer (some ⟨B, 0, none⟩)] W (ft_ListsN W (keysG M)) := by
 have c0 := block_cell (j := 0) h.1 rfl
 have hb1 : Below W.heap.size W (W.alloc (.cells #[.map mb] 83)) := (Below.refl _ _).alloc (Nat.le_refl _) _
 have hx : (W.alloc (.cells #[.map mb] 83)).cell? ⟨W.heap.size, 0, none⟩ = some (.map mb) := block_cell (j := 0) (alloc_block W _) rfl
 have eg : ∀ args w, (callFunc 79 args).run Try.prog w = .ok (.enter 79 args) w := enters_of Try.func79 (by kernel_rfl) rfl
 have hs : Calls Try.prog 69 #[.func (.func 79) #[] #[.pointer (some ⟨W.heap.size, 0, none⟩)], .func (.func 71) #[] #[]] (W.alloc (.cells #[.map mb] 83)) (ft_ListsN (W.alloc (.cells #[.map mb] 83)) (keysG M)) := by
  cases mb with
  | none =>
   refine ft_sortedf_any _ _ eg (fun ss => ss = []) 0 (by omega) (keysG M) (by rw [g_len_keys]; omega) ?_ _ (ft_keys_stops_nil 2 _ _ hx)
   rintro ss rfl
   rw [h.2.1 rfl]
   exact ⟨(fun k hk => by cases hk), by simp [sortL, keysG]⟩
  | some b =>
   obtain ⟨hne, D, hown, hT⟩ := h.2.2 b rfl
   refine ft_sortedf_any _ _ eg (ft_AllK D) (Maps.size D) (by rw [hT.size]; omega) (keysG M) (by rw [g_len_keys]; omega) ?_ _ (ft_keys_stops 2 _ b M.length (by decide) D _ hx (hown.alloc _))
   rintro ss ⟨h1, h2, h3⟩
   exact ⟨h2, hT.sorted h1 h2 h3⟩
 have HB := Lib.hid hb1
 clear h hb1 hx eg
 go_enter Try.func47, Try.ntmps47
 go_wp2_with fail
 refine (ft_mkeys_any _ _).mono ?_
 rintro e w' ⟨rfl, rfl⟩
 generalize W.alloc (.cells #[.map mb] 83) = W1 at *
 go_wp2_with fail
 refine hs.mono ?_
 rintro e w2 ⟨p, c, rfl, hk, hb, hp⟩
 have HK := Lib.hid hk
 have HP := Lib.hid (show ∀ a, p = some a → W.heap.size ≤ a.block from fun a ha => Nat.le_trans HB.out.size (hp a ha))
 have HB2 := Lib.hid (HB.out.trans (hb.mono HB.out.size))
 clear hs hk hb hp
 go_wp2_with fail
 go_ret
 exact ⟨p, c, rfl, HK.out, HB2.out, HP.out⟩
end Go.Proofs.Ytmdldbchdnkfcaa
