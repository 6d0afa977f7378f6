import Derived.Test.YtfdgnniicjdjdaaGreatDoorPr17
import Derived.Test.YtfdgnniicjdjdaaGreatDoorPr43
namespace Go.Proofs.YtfdgnniicjdjdaaGreatDoor
open Go.RowKit Go.ChangeShapes Go.WideShapes
set_option linter.unusedVariables false
set_option linter.unusedSimpArgs false
set_option maxRecDepth 10000
theorem wpList_store_ln {ops : Array Oper} {rest : List Oper} {a : Act} {w : World} {Q : Exit → Act → World → Prop} {dst : Option Tmp} {x y : Operand} {ty : TypeId} {pos : String} {after : Array Edge} {B : Nat} {x0 q : Int} (hB : w.heap[B]? = some (.cells #[.int .u8 0, .int .i64 0] 234 (0, 0)))
 (hx : a.eval x = .pointer (some ⟨B, 0, none⟩)) (hy : a.eval y = .agg #[.int .u8 x0, .int .i64 q])
 (h : wpList Tryz.prog ops Q rest (a.put dst undef) (w.setRow B #[.int .u8 x0, .int .i64 q])) : wpList Tryz.prog ops Q (Oper.mk dst (.store 234 x y) ty pos after none :: rest) a w :=
 wpList_store_row rfl 234 x y rfl B #[.int .u8 x0, .int .i64 q] hx hy 234 #[.int .u8 0, .int .i64 0] hB (by kernel_rfl) rfl (by simp [Value.oneCell']) h
theorem wpList_store_tk {ops : Array Oper} {rest : List Oper} {a : Act} {w : World} {Q : Exit → Act → World → Prop} {dst : Option Tmp} {x y : Operand} {ty : TypeId} {pos : String} {after : Array Edge} {B : Nat} {x0 x1 x2 q : Int} (hB : w.heap[B]? = some (.cells #[.int .u32 0, .int .u8 0, .int .u8 0, .int .i64 0] 204 (0, 0)))
 (hx : a.eval x = .pointer (some ⟨B, 0, none⟩)) (hy : a.eval y = .agg #[.int .u32 x0, .int .u8 x1, .int .u8 x2, .int .i64 q])
 (h : wpList Tryz.prog ops Q rest (a.put dst undef) (w.setRow B #[.int .u32 x0, .int .u8 x1, .int .u8 x2, .int .i64 q])) : wpList Tryz.prog ops Q (Oper.mk dst (.store 204 x y) ty pos after none :: rest) a w :=
 wpList_store_row rfl 204 x y rfl B #[.int .u32 x0, .int .u8 x1, .int .u8 x2, .int .i64 q] hx hy 204 #[.int .u32 0, .int .u8 0, .int .u8 0, .int .i64 0] hB (by kernel_rfl) rfl (by simp [Value.oneCell']) h
set_option maxHeartbeats 4000000 in
theorem zline {w : World} {N B X : Nat} {m : Int} {S : St} (h : Zr w N B X m S) : Calls Tryz.prog 167 #[.pointer (some ⟨X, 0, none⟩)] w fun e w' => e = .returned (.agg #[.int .u8 (((numR S 1).2 : Nat) : Int), .int .i64 (sgn (numR (numR S 1).1 8).2)]) ∧ Zr w' N B X m (lineR S).1 ∧ Chg (fun k => k = B ∨ k = X) w w' := by
 have hrec : (lineR S).1 = (numR (numR S 1).1 8).1 := rfl
 rw [hrec]
 obtain ⟨R0, hR0⟩ : ∃ R, numR S 1 = R := ⟨_, rfl⟩
 rw [hR0]
 obtain ⟨R1, hR1⟩ : ∃ R, numR R0.1 8 = R := ⟨_, rfl⟩
 rw [hR1]
 have HR0 := Lib.hid hR0
 have HR1 := Lib.hid hR1
 clear hrec hR0 hR1
 obtain ⟨w1, hw1, hy, hb⟩ : ∃ w1, w.alloc (.cells #[.int .u8 0, .int .i64 0] 234) = w1 ∧ w1.heap[w.heap.size]? = some (.cells #[.int .u8 0, .int .i64 0] 234 (0, 0)) ∧ Below w.heap.size w w1 := ⟨_, rfl, alloc_block w _, (Below.refl _ _).alloc (Nat.le_refl _) _⟩
 have hsz := h.size
 have hlow := h.low
 have HZ0 := Lib.hid (h.below hb)
 have HC0 : Hid (Chg (fun k => k = B ∨ k = X) w w1) := Lib.hid (low_below hb)
 have HY0 := Lib.hid hy
 have HW1 := Lib.hid hw1
 have hlt1 := block_lt hy
 clear hw1 hy hb h
 have x0 := HZ0.out.c0
 go_enter Tryz.func167, Tryz.ntmps167
 go_upto_region 1 with (fail)
 rw [HW1.out]
 have hn0 := z_num HZ0.out 1
 rw [HR0.out] at hn0
 have hf0 : R0.2 < 256 := by have := numR_fit HZ0.out.bytes (n := 1) (by omega) (by omega); rw [show (((1 : Nat) : Int)) = 1 from rfl, HR0.out] at this; exact this
 have hx0 : IntKind.u8.wrap ((R0.2 : Nat) : Int) = (R0.2 : Nat) := by simp [IntKind.wrap, IntKind.bits, IntKind.signed]; omega
 go_wp2_with fail
 refine hn0.mono ?_
 rintro e y0 ⟨rfl, hz, hc⟩
 have HZ1 := Lib.hid hz
 have HC1 := Lib.hid (low_trans HC0.out hc)
 have HY1 := Lib.hid ((hc.block w.heap.size (by have := HZ0.out.size; have := HC0.out.size; have := block_lt HY0.out; omega) (by omega)).trans HY0.out)
 clear hz hc hn0 x0
 have x0 := HZ1.out.c0
 have hn1 := z_int HZ1.out
 rw [HR1.out] at hn1
 go_wp2_with fail
 refine hn1.mono ?_
 rintro e y1 ⟨rfl, hz, hc⟩
 have HZ2 := Lib.hid hz
 have HC2 := Lib.hid (low_trans HC1.out hc)
 have HY2 := Lib.hid ((hc.block w.heap.size (by have := HZ1.out.size; have := HC1.out.size; have := block_lt HY1.out; omega) (by omega)).trans HY1.out)
 clear hz hc hn1 x0
 have x0 := HZ2.out.c0
 obtain ⟨C, hC⟩ : ∃ C : Array Value, #[.int .u8 ((R0.2 : Nat) : Int), .int .i64 (sgn R1.2)] = C := ⟨_, rfl⟩
 have hset : Chg (fun k => N ≤ k) y1 (y1.setRow w.heap.size C) := ⟨rfl, rfl, rfl, by simp [World.setRow], fun k _ hk => setRow_other _ _ _ _ (by omega)⟩
 have HZF := Lib.hid (HZ2.out.later hset)
 have HRF := Lib.hid (setRow_heap y1 w.heap.size _ C _ _ HY2.out)
 have HCF : Hid (Chg (fun k => k = B ∨ k = X) w (y1.setRow w.heap.size C)) := Lib.hid ⟨HC2.out.os, HC2.out.tape, HC2.out.output, Nat.le_trans HC2.out.size (by simp [World.setRow]), fun k hk hn => (setRow_other _ _ _ _ (by omega)).trans (HC2.out.block k hk hn)⟩
 have HFIN : Hid ((.returned (.agg C) : Ending) = .returned (.agg #[.int .u8 ((R0.2 : Nat) : Int), .int .i64 (sgn R1.2)])) := Lib.hid (by rw [hC])
 clear hset
 subst hC
 go_wp2_with ((with_reducible refine wpList_store_ln (B := w.heap.size) (x0 := ((R0.2 : Nat) : Int)) (q := sgn R1.2) HY2.out ?_ ?_ ?_); rfl; rfl)
 (try simp only [Exit.inBlock, Exit.then])
 refine bodyPost_ret (v := .agg #[.int .u8 ((R0.2 : Nat) : Int), .int .i64 (sgn R1.2)]) ?_ rfl ⟨rfl, HZF.out, HCF.out⟩
 exact results_cell_row rfl _ _ w.heap.size 234 _ (0, 0) _ rfl HRF.out Tryz.underlying234 rfl (by kernel_rfl)
set_option maxHeartbeats 4000000 in
theorem ztake {w : World} {N B X : Nat} {m : Int} {S : St} (h : Zr w N B X m S) : Calls Tryz.prog 169 #[.pointer (some ⟨X, 0, none⟩)] w fun e w' => e = .returned (.agg #[.int .u32 (((numR S 4).2 : Nat) : Int), .int .u8 (((numR (numR S 4).1 1).2 : Nat) : Int), .int .u8 (((numR (numR (numR S 4).1 1).1 1).2 : Nat) : Int), .int .i64 (sgn (numR (numR (numR (numR S 4).1 1).1 1).1 8).2)]) ∧ Zr w' N B X m (tkR S).1 ∧ Chg (fun k => k = B ∨ k = X) w w' := by
 have hrec : (tkR S).1 = (numR (numR (numR (numR S 4).1 1).1 1).1 8).1 := rfl
 rw [hrec]
 obtain ⟨R0, hR0⟩ : ∃ R, numR S 4 = R := ⟨_, rfl⟩
 rw [hR0]
 obtain ⟨R1, hR1⟩ : ∃ R, numR R0.1 1 = R := ⟨_, rfl⟩
 rw [hR1]
 obtain ⟨R2, hR2⟩ : ∃ R, numR R1.1 1 = R := ⟨_, rfl⟩
 rw [hR2]
 obtain ⟨R3, hR3⟩ : ∃ R, numR R2.1 8 = R := ⟨_, rfl⟩
 rw [hR3]
 have HR0 := Lib.hid hR0
 have HR1 := Lib.hid hR1
 have HR2 := Lib.hid hR2
 have HR3 := Lib.hid hR3
 clear hrec hR0 hR1 hR2 hR3
 obtain ⟨w1, hw1, hy, hb⟩ : ∃ w1, w.alloc (.cells #[.int .u32 0, .int .u8 0, .int .u8 0, .int .i64 0] 204) = w1 ∧ w1.heap[w.heap.size]? = some (.cells #[.int .u32 0, .int .u8 0, .int .u8 0, .int .i64 0] 204 (0, 0)) ∧ Below w.heap.size w w1 := ⟨_, rfl, alloc_block w _, (Below.refl _ _).alloc (Nat.le_refl _) _⟩
 have hsz := h.size
 have hlow := h.low
 have HZ0 := Lib.hid (h.below hb)
 have HC0 : Hid (Chg (fun k => k = B ∨ k = X) w w1) := Lib.hid (low_below hb)
 have HY0 := Lib.hid hy
 have HW1 := Lib.hid hw1
 have hlt1 := block_lt hy
 clear hw1 hy hb h
 have x0 := HZ0.out.c0
 go_enter Tryz.func169, Tryz.ntmps169
 go_upto_region 1 with (fail)
 rw [HW1.out]
 have hn0 := z_num HZ0.out 4
 rw [HR0.out] at hn0
 have hf0 : R0.2 < 4294967296 := by have := numR_fit HZ0.out.bytes (n := 4) (by omega) (by omega); rw [show (((4 : Nat) : Int)) = 4 from rfl, HR0.out] at this; exact this
 have hx0 : IntKind.u32.wrap ((R0.2 : Nat) : Int) = (R0.2 : Nat) := by simp [IntKind.wrap, IntKind.bits, IntKind.signed]; omega
 go_wp2_with fail
 refine hn0.mono ?_
 rintro e y0 ⟨rfl, hz, hc⟩
 have HZ1 := Lib.hid hz
 have HC1 := Lib.hid (low_trans HC0.out hc)
 have HY1 := Lib.hid ((hc.block w.heap.size (by have := HZ0.out.size; have := HC0.out.size; have := block_lt HY0.out; omega) (by omega)).trans HY0.out)
 clear hz hc hn0 x0
 have x0 := HZ1.out.c0
 have hn1 := z_num HZ1.out 1
 rw [HR1.out] at hn1
 have hf1 : R1.2 < 256 := by have := numR_fit HZ1.out.bytes (n := 1) (by omega) (by omega); rw [show (((1 : Nat) : Int)) = 1 from rfl, HR1.out] at this; exact this
 have hx1 : IntKind.u8.wrap ((R1.2 : Nat) : Int) = (R1.2 : Nat) := by simp [IntKind.wrap, IntKind.bits, IntKind.signed]; omega
 go_wp2_with fail
 refine hn1.mono ?_
 rintro e y1 ⟨rfl, hz, hc⟩
 have HZ2 := Lib.hid hz
 have HC2 := Lib.hid (low_trans HC1.out hc)
 have HY2 := Lib.hid ((hc.block w.heap.size (by have := HZ1.out.size; have := HC1.out.size; have := block_lt HY1.out; omega) (by omega)).trans HY1.out)
 clear hz hc hn1 x0
 have x0 := HZ2.out.c0
 have hn2 := z_num HZ2.out 1
 rw [HR2.out] at hn2
 have hf2 : R2.2 < 256 := by have := numR_fit HZ2.out.bytes (n := 1) (by omega) (by omega); rw [show (((1 : Nat) : Int)) = 1 from rfl, HR2.out] at this; exact this
 have hx2 : IntKind.u8.wrap ((R2.2 : Nat) : Int) = (R2.2 : Nat) := by simp [IntKind.wrap, IntKind.bits, IntKind.signed]; omega
 go_wp2_with fail
 refine hn2.mono ?_
 rintro e y2 ⟨rfl, hz, hc⟩
 have HZ3 := Lib.hid hz
 have HC3 := Lib.hid (low_trans HC2.out hc)
 have HY3 := Lib.hid ((hc.block w.heap.size (by have := HZ2.out.size; have := HC2.out.size; have := block_lt HY2.out; omega) (by omega)).trans HY2.out)
 clear hz hc hn2 x0
 have x0 := HZ3.out.c0
 have hn3 := z_int HZ3.out
 rw [HR3.out] at hn3
 go_wp2_with fail
 refine hn3.mono ?_
 rintro e y3 ⟨rfl, hz, hc⟩
 have HZ4 := Lib.hid hz
 have HC4 := Lib.hid (low_trans HC3.out hc)
 have HY4 := Lib.hid ((hc.block w.heap.size (by have := HZ3.out.size; have := HC3.out.size; have := block_lt HY3.out; omega) (by omega)).trans HY3.out)
 clear hz hc hn3 x0
 have x0 := HZ4.out.c0
 obtain ⟨C, hC⟩ : ∃ C : Array Value, #[.int .u32 ((R0.2 : Nat) : Int), .int .u8 ((R1.2 : Nat) : Int), .int .u8 ((R2.2 : Nat) : Int), .int .i64 (sgn R3.2)] = C := ⟨_, rfl⟩
 have hset : Chg (fun k => N ≤ k) y3 (y3.setRow w.heap.size C) := ⟨rfl, rfl, rfl, by simp [World.setRow], fun k _ hk => setRow_other _ _ _ _ (by omega)⟩
 have HZF := Lib.hid (HZ4.out.later hset)
 have HRF := Lib.hid (setRow_heap y3 w.heap.size _ C _ _ HY4.out)
 have HCF : Hid (Chg (fun k => k = B ∨ k = X) w (y3.setRow w.heap.size C)) := Lib.hid ⟨HC4.out.os, HC4.out.tape, HC4.out.output, Nat.le_trans HC4.out.size (by simp [World.setRow]), fun k hk hn => (setRow_other _ _ _ _ (by omega)).trans (HC4.out.block k hk hn)⟩
 have HFIN : Hid ((.returned (.agg C) : Ending) = .returned (.agg #[.int .u32 ((R0.2 : Nat) : Int), .int .u8 ((R1.2 : Nat) : Int), .int .u8 ((R2.2 : Nat) : Int), .int .i64 (sgn R3.2)])) := Lib.hid (by rw [hC])
 clear hset
 subst hC
 go_wp2_with ((with_reducible refine wpList_store_tk (B := w.heap.size) (x0 := ((R0.2 : Nat) : Int)) (x1 := ((R1.2 : Nat) : Int)) (x2 := ((R2.2 : Nat) : Int)) (q := sgn R3.2) HY4.out ?_ ?_ ?_); rfl; rfl)
 (try simp only [Exit.inBlock, Exit.then])
 refine bodyPost_ret (v := .agg #[.int .u32 ((R0.2 : Nat) : Int), .int .u8 ((R1.2 : Nat) : Int), .int .u8 ((R2.2 : Nat) : Int), .int .i64 (sgn R3.2)]) ?_ rfl ⟨rfl, HZF.out, HCF.out⟩
 exact results_cell_row rfl _ _ w.heap.size 204 _ (0, 0) _ rfl HRF.out Tryz.underlying204 rfl (by kernel_rfl)
theorem own_low {w w' : World} {N B X base : Nat} {T : TypeId} {k : Nat} {v : Value} {n : Nat} {xs : List Value} (h : w.ownsRow base T k v n xs) (hb : N ≤ base) (hl : B < N ∧ X < N) (hc : Chg (fun k => k = B ∨ k = X) w w') : w'.ownsRow base T k v n xs := by
 refine ⟨h.1, ?_⟩
 rcases h.2 with hn | ⟨g, cap, cur, rfl, h1, h2, h3⟩
 · exact .inl hn
 · exact .inr ⟨g, cap, cur, rfl, h1, (hc.block g (block_lt h2) (by omega)).trans h2, h3⟩
theorem tk_news (w : World) (x : Tk) : ∀ ad, (some (⟨w.heap.size, 0, none⟩ : Addr)) = some ad → ∀ j u, (flatG tkc [x])[j]? = some u → (w.alloc (.cells #[.int .u32 x.1, .int .u8 x.2.1, .int .u8 x.2.2.1, .int .i64 x.2.2.2] 204)).cell? (ad.add j) = some u := by
 intro ad he j u hu
 cases he
 rw [Go.WideShapes.add_plain, Nat.zero_add]
 refine block_cell (alloc_block w _) ?_
 rw [flatG_one] at hu
 simpa [tkc] using hu
set_option maxHeartbeats 8000000 in
theorem zlist_ln {w : World} {N B X : Nat} {m : Int} {S : St} (h : Zr w N B X m S) (most : Nat) (hmost : most ≤ 100) : Calls Tryz.prog 166 #[.pointer (some ⟨X, 0, none⟩), .int .i64 (most : Nat), .func (.func 167) #[.pointer (some ⟨X, 0, none⟩)] #[]] w fun e w' => ∃ p c, e = .returned (.slice p (listR lineR most S).1.2.length c) ∧ LL w' p (listR lineR most S).1.2.length c (listR lineR most S).1.2 ∧ (∀ a, p = some a → w.heap.size ≤ a.block) ∧ Zr w' N B X (if (listR lineR most S).2 = true then 8 else m) (listR lineR most S).1.1 ∧ Chg (fun k => k = B ∨ k = X) w w' := by
 have hn := z_num h 1
 have hlt := numR_fit h.bytes (n := 1) (by omega) (by omega)
 have hco : listR lineR most S = if most < (numR S 1).2 then (((numR S 1).1, []), true) else (manyR lineR (numR S 1).2 (numR S 1).1, false) := rfl
 rw [show (((1 : Nat) : Int)) = 1 from rfl] at hlt
 rw [hco]
 clear hco
 generalize numR S 1 = R at *
 obtain ⟨S1, n⟩ := R
 dsimp only at hn hlt ⊢
 have hwn : IntKind.i64.wrap ((n : Nat) : Int) = (n : Nat) := IntWalk.i64_in _ (by omega)
 have hwn2 : wrap64 ((n : Nat) : Int) = (n : Nat) := IntWalk.wrap64_in _ (by omega)
 have hNs := h.size
 have HLOW := Lib.hid h.low
 have x0 := h.c0
 clear h
 by_cases hmx : most < n
 case pos =>
  have d1 : decide ((most : Int) < n) = true := decide_eq_true (by omega)
  have d1n : decide (most < n) = true := decide_eq_true hmx
  rw [if_pos hmx]
  clear hmx
  go_enter Tryz.func166, Tryz.ntmps166
  go_wp2_with fail
  refine hn.mono ?_
  rintro e w1 ⟨rfl, hz, hc⟩
  have HZ := Lib.hid hz
  have HC := Lib.hid hc
  have HM := Lib.hid (hz.mark 8)
  have x1 := hz.c1
  have f1 := hz.free 1
  clear hn hz hc x0
  have x0 := HZ.out.c0
  go_wp2_with fail
  go_ret
  exact ⟨none, 0, rfl, SlG.empty _, (fun a ha => by cases ha), HM.out.1, low_trans HC.out HM.out.2⟩
 have d1 : decide ((most : Int) < n) = false := decide_eq_false (by omega)
 have d1n : decide (most < n) = false := decide_eq_false hmx
 rw [if_neg hmx]
 dsimp only
 rw [if_neg (show ¬ (false = true) by decide), manyR_len]
 have hn100 : n ≤ 100 := by omega
 clear hmx
 go_enter Tryz.func166, Tryz.ntmps166
 go_wp2_with fail
 refine hn.mono ?_
 rintro e w1 ⟨rfl, hz, hc⟩
 have HZ := Lib.hid hz
 have HC := Lib.hid hc
 clear hn hz hc x0
 go_wp2_with fail
 go_loopw [8, 22] (fun v i wr => ∃ j : Nat, j ≤ n ∧ i = .int .i64 j ∧ Hid (Zr wr N B X m (manyR lineR j S1).1) ∧ Hid (wr.ownsRow w.heap.size 234 2 v j (flatG lc (manyR lineR j S1).2)) ∧ Hid (Chg (fun k => k = B ∨ k = X) w wr)) (fun _ i _ => n - (Go.RowKit.intOf i).toNat)
 case atStart => exact ⟨0, Nat.zero_le _, rfl, HZ, Lib.hid (World.ownsRow_nil _ _ _ _), HC⟩
 case round =>
  obtain ⟨j, hj, rfl, HZj, HOj, HCj⟩ := hrel
  by_cases hltj : j < n
  case neg =>
   obtain rfl : n = j := by omega
   obtain ⟨pv, cv, hv, hs, hp⟩ := SlG.of_own (d := l0) lc_len (by decide) HOj.out
   subst hv
   have HS := Lib.hid hs
   have HP := Lib.hid hp
   clear hs hp
   go_wp2_with fail
   go_ret
   exact ⟨pv, cv, rfl, HS.out, HP.out, HZj.out, HCj.out⟩
  have hltj' : (j : Int) < n := by omega
  have hon := zline HZj.out
  have hstep : manyR lineR (j + 1) S1 = ((lineR (manyR lineR j S1).1).1, (manyR lineR j S1).2 ++ [(lineR (manyR lineR j S1).1).2]) := rfl
  have HST := Lib.hid hstep
  have hml := manyR_len (f := lineR) S1 j
  have HML := Lib.hid hml
  change Calls _ _ _ _ (fun e w' => e = .returned (.agg #[.int .u8 (lineR (manyR lineR j S1).1).2.1, .int .i64 (lineR (manyR lineR j S1).1).2.2]) ∧ Zr w' N B X m (lineR (manyR lineR j S1).1).1 ∧ Chg (fun k => k = B ∨ k = X) wr w') at hon
  clear hstep hml
  generalize lineR (manyR lineR j S1).1 = Q at *
  obtain ⟨S2, x⟩ := Q
  generalize manyR lineR j S1 = Mj at *
  obtain ⟨Sj, Lj⟩ := Mj
  dsimp only at hon HST HML HZj HOj
  obtain ⟨w2, hw2⟩ : ∃ x, x = wr := ⟨_, rfl⟩
  subst hw2
  go_wp2_with fail
  refine hon.mono ?_
  rintro e w3 ⟨rfl, hz3, hc3⟩
  have hO3 := own_low HOj.out hNs HLOW.out hc3
  have hba : Below w3.heap.size w3 (w3.alloc (.cells #[.int .u8 x.1, .int .i64 x.2] 234)) := (Below.refl _ _).alloc (Nat.le_refl _) _
  have HZ3 := Lib.hid (hz3.below hba)
  have HC3 := Lib.hid (low_trans HCj.out (low_trans hc3 (low_below hba)))
  have HO3 := Lib.hid (own_zero (hO3.alloc (.cells #[.int .u8 x.1, .int .i64 x.2] 234)))
  have HOB := Lib.hid hO3
  clear hon hz3 hc3 hba hO3
  go_wp2_with (at_builtin; refine wpList_append_vals (k := 2) (by decide) Tryz.underlying46 info_ln rfl (by omega) rfl _ _ rfl u8 j (flatG lc Lj) rfl HO3.out (some ⟨w3.heap.size, 0, none⟩) 1 1 (flatG lc [x]) rfl rfl (fun h => by cases h) (line_news w3 x) (flatG_all lc_one _) (by omega) ?_; intro p4 c4 w4 g1 g2 g3)
  have hbase : ∀ b, (Value.slice p4 (j + 1) c4).ownBlock = some b → w.heap.size ≤ b := fun b hb => by
   rcases g3 b hb with hk | hk
   · exact (HOB.out.lt b hk).1
   · have := HC3.out.size; omega
  rw [← flatG_append] at g1
  have HO4 := Lib.hid (own_since g1 hbase)
  have hc4 : Chg (fun k => N ≤ k) _ w4 := g2.mono fun b _ hb => by have := (HOB.out.lt b hb).1; omega
  have HZ4 := Lib.hid (HZ3.out.later hc4)
  have HC4 : Hid (Chg (fun k => k = B ∨ k = X) w w4) := Lib.hid ⟨g2.os.trans HC3.out.os, g2.tape.trans HC3.out.tape, g2.output.trans HC3.out.output, Nat.le_trans HC3.out.size g2.size, fun b hb hn => (g2.block b (Nat.lt_of_lt_of_le hb HC3.out.size) fun hk => by have := (HOB.out.lt b hk).1; omega).trans (HC3.out.block b hb hn)⟩
  clear g1 g2 g3 hbase hc4
  go_roundw
  case rel => exact ⟨j + 1, by omega, by go_num, Lib.hid (by rw [HST.out]; exact HZ4.out), Lib.hid (by rw [HST.out]; exact HO4.out), HC4⟩
  case measure => simp [Go.RowKit.intOf]; omega
set_option maxHeartbeats 8000000 in
theorem zlist_tk {w : World} {N B X : Nat} {m : Int} {S : St} (h : Zr w N B X m S) (most : Nat) (hmost : most ≤ 100) : Calls Tryz.prog 168 #[.pointer (some ⟨X, 0, none⟩), .int .i64 (most : Nat), .func (.func 169) #[.pointer (some ⟨X, 0, none⟩)] #[]] w fun e w' => ∃ p c, e = .returned (.slice p (listR tkR most S).1.2.length c) ∧ TKL w' p (listR tkR most S).1.2.length c (listR tkR most S).1.2 ∧ (∀ a, p = some a → w.heap.size ≤ a.block) ∧ Zr w' N B X (if (listR tkR most S).2 = true then 8 else m) (listR tkR most S).1.1 ∧ Chg (fun k => k = B ∨ k = X) w w' := by
 have hn := z_num h 1
 have hlt := numR_fit h.bytes (n := 1) (by omega) (by omega)
 have hco : listR tkR most S = if most < (numR S 1).2 then (((numR S 1).1, []), true) else (manyR tkR (numR S 1).2 (numR S 1).1, false) := rfl
 rw [show (((1 : Nat) : Int)) = 1 from rfl] at hlt
 rw [hco]
 clear hco
 generalize numR S 1 = R at *
 obtain ⟨S1, n⟩ := R
 dsimp only at hn hlt ⊢
 have hwn : IntKind.i64.wrap ((n : Nat) : Int) = (n : Nat) := IntWalk.i64_in _ (by omega)
 have hwn2 : wrap64 ((n : Nat) : Int) = (n : Nat) := IntWalk.wrap64_in _ (by omega)
 have hNs := h.size
 have HLOW := Lib.hid h.low
 have x0 := h.c0
 clear h
 by_cases hmx : most < n
 case pos =>
  have d1 : decide ((most : Int) < n) = true := decide_eq_true (by omega)
  have d1n : decide (most < n) = true := decide_eq_true hmx
  rw [if_pos hmx]
  clear hmx
  go_enter Tryz.func168, Tryz.ntmps168
  go_wp2_with fail
  refine hn.mono ?_
  rintro e w1 ⟨rfl, hz, hc⟩
  have HZ := Lib.hid hz
  have HC := Lib.hid hc
  have HM := Lib.hid (hz.mark 8)
  have x1 := hz.c1
  have f1 := hz.free 1
  clear hn hz hc x0
  have x0 := HZ.out.c0
  go_wp2_with fail
  go_ret
  exact ⟨none, 0, rfl, SlG.empty _, (fun a ha => by cases ha), HM.out.1, low_trans HC.out HM.out.2⟩
 have d1 : decide ((most : Int) < n) = false := decide_eq_false (by omega)
 have d1n : decide (most < n) = false := decide_eq_false hmx
 rw [if_neg hmx]
 dsimp only
 rw [if_neg (show ¬ (false = true) by decide), manyR_len]
 have hn100 : n ≤ 100 := by omega
 clear hmx
 go_enter Tryz.func168, Tryz.ntmps168
 go_wp2_with fail
 refine hn.mono ?_
 rintro e w1 ⟨rfl, hz, hc⟩
 have HZ := Lib.hid hz
 have HC := Lib.hid hc
 clear hn hz hc x0
 go_wp2_with fail
 go_loopw [8, 22] (fun v i wr => ∃ j : Nat, j ≤ n ∧ i = .int .i64 j ∧ Hid (Zr wr N B X m (manyR tkR j S1).1) ∧ Hid (wr.ownsRow w.heap.size 204 4 v j (flatG tkc (manyR tkR j S1).2)) ∧ Hid (Chg (fun k => k = B ∨ k = X) w wr)) (fun _ i _ => n - (Go.RowKit.intOf i).toNat)
 case atStart => exact ⟨0, Nat.zero_le _, rfl, HZ, Lib.hid (World.ownsRow_nil _ _ _ _), HC⟩
 case round =>
  obtain ⟨j, hj, rfl, HZj, HOj, HCj⟩ := hrel
  by_cases hltj : j < n
  case neg =>
   obtain rfl : n = j := by omega
   obtain ⟨pv, cv, hv, hs, hp⟩ := SlG.of_own (d := tk0) tkc_len (by decide) HOj.out
   subst hv
   have HS := Lib.hid hs
   have HP := Lib.hid hp
   clear hs hp
   go_wp2_with fail
   go_ret
   exact ⟨pv, cv, rfl, HS.out, HP.out, HZj.out, HCj.out⟩
  have hltj' : (j : Int) < n := by omega
  have hon := ztake HZj.out
  have hstep : manyR tkR (j + 1) S1 = ((tkR (manyR tkR j S1).1).1, (manyR tkR j S1).2 ++ [(tkR (manyR tkR j S1).1).2]) := rfl
  have HST := Lib.hid hstep
  have hml := manyR_len (f := tkR) S1 j
  have HML := Lib.hid hml
  change Calls _ _ _ _ (fun e w' => e = .returned (.agg #[.int .u32 (tkR (manyR tkR j S1).1).2.1, .int .u8 (tkR (manyR tkR j S1).1).2.2.1, .int .u8 (tkR (manyR tkR j S1).1).2.2.2.1, .int .i64 (tkR (manyR tkR j S1).1).2.2.2.2]) ∧ Zr w' N B X m (tkR (manyR tkR j S1).1).1 ∧ Chg (fun k => k = B ∨ k = X) wr w') at hon
  clear hstep hml
  generalize tkR (manyR tkR j S1).1 = Q at *
  obtain ⟨S2, x⟩ := Q
  generalize manyR tkR j S1 = Mj at *
  obtain ⟨Sj, Lj⟩ := Mj
  dsimp only at hon HST HML HZj HOj
  obtain ⟨w2, hw2⟩ : ∃ x, x = wr := ⟨_, rfl⟩
  subst hw2
  go_wp2_with fail
  refine hon.mono ?_
  rintro e w3 ⟨rfl, hz3, hc3⟩
  have hO3 := own_low HOj.out hNs HLOW.out hc3
  have hba : Below w3.heap.size w3 (w3.alloc (.cells #[.int .u32 x.1, .int .u8 x.2.1, .int .u8 x.2.2.1, .int .i64 x.2.2.2] 204)) := (Below.refl _ _).alloc (Nat.le_refl _) _
  have HZ3 := Lib.hid (hz3.below hba)
  have HC3 := Lib.hid (low_trans HCj.out (low_trans hc3 (low_below hba)))
  have HO3 := Lib.hid (own_zero (hO3.alloc (.cells #[.int .u32 x.1, .int .u8 x.2.1, .int .u8 x.2.2.1, .int .i64 x.2.2.2] 204)))
  have HOB := Lib.hid hO3
  clear hon hz3 hc3 hba hO3
  go_wp2_with (at_builtin; refine wpList_append_vals (k := 4) (by decide) Tryz.underlying47 info_tk rfl (by omega) rfl _ _ rfl u8 j (flatG tkc Lj) rfl HO3.out (some ⟨w3.heap.size, 0, none⟩) 1 1 (flatG tkc [x]) rfl rfl (fun h => by cases h) (tk_news w3 x) (flatG_all tkc_one _) (by omega) ?_; intro p4 c4 w4 g1 g2 g3)
  have hbase : ∀ b, (Value.slice p4 (j + 1) c4).ownBlock = some b → w.heap.size ≤ b := fun b hb => by
   rcases g3 b hb with hk | hk
   · exact (HOB.out.lt b hk).1
   · have := HC3.out.size; omega
  rw [← flatG_append] at g1
  have HO4 := Lib.hid (own_since g1 hbase)
  have hc4 : Chg (fun k => N ≤ k) _ w4 := g2.mono fun b _ hb => by have := (HOB.out.lt b hb).1; omega
  have HZ4 := Lib.hid (HZ3.out.later hc4)
  have HC4 : Hid (Chg (fun k => k = B ∨ k = X) w w4) := Lib.hid ⟨g2.os.trans HC3.out.os, g2.tape.trans HC3.out.tape, g2.output.trans HC3.out.output, Nat.le_trans HC3.out.size g2.size, fun b hb hn => (g2.block b (Nat.lt_of_lt_of_le hb HC3.out.size) fun hk => by have := (HOB.out.lt b hk).1; omega).trans (HC3.out.block b hb hn)⟩
  clear g1 g2 g3 hbase hc4
  go_roundw
  case rel => exact ⟨j + 1, by omega, by go_num, Lib.hid (by rw [HST.out]; exact HZ4.out), Lib.hid (by rw [HST.out]; exact HO4.out), HC4⟩
  case measure => simp [Go.RowKit.intOf]; omega
abbrev By (S : St) : Prop := ∀ y ∈ S.2, y < 256
theorem fit1 {S : St} (h : By S) : (numR S 1).2 < 256 := numR_fit h (n := 1) (by omega) (by omega)
theorem fit4 {S : St} (h : By S) : (numR S 4).2 < 4294967296 := numR_fit h (n := 4) (by omega) (by omega)
theorem fit8 {S : St} (h : By S) : (numR S 8).2 < 18446744073709551616 := numR_fit h (n := 8) (by omega) (by omega)
theorem lineR_by {S : St} (h : By S) : By (lineR S).1 := numR_bytes (numR_bytes h 1) 8
theorem tkR_by {S : St} (h : By S) : By (tkR S).1 := numR_bytes (numR_bytes (numR_bytes (numR_bytes h 4) 1) 1) 8
theorem lineR_ok {S : St} (h : By S) : Lnok (lineR S).2 := ⟨⟨by show (0 : Int) ≤ ((numR S 1).2 : Nat); omega, by have := fit1 h; show (((numR S 1).2 : Nat) : Int) ≤ 255; omega⟩, sgn_in (fit8 (numR_bytes h 1))⟩
theorem tkR_ok {S : St} (h : By S) : Tkok (tkR S).2 := by
 have h1 := fit4 h
 have h2 := fit1 (numR_bytes h 4)
 have h3 := fit1 (numR_bytes (numR_bytes h 4) 1)
 exact ⟨⟨by show (0 : Int) ≤ ((numR S 4).2 : Nat); omega, by show (((numR S 4).2 : Nat) : Int) ≤ 4294967295; omega⟩, ⟨by show (0 : Int) ≤ ((numR (numR S 4).1 1).2 : Nat); omega, by show (((numR (numR S 4).1 1).2 : Nat) : Int) ≤ 255; omega⟩, ⟨by show (0 : Int) ≤ ((numR (numR (numR S 4).1 1).1 1).2 : Nat); omega, by show (((numR (numR (numR S 4).1 1).1 1).2 : Nat) : Int) ≤ 255; omega⟩, sgn_in (fit8 (numR_bytes (numR_bytes (numR_bytes h 4) 1) 1))⟩
theorem manyR_by {α : Type} {f : St → St × α} (hf : ∀ S, By S → By (f S).1) {S : St} (h : By S) : ∀ n, By (manyR f n S).1
 | 0 => h
 | n + 1 => hf _ (manyR_by hf h n)
theorem manyR_all {α : Type} {f : St → St × α} {Q : α → Prop} (hf : ∀ S, By S → By (f S).1) (hq : ∀ S, By S → Q (f S).2) {S : St} (h : By S) : ∀ n, ∀ x ∈ (manyR f n S).2, Q x
 | 0, x, hx => by cases hx
 | n + 1, x, hx => by
  have hx : x ∈ (manyR f n S).2 ++ [(f (manyR f n S).1).2] := hx
  rcases List.mem_append.1 hx with hx | hx
  · exact manyR_all hf hq h n x hx
  · obtain rfl := List.mem_singleton.1 hx
    exact hq _ (manyR_by hf h n)
theorem listR_by {α : Type} {f : St → St × α} (hf : ∀ S, By S → By (f S).1) (most : Nat) {S : St} (h : By S) : By (listR f most S).1.1 := by
 unfold listR
 split
 · exact numR_bytes h 1
 · exact manyR_by hf (numR_bytes h 1) _
theorem listR_all {α : Type} {f : St → St × α} {Q : α → Prop} (hf : ∀ S, By S → By (f S).1) (hq : ∀ S, By S → Q (f S).2) (most : Nat) {S : St} (h : By S) : ∀ x ∈ (listR f most S).1.2, Q x := by
 unfold listR
 split
 · intro x hx; cases hx
 · exact manyR_all hf hq (numR_bytes h 1) _
theorem listR_most {α : Type} (f : St → St × α) (most : Nat) (S : St) : (listR f most S).1.2.length ≤ most := by
 unfold listR
 split
 · exact Nat.zero_le _
 · rename_i h
   dsimp only
   rw [manyR_len]
   omega
abbrev zc : Array Value := #[.int .u8 0, .int .u32 0, .int .u8 0, .slice none 0 0, .slice none 0 0, .slice none 0 0, .int .u8 0, .int .u8 0, .int .u8 0, .int .i64 0]
structure Dz (W w : World) (N B X Y R : Nat) (m : Int) (S : St) (C : Array Value) : Prop where
 z : Zr w N B X m S
 y : w.heap[Y]? = some (.cells C 49 (0, 0))
 r : w.heap[R]? = some (.cells zc 49 (0, 0))
 yn : N ≤ Y
 rn : R ≠ B ∧ R ≠ X ∧ R < N
 below : Below W.heap.size W w
 base : W.heap.size ≤ B ∧ W.heap.size ≤ X ∧ W.heap.size ≤ R
theorem Dz.low {W w w' : World} {N B X Y R : Nat} {m m' : Int} {S S' : St} {C : Array Value} (h : Dz W w N B X Y R m S C) (hz : Zr w' N B X m' S') (hc : Chg (fun k => k = B ∨ k = X) w w') : Dz W w' N B X Y R m' S' C := by
 have hl := h.z.low
 have hy := h.yn
 obtain ⟨h1, h2, h3⟩ := h.rn
 obtain ⟨b1, b2, b3⟩ := h.base
 exact ⟨hz, (hc.block Y (block_lt h.y) (by omega)).trans h.y, (hc.block R (block_lt h.r) (by omega)).trans h.r, hy, h.rn, Chg.below h.below h.below.size hc fun k hk => by rcases hk with rfl | rfl <;> assumption, h.base⟩
theorem Dz.put {W w : World} {N B X Y R : Nat} {m : Int} {S : St} {C : Array Value} (h : Dz W w N B X Y R m S C) (j : Nat) (v : Value) : Dz W (w.setCell ⟨Y, j, none⟩ v) N B X Y R m S (C.setIfInBounds j v) := by
 have hl := h.z.low
 have hy := h.yn
 have hs := h.z.size
 obtain ⟨h1, h2, h3⟩ := h.rn
 obtain ⟨b1, b2, b3⟩ := h.base
 have hc : Chg (fun k => k = Y) w (w.setCell ⟨Y, j, none⟩ v) := (Chg.refl _ _).setCell ⟨Y, j, none⟩ _ fun _ => rfl
 exact ⟨h.z.later (hc.mono fun k _ hk => by omega), block_put j v h.y, (hc.block R (block_lt h.r) (by omega)).trans h.r, hy, h.rn, Chg.below h.below h.below.size hc fun k hk => by omega, h.base⟩
theorem Dz.keep {W w w' : World} {N B X Y R : Nat} {m : Int} {S : St} {C : Array Value} (h : Dz W w N B X Y R m S C) (hb : Below w.heap.size w w') : Dz W w' N B X Y R m S C :=
 ⟨h.z.below hb, block_later h.y hb, block_later h.r hb, h.yn, h.rn, h.below.trans (hb.mono h.below.size), h.base⟩
theorem Dz.cy {W w : World} {N B X Y R : Nat} {m : Int} {S : St} {C : Array Value} (h : Dz W w N B X Y R m S C) {j : Nat} {v : Value} (hj : C[j]? = some v) : w.cell? ⟨Y, j, none⟩ = some v ∧ w.frozen? ⟨Y, j, none⟩ = false := ⟨block_cell h.y hj, block_free j h.y⟩
def Far (Y : Nat) (p : Option Addr) : Prop := ∀ a, p = some a → Y < a.block
theorem far_low {α : Type} {enc : α → List Value} {k : Nat} {d : α} {W w w' : World} {N B X Y R : Nat} {m : Int} {S : St} {C : Array Value} {p : Option Addr} {n c : Nat} {L : List α} (h : Dz W w N B X Y R m S C) (hf : Far Y p) (hl : SlG enc k d w p n c L) (hc : Chg (fun k => k = B ∨ k = X) w w') : SlG enc k d w' p n c L :=
 hl.turn hc.size fun _ a ha hlt => hc.block a.block hlt (by have := hf a ha; have := h.z.low; have := h.yn; omega)
theorem far_put {α : Type} {enc : α → List Value} {k : Nat} {d : α} {w : World} {Y : Nat} {p : Option Addr} {n c : Nat} {L : List α} (hf : Far Y p) (hl : SlG enc k d w p n c L) (j : Nat) (v : Value) : SlG enc k d (w.setCell ⟨Y, j, none⟩ v) p n c L :=
 hl.turn (by simp [World.setCell]) fun _ a ha _ => Below.heap_setCell _ _ _ _ (by have := hf a ha; show a.block ≠ Y; omega)
theorem or_errno (b : Nat) (x y : Int) (w : World) (h0 : w.cell? ⟨b, 0, none⟩ = some (.int .i64 x)) (h1 : w.cell? ⟨b, 1, none⟩ = some (.int .i64 y)) : Calls Tryz.prog 135 #[.slice (some ⟨b, 0, none⟩) 2 2] w fun e w' => e = .returned (.int .i64 (if x ≠ 0 then x else y)) ∧ Below w.heap.size w w' := by
 obtain ⟨r, hr⟩ : ∃ r, (if x ≠ 0 then x else y) = r := ⟨_, rfl⟩
 have HRR := Lib.hid hr
 rw [hr]
 clear hr
 have HV : Hid (∀ j : Nat, j < 2 → ∀ w', Below w.heap.size w w' → w'.cell? ⟨b, j, none⟩ = some (.int .i64 (if j = 0 then x else y))) := Lib.hid fun j hj w' hb => by
  rcases (by omega : j = 0 ∨ j = 1) with rfl | rfl
  · exact (hb.cell (p := ⟨b, 0, none⟩) (World.block_lt_of_cell? _ _ h0)).trans h0
  · exact (hb.cell (p := ⟨b, 1, none⟩) (World.block_lt_of_cell? _ _ h1)).trans h1
 clear h0 h1
 go_enter Tryz.func135, Tryz.ntmps135
 go_wp2_with fail
 go_loopw [8] (fun i wr => ∃ j : Nat, j ≤ 2 ∧ i = .int .i64 j ∧ Hid (Below w.heap.size w wr) ∧ Hid (∀ i, i < j → (if i = 0 then x else y) = 0)) (fun i _ => 2 - (Go.RowKit.intOf i).toNat)
 case atStart => exact ⟨0, Nat.zero_le _, rfl, Lib.hid (Below.refl _ _), Lib.hid fun i hi => by omega⟩
 case round =>
  obtain ⟨j, hj, rfl, HW, HE⟩ := hrel
  by_cases hlt : j < 2
  case neg =>
   obtain rfl : j = 2 := by omega
   have e0 := HE.out 0 (by omega)
   have e1 := HE.out 1 (by omega)
   rw [if_pos rfl] at e0
   rw [if_neg (by decide)] at e1
   have HR : Hid (r = 0) := Lib.hid (by rw [← HRR.out, e0, e1]; rfl)
   clear e0 e1
   go_wp2_with fail
   go_ret
   exact ⟨by rw [HR.out]; rfl, HW.out⟩
  have hlt' : (j : Int) < 2 := by omega
  have k0 := HV.out j hlt wr HW.out
  have HO : Hid ((if j = 0 then x else y) ≠ 0 → r = (if j = 0 then x else y)) := Lib.hid fun hne => by
   rw [← HRR.out]
   by_cases hj0 : j = 0
   · rw [if_pos hj0] at hne ⊢
     rw [if_pos hne]
   · have e0 := HE.out 0 (by omega)
     rw [if_pos rfl] at e0
     rw [if_neg hj0, if_neg (by simp [e0])]
  generalize hz : (if j = 0 then x else y) = z at *
  have HZ := Lib.hid hz
  clear hz
  by_cases h0 : z = 0
  · have d : (z != 0) = false := by simp [h0]
    have H0 := Lib.hid h0
    clear h0
    go_wp2_with fail
    go_roundw
    case rel =>
     refine ⟨j + 1, by omega, by go_num, HW, Lib.hid fun i hi => ?_⟩
     by_cases e : i = j
     · subst e; rw [HZ.out]; exact H0.out
     · exact HE.out i (by omega)
    case measure => simp [Go.RowKit.intOf]; omega
  · have d : (z != 0) = true := by simpa using h0
    have HR := Lib.hid (HO.out h0)
    go_wp2_with fail
    go_ret
    exact ⟨by rw [HR.out]; rfl, HW.out⟩
theorem good_small {s w : Int} {P : Pg} (h : goodP s w P = true) : P.lines.length ≤ 3 ∧ P.takes.length ≤ 12 ∧ P.owes.length ≤ 3 := by
 unfold goodP at h
 simp only [Bool.and_eq_true, decide_eq_true_eq] at h
 obtain ⟨⟨_, ha⟩, hq⟩ := h
 have hl : ∀ {s : Int} {L : List Ln}, linesB s L = true → L.length ≤ 3 := fun h => (lines_parts h).1
 have ht : ∀ {s w o : Int} {T : List Tk}, takesB s w o T = true → T.length ≤ 12 := fun h => ((takes_iff _ _ _ _).1 h).1
 unfold askP at ha
 unfold qofP at hq
 split at ha
 · rename_i h1
   simp only [Bool.and_eq_true] at ha
   exact ⟨hl ha.1.1.1.1.2, ht ha.1.1.1.2, hl ha.1.1.2⟩
 · rename_i n1
   rw [if_neg n1] at hq
   split at ha
   · rename_i h2
     rw [if_pos h2] at hq
     simp only [Bool.and_eq_true] at ha
     have := congrArg (fun P => P.lines.length) hq
     simp only [List.length_nil] at this
     exact ⟨by omega, ht ha.1.1.2, hl ha.1.2⟩
   · rename_i n2
     rw [if_neg n2] at hq
     split at ha
     · rename_i h3
       rw [if_pos h3] at hq
       simp only [Bool.and_eq_true] at ha
       have h1 := congrArg (fun P => P.lines.length) hq
       have h2 := congrArg (fun P => P.owes.length) hq
       simp only [List.length_nil] at h1 h2
       exact ⟨by omega, ht ha.1.2, by omega⟩
     · rename_i n3
       rw [if_neg n3] at hq
       split at ha
       · rename_i h5
         rw [if_pos h5] at hq
         simp only [Bool.and_eq_true] at ha
         have h1 := congrArg (fun P => P.lines.length) hq
         have h2 := congrArg (fun P => P.owes.length) hq
         simp only [List.length_nil] at h1 h2
         have h3 := ha.2
         refine ⟨by omega, ?_, by omega⟩
         by_cases hT : P.takes.length ≤ 12
         · exact hT
         · rw [fills_long hT] at h3
           cases h3
       · rename_i n5
         rw [if_neg n5] at hq
         have h1 := congrArg (fun P => P.lines.length) hq
         have h2 := congrArg (fun P => P.owes.length) hq
         have h3 := congrArg (fun P => P.takes.length) hq
         simp only [List.length_nil] at h1 h2 h3
         omega
def GivesY (W : World) (P : Pg) (e : Ending) (w' : World) : Prop := Below W.heap.size W w' ∧ if goodP 4 4 P = true then ∃ p c, e = .returned (.tuple #[.slice p (bytesP P).length c, .int .i64 0]) ∧ Sl w' p (bytesP P).length c (bytesP P) ∧ c ≤ maxLen ∧ ∀ a, p = some a → W.heap.size ≤ a.block else e = .returned (.tuple #[.slice none 0 0, .int .i64 1])
set_option maxHeartbeats 8000000 in
theorem encode_no (k od po : Int) (lp : Option Addr) (ln lcp : Nat) (tp : Option Addr) (tn tcp : Nat) (wp : Option Addr) (wn wcp : Nat) (sk fr to q : Int) (L : List Ln) (T : List Tk) (M : List Ln) (W : World) (hw : Words W) (hP : PgM W lp ln lcp L tp tn tcp T wp wn wcp M) (hok : Pgok ⟨k, od, po, L, T, M, sk, fr, to, q⟩) (h1 : ln ≤ 400 ∧ tn ≤ 400 ∧ wn ≤ 400) (hg : goodP 4 4 ⟨k, od, po, L, T, M, sk, fr, to, q⟩ = false) :
 Calls Tryz.prog 127 #[.agg #[.int .u8 k, .int .u32 od, .int .u8 po, .slice lp ln lcp, .slice tp tn tcp, .slice wp wn wcp, .int .u8 sk, .int .u8 fr, .int .u8 to, .int .i64 q]] W (GivesY W ⟨k, od, po, L, T, M, sk, fr, to, q⟩) := by
 obtain ⟨W1, hW1, hbx, hb1⟩ : ∃ W1, W.alloc (.cells #[.int .u8 k, .int .u32 od, .int .u8 po, .slice lp ln lcp, .slice tp tn tcp, .slice wp wn wcp, .int .u8 sk, .int .u8 fr, .int .u8 to, .int .i64 q] 49) = W1 ∧ W1.heap[W.heap.size]? = some (.cells #[.int .u8 k, .int .u32 od, .int .u8 po, .slice lp ln lcp, .slice tp tn tcp, .slice wp wn wcp, .int .u8 sk, .int .u8 fr, .int .u8 to, .int .i64 q] 49 (0, 0)) ∧ Below W.heap.size W W1 := ⟨_, rfl, alloc_block W _, (Below.refl _ _).alloc (Nat.le_refl _) _⟩
 have hgd := good_p 4 4 k od po lp ln lcp tp tn tcp wp wn wcp sk fr to q L T M W1 (hw.later hb1) (hP.later hb1) hok h1
 rw [hg] at hgd
 have HG := Lib.hid hg
 have HW1 := Lib.hid hW1
 have HB1 := Lib.hid hb1
 obtain ⟨a0, a1, a2, a3, a4, a5, a6, a7, a8, a9⟩ := prog_cells k od po lp ln lcp tp tn tcp wp wn wcp sk fr to q hbx
 clear hW1 hb1 hbx hP hok hg hw h1
 go_enter Tryz.func127, Tryz.ntmps127
 go_wp2_with fail
 rw [HW1.out]
 refine hgd.mono ?_
 rintro e w2 ⟨rfl, h2⟩
 have HB2 := Lib.hid h2
 clear hgd h2 a0 a1 a2 a3 a4 a5 a6 a7 a8 a9
 go_wp2_with fail
 go_ret2
 refine ⟨HB1.out.trans (HB2.out.mono HB1.out.size), ?_⟩
 rw [HG.out, if_neg (by decide)]
 rfl
set_option maxHeartbeats 16000000 in
theorem encode_yes (k od po : Int) (lp : Option Addr) (ln lcp : Nat) (tp : Option Addr) (tn tcp : Nat) (wp : Option Addr) (wn wcp : Nat) (sk fr to q : Int) (L : List Ln) (T : List Tk) (M : List Ln) (W : World) (hw : Words W) (hP : PgM W lp ln lcp L tp tn tcp T wp wn wcp M) (hok : Pgok ⟨k, od, po, L, T, M, sk, fr, to, q⟩) (h1 : ln ≤ 400 ∧ tn ≤ 400 ∧ wn ≤ 400) (hg : goodP 4 4 ⟨k, od, po, L, T, M, sk, fr, to, q⟩ = true) :
 Calls Tryz.prog 127 #[.agg #[.int .u8 k, .int .u32 od, .int .u8 po, .slice lp ln lcp, .slice tp tn tcp, .slice wp wn wcp, .int .u8 sk, .int .u8 fr, .int .u8 to, .int .i64 q]] W (GivesY W ⟨k, od, po, L, T, M, sk, fr, to, q⟩) := by
 obtain ⟨hs1, hs2, hs3⟩ := good_small hg
 dsimp only at hs1 hs2 hs3
 rw [hP.l.len] at hs1
 rw [hP.t.len] at hs2
 rw [hP.o.len] at hs3
 obtain ⟨nk, ek⟩ : ∃ nk : Nat, k = (nk : Int) := ⟨k.toNat, by have := hok.kind; dsimp only at this; omega⟩
 have bk : nk < 256 ^ 1 := by have := hok.kind; dsimp only at this; omega
 have ck : IntKind.u64.wrap k = nk := by rw [ek]; exact u64_small _ (by omega)
 obtain ⟨nod, eod⟩ : ∃ nod : Nat, od = (nod : Int) := ⟨od.toNat, by have := hok.order; dsimp only at this; omega⟩
 have bod : nod < 256 ^ 4 := by have := hok.order; dsimp only at this; omega
 have cod : IntKind.u64.wrap od = nod := by rw [eod]; exact u64_small _ (by omega)
 obtain ⟨npo, epo⟩ : ∃ npo : Nat, po = (npo : Int) := ⟨po.toNat, by have := hok.policy; dsimp only at this; omega⟩
 have bpo : npo < 256 ^ 1 := by have := hok.policy; dsimp only at this; omega
 have cpo : IntKind.u64.wrap po = npo := by rw [epo]; exact u64_small _ (by omega)
 obtain ⟨nsk, esk⟩ : ∃ nsk : Nat, sk = (nsk : Int) := ⟨sk.toNat, by have := hok.sku; dsimp only at this; omega⟩
 have bsk : nsk < 256 ^ 1 := by have := hok.sku; dsimp only at this; omega
 have csk : IntKind.u64.wrap sk = nsk := by rw [esk]; exact u64_small _ (by omega)
 obtain ⟨nfr, efr⟩ : ∃ nfr : Nat, fr = (nfr : Int) := ⟨fr.toNat, by have := hok.frm; dsimp only at this; omega⟩
 have bfr : nfr < 256 ^ 1 := by have := hok.frm; dsimp only at this; omega
 have cfr : IntKind.u64.wrap fr = nfr := by rw [efr]; exact u64_small _ (by omega)
 obtain ⟨nto, eto⟩ : ∃ nto : Nat, to = (nto : Int) := ⟨to.toNat, by have := hok.to; dsimp only at this; omega⟩
 have bto : nto < 256 ^ 1 := by have := hok.to; dsimp only at this; omega
 have cto : IntKind.u64.wrap to = nto := by rw [eto]; exact u64_small _ (by omega)
 have hq : In64 q := hok.qty
 have HQ := Lib.hid hq
 have HBY : Hid (bytesP ⟨k, od, po, L, T, M, sk, fr, to, q⟩ = le nk 1 ++ le nod 4 ++ le npo 1 ++ (le ln 1 ++ L.flatMap lnB) ++ (le tn 1 ++ T.flatMap tkBy) ++ (le wn 1 ++ M.flatMap lnB) ++ le nsk 1 ++ le nfr 1 ++ le nto 1 ++ le (u64 q) 8) := Lib.hid (by
  unfold bytesP lnsB tksB
  dsimp only
  rw [hP.l.len, hP.t.len, hP.o.len, ek, eod, epo, esk, efr, eto]
  rfl)
 have HBN : Hid ((bytesP ⟨k, od, po, L, T, M, sk, fr, to, q⟩).length ≤ 400) := Lib.hid (by
  unfold bytesP
  simp only [List.length_append, lnsB_len, tksB_len, le_len]
  rw [hP.l.len, hP.t.len, hP.o.len]
  omega)
 have HLL : Hid ((L.flatMap lnB).length = 9 * ln) := Lib.hid (by rw [lnf_len, hP.l.len])
 have HTT : Hid ((T.flatMap tkBy).length = 14 * tn) := Lib.hid (by rw [tkf_len, hP.t.len])
 have HMM : Hid ((M.flatMap lnB).length = 9 * wn) := Lib.hid (by rw [lnf_len, hP.o.len])
 obtain ⟨W1, hW1, hbx, hb1⟩ : ∃ W1, W.alloc (.cells #[.int .u8 k, .int .u32 od, .int .u8 po, .slice lp ln lcp, .slice tp tn tcp, .slice wp wn wcp, .int .u8 sk, .int .u8 fr, .int .u8 to, .int .i64 q] 49) = W1 ∧ W1.heap[W.heap.size]? = some (.cells #[.int .u8 k, .int .u32 od, .int .u8 po, .slice lp ln lcp, .slice tp tn tcp, .slice wp wn wcp, .int .u8 sk, .int .u8 fr, .int .u8 to, .int .i64 q] 49 (0, 0)) ∧ Below W.heap.size W W1 := ⟨_, rfl, alloc_block W _, (Below.refl _ _).alloc (Nat.le_refl _) _⟩
 have hgd := good_p 4 4 k od po lp ln lcp tp tn tcp wp wn wcp sk fr to q L T M W1 (hw.later hb1) (hP.later hb1) hok h1
 rw [hg] at hgd
 have HG := Lib.hid hg
 have HW1 := Lib.hid hW1
 have HB1 := Lib.hid hb1
 have HX1 := Lib.hid hbx
 have HP1 := Lib.hid (hP.later hb1)
 have HOK := Lib.hid hok
 obtain ⟨a0, a1, a2, a3, a4, a5, a6, a7, a8, a9⟩ := prog_cells k od po lp ln lcp tp tn tcp wp wn wcp sk fr to q hbx
 clear hW1 hb1 hbx hP hok hg hw h1 ek eod epo esk efr eto hq
 go_enter Tryz.func127, Tryz.ntmps127
 go_wp2_with fail
 rw [HW1.out]
 refine hgd.mono ?_
 rintro e W2 ⟨rfl, h2⟩
 have HB2 := Lib.hid h2
 clear hgd h2 a0 a1 a2 a3 a4 a5 a6 a7 a8 a9
 go_wp2_with fail
 refine (new_any 512 W2).mono ?_
 rintro e W3 ⟨rfl, rfl⟩
 -- the writer, and its box
 obtain ⟨B, hB⟩ : ∃ B, W2.heap.size = B := ⟨_, rfl⟩
 obtain ⟨W4, hW4, hs4, hbw, hb4⟩ : ∃ W4, (W2.alloc (.cells #[.int .i64 0, .int .i64 512, .slice none 0 0] 224)).alloc (wbox B) = W4 ∧ W4.heap.size = B + 2 ∧ W4.heap[B + 1]? = some (.cells #[.pointer (some ⟨B, 0, none⟩)] 231 (0, 0)) ∧ Below W2.heap.size W2 W4 := ⟨_, rfl, by simp [hB], by have := alloc_block (W2.alloc (.cells #[.int .i64 0, .int .i64 512, .slice none 0 0] 224)) (wbox B); rwa [World.size_alloc, hB] at this, ((Below.refl _ _).alloc (Nat.le_refl _) _).alloc (by simp) _⟩
 have hwr4 : Wr W4 B (.slice none 0 0) 512 (0, []) := by
  have h0 := new_wr W2 512
  rw [hB] at h0
  rw [← hW4]
  exact h0.chg (Chg.of_below (S := fun _ => False) ((Below.refl _ _).alloc (Nat.le_refl _) _)) (fun h => h) (fun _ _ h => h)
 have hWB : W.heap.size < B := by have := block_lt HX1.out; have := HB2.out.size; omega
 have hx4 := block_later HX1.out (HB2.out.trans (hb4.mono HB2.out.size))
 have HC : Hid (∀ w', Chg (fun k => k = B ∨ (Value.slice none 0 0).ownBlock = some k) W4 w' → (w'.heap[W.heap.size]? = some (.cells #[.int .u8 k, .int .u32 od, .int .u8 po, .slice lp ln lcp, .slice tp tn tcp, .slice wp wn wcp, .int .u8 sk, .int .u8 fr, .int .u8 to, .int .i64 q] 49 (0, 0)) ∧ w'.cell? ⟨B + 1, 0, none⟩ = some (.pointer (some ⟨B, 0, none⟩)))) := Lib.hid fun w' hc => ⟨(hc.block _ (block_lt hx4) (fun hk => by rcases hk with hk | hk; omega; cases hk)).trans hx4, block_cell ((hc.block _ (by omega) (fun hk => by rcases hk with hk | hk; omega; cases hk)).trans hbw) rfl⟩
 have HPM : Hid (∀ w', Chg (fun k => k = B ∨ (Value.slice none 0 0).ownBlock = some k) W4 w' → PgM w' lp ln lcp L tp tn tcp T wp wn wcp M) := Lib.hid fun w' hc => HP1.out.later (HB2.out.trans ((Chg.below (W := W2) (B := W2.heap.size) hb4 (by omega) hc (fun k hk => by rcases hk with hk | hk; omega; cases hk)).mono HB2.out.size))
 have HBE : Hid (∀ w', Chg (fun k => k = B ∨ (Value.slice none 0 0).ownBlock = some k) W4 w' → Below W.heap.size W w') := Lib.hid fun w' hc => HB1.out.trans ((HB2.out.trans ((Chg.below (W := W2) (B := W2.heap.size) hb4 (by omega) hc (fun k hk => by rcases hk with hk | hk; omega; cases hk)).mono HB2.out.size)).mono HB1.out.size)
 have HW4 := Lib.hid hW4
 have H0 := Lib.hid (Wrote.same hwr4)
 have HBB := Lib.hid hB
 clear hW4 hs4 hbw hb4 hwr4 hWB hx4
 rw [hB]
 clear hB
 go_upto_region 4 with (fail)
 rw [HW4.out]
 rw [HBB.out]
 obtain ⟨hpx, x0⟩ := HC.out _ H0.out.chg
 obtain ⟨a0, a1, a2, a3, a4, a5, a6, a7, a8, a9⟩ := prog_cells k od po lp ln lcp tp tn tcp wp wn wcp sk fr to q hpx
 clear hpx
 go_wp2_with fail
 obtain ⟨v0, h0, o0⟩ := H0.out.wr
 refine (num_w B v0 ([]) nk 1 W4 h0 (by omega) (by omega) bk (by first | omega | (simp only [List.length_append, List.length_nil, le_len, HLL.out, HTT.out, HMM.out]; omega))).mono ?_
 rintro e wk0 ⟨rfl, hw⟩
 have H1 := Lib.hid (H0.out.next o0 hw)
 clear hw h0 o0 x0 a0 a1 a2 a3 a4 a5 a6 a7 a8 a9
 obtain ⟨hpx, x0⟩ := HC.out _ H1.out.chg
 obtain ⟨a0, a1, a2, a3, a4, a5, a6, a7, a8, a9⟩ := prog_cells k od po lp ln lcp tp tn tcp wp wn wcp sk fr to q hpx
 clear hpx
 go_wp2_with fail
 obtain ⟨v1, h1, o1⟩ := H1.out.wr
 refine (num_w B v1 ([] ++ le nk 1) nod 4 wk0 h1 (by omega) (by omega) bod (by first | omega | (simp only [List.length_append, List.length_nil, le_len, HLL.out, HTT.out, HMM.out]; omega))).mono ?_
 rintro e wk1 ⟨rfl, hw⟩
 have H2 := Lib.hid (H1.out.next o1 hw)
 clear hw h1 o1 x0 a0 a1 a2 a3 a4 a5 a6 a7 a8 a9
 obtain ⟨hpx, x0⟩ := HC.out _ H2.out.chg
 obtain ⟨a0, a1, a2, a3, a4, a5, a6, a7, a8, a9⟩ := prog_cells k od po lp ln lcp tp tn tcp wp wn wcp sk fr to q hpx
 clear hpx
 go_wp2_with fail
 obtain ⟨v2, h2, o2⟩ := H2.out.wr
 refine (num_w B v2 ([] ++ le nk 1 ++ le nod 4) npo 1 wk1 h2 (by omega) (by omega) bpo (by first | omega | (simp only [List.length_append, List.length_nil, le_len, HLL.out, HTT.out, HMM.out]; omega))).mono ?_
 rintro e wk2 ⟨rfl, hw⟩
 have H3 := Lib.hid (H2.out.next o2 hw)
 clear hw h2 o2 x0 a0 a1 a2 a3 a4 a5 a6 a7 a8 a9
 obtain ⟨hpx, x0⟩ := HC.out _ H3.out.chg
 obtain ⟨a0, a1, a2, a3, a4, a5, a6, a7, a8, a9⟩ := prog_cells k od po lp ln lcp tp tn tcp wp wn wcp sk fr to q hpx
 clear hpx
 go_wp2_with fail
 obtain ⟨v3, h3, o3⟩ := H3.out.wr
 refine (wlist_ln B v3 ([] ++ le nk 1 ++ le nod 4 ++ le npo 1) lp ln lcp L wk2 h3 (fun w' hc => (HPM.out w' (H3.out.chg.trans hc fun k hk hb => by
  rcases hb with hb | hb
  · exact .inl hb
  · rcases o3 k hb with hb | hb
    · exact .inr hb
    · omega)).l) HOK.out.lines (by omega) (by first | omega | (simp only [List.length_append, List.length_nil, le_len, HLL.out, HTT.out, HMM.out]; omega))).mono ?_
 rintro e wk3 ⟨rfl, hw⟩
 have H4 := Lib.hid (H3.out.next o3 hw)
 clear hw h3 o3 x0 a0 a1 a2 a3 a4 a5 a6 a7 a8 a9
 obtain ⟨hpx, x0⟩ := HC.out _ H4.out.chg
 obtain ⟨a0, a1, a2, a3, a4, a5, a6, a7, a8, a9⟩ := prog_cells k od po lp ln lcp tp tn tcp wp wn wcp sk fr to q hpx
 clear hpx
 go_wp2_with fail
 obtain ⟨v4, h4, o4⟩ := H4.out.wr
 refine (wlist_tk B v4 ([] ++ le nk 1 ++ le nod 4 ++ le npo 1 ++ le ln 1 ++ L.flatMap lnB) tp tn tcp T wk3 h4 (fun w' hc => (HPM.out w' (H4.out.chg.trans hc fun k hk hb => by
  rcases hb with hb | hb
  · exact .inl hb
  · rcases o4 k hb with hb | hb
    · exact .inr hb
    · omega)).t) HOK.out.takes (by omega) (by first | omega | (simp only [List.length_append, List.length_nil, le_len, HLL.out, HTT.out, HMM.out]; omega))).mono ?_
 rintro e wk4 ⟨rfl, hw⟩
 have H5 := Lib.hid (H4.out.next o4 hw)
 clear hw h4 o4 x0 a0 a1 a2 a3 a4 a5 a6 a7 a8 a9
 obtain ⟨hpx, x0⟩ := HC.out _ H5.out.chg
 obtain ⟨a0, a1, a2, a3, a4, a5, a6, a7, a8, a9⟩ := prog_cells k od po lp ln lcp tp tn tcp wp wn wcp sk fr to q hpx
 clear hpx
 go_wp2_with fail
 obtain ⟨v5, h5, o5⟩ := H5.out.wr
 refine (wlist_ln B v5 ([] ++ le nk 1 ++ le nod 4 ++ le npo 1 ++ le ln 1 ++ L.flatMap lnB ++ le tn 1 ++ T.flatMap tkBy) wp wn wcp M wk4 h5 (fun w' hc => (HPM.out w' (H5.out.chg.trans hc fun k hk hb => by
  rcases hb with hb | hb
  · exact .inl hb
  · rcases o5 k hb with hb | hb
    · exact .inr hb
    · omega)).o) HOK.out.owes (by omega) (by first | omega | (simp only [List.length_append, List.length_nil, le_len, HLL.out, HTT.out, HMM.out]; omega))).mono ?_
 rintro e wk5 ⟨rfl, hw⟩
 have H6 := Lib.hid (H5.out.next o5 hw)
 clear hw h5 o5 x0 a0 a1 a2 a3 a4 a5 a6 a7 a8 a9
 obtain ⟨hpx, x0⟩ := HC.out _ H6.out.chg
 obtain ⟨a0, a1, a2, a3, a4, a5, a6, a7, a8, a9⟩ := prog_cells k od po lp ln lcp tp tn tcp wp wn wcp sk fr to q hpx
 clear hpx
 go_wp2_with fail
 obtain ⟨v6, h6, o6⟩ := H6.out.wr
 refine (num_w B v6 ([] ++ le nk 1 ++ le nod 4 ++ le npo 1 ++ le ln 1 ++ L.flatMap lnB ++ le tn 1 ++ T.flatMap tkBy ++ le wn 1 ++ M.flatMap lnB) nsk 1 wk5 h6 (by omega) (by omega) bsk (by first | omega | (simp only [List.length_append, List.length_nil, le_len, HLL.out, HTT.out, HMM.out]; omega))).mono ?_
 rintro e wk6 ⟨rfl, hw⟩
 have H7 := Lib.hid (H6.out.next o6 hw)
 clear hw h6 o6 x0 a0 a1 a2 a3 a4 a5 a6 a7 a8 a9
 obtain ⟨hpx, x0⟩ := HC.out _ H7.out.chg
 obtain ⟨a0, a1, a2, a3, a4, a5, a6, a7, a8, a9⟩ := prog_cells k od po lp ln lcp tp tn tcp wp wn wcp sk fr to q hpx
 clear hpx
 go_wp2_with fail
 obtain ⟨v7, h7, o7⟩ := H7.out.wr
 refine (num_w B v7 ([] ++ le nk 1 ++ le nod 4 ++ le npo 1 ++ le ln 1 ++ L.flatMap lnB ++ le tn 1 ++ T.flatMap tkBy ++ le wn 1 ++ M.flatMap lnB ++ le nsk 1) nfr 1 wk6 h7 (by omega) (by omega) bfr (by first | omega | (simp only [List.length_append, List.length_nil, le_len, HLL.out, HTT.out, HMM.out]; omega))).mono ?_
 rintro e wk7 ⟨rfl, hw⟩
 have H8 := Lib.hid (H7.out.next o7 hw)
 clear hw h7 o7 x0 a0 a1 a2 a3 a4 a5 a6 a7 a8 a9
 obtain ⟨hpx, x0⟩ := HC.out _ H8.out.chg
 obtain ⟨a0, a1, a2, a3, a4, a5, a6, a7, a8, a9⟩ := prog_cells k od po lp ln lcp tp tn tcp wp wn wcp sk fr to q hpx
 clear hpx
 go_wp2_with fail
 obtain ⟨v8, h8, o8⟩ := H8.out.wr
 refine (num_w B v8 ([] ++ le nk 1 ++ le nod 4 ++ le npo 1 ++ le ln 1 ++ L.flatMap lnB ++ le tn 1 ++ T.flatMap tkBy ++ le wn 1 ++ M.flatMap lnB ++ le nsk 1 ++ le nfr 1) nto 1 wk7 h8 (by omega) (by omega) bto (by first | omega | (simp only [List.length_append, List.length_nil, le_len, HLL.out, HTT.out, HMM.out]; omega))).mono ?_
 rintro e wk8 ⟨rfl, hw⟩
 have H9 := Lib.hid (H8.out.next o8 hw)
 clear hw h8 o8 x0 a0 a1 a2 a3 a4 a5 a6 a7 a8 a9
 obtain ⟨hpx, x0⟩ := HC.out _ H9.out.chg
 obtain ⟨a0, a1, a2, a3, a4, a5, a6, a7, a8, a9⟩ := prog_cells k od po lp ln lcp tp tn tcp wp wn wcp sk fr to q hpx
 clear hpx
 go_wp2_with fail
 obtain ⟨v9, h9, o9⟩ := H9.out.wr
 refine (int_w B v9 ([] ++ le nk 1 ++ le nod 4 ++ le npo 1 ++ le ln 1 ++ L.flatMap lnB ++ le tn 1 ++ T.flatMap tkBy ++ le wn 1 ++ M.flatMap lnB ++ le nsk 1 ++ le nfr 1 ++ le nto 1) q wk8 h9 HQ.out (by first | omega | (simp only [List.length_append, List.length_nil, le_len, HLL.out, HTT.out, HMM.out]; omega))).mono ?_
 rintro e wk9 ⟨rfl, hw⟩
 have H10 := Lib.hid (H9.out.next o9 hw)
 clear hw h9 o9 x0 a0 a1 a2 a3 a4 a5 a6 a7 a8 a9
 obtain ⟨hpx, x0⟩ := HC.out _ H10.out.chg
 obtain ⟨a0, a1, a2, a3, a4, a5, a6, a7, a8, a9⟩ := prog_cells k od po lp ln lcp tp tn tcp wp wn wcp sk fr to q hpx
 clear hpx
 go_wp2_with fail
 obtain ⟨v10, h10, o10⟩ := H10.out.wr
 have hby : ([] ++ le nk 1 ++ le nod 4 ++ le npo 1 ++ le ln 1 ++ L.flatMap lnB ++ le tn 1 ++ T.flatMap tkBy ++ le wn 1 ++ M.flatMap lnB ++ le nsk 1 ++ le nfr 1 ++ le nto 1 ++ le (u64 q) 8 : List Nat) = bytesP ⟨k, od, po, L, T, M, sk, fr, to, q⟩ := by
  rw [HBY.out]
  simp only [List.append_assoc, List.nil_append]
 rw [hby] at h10
 refine (done_any B v10 512 (0, bytesP ⟨k, od, po, L, T, M, sk, fr, to, q⟩) wk9 h10 (by have := HBN.out; dsimp only; omega)).mono ?_
 rintro e w11 ⟨hb11, hd⟩
 rw [if_pos rfl] at hd
 obtain ⟨vv, rfl, hrow, hown⟩ := hd
 obtain ⟨pp, cc, hv, hcm, hsl, hbk⟩ := hrow.sl
 subst hv
 have hbe := HBE.out _ H10.out.chg
 have HF : Hid (GivesY W ⟨k, od, po, L, T, M, sk, fr, to, q⟩ (.returned (.tuple #[.slice pp (bytesP ⟨k, od, po, L, T, M, sk, fr, to, q⟩).length cc, .int .i64 0])) w11) := Lib.hid ⟨hbe.trans (hb11.mono hbe.size), by
  rw [if_pos HG.out]
  exact ⟨pp, cc, rfl, hsl, hcm, fun a ha => Nat.le_trans hbe.size (hown _ (hbk a ha))⟩⟩
 clear hb11 hrow hown hcm hsl hbk h10 o10 x0 a0 a1 a2 a3 a4 a5 a6 a7 a8 a9 hby hbe
 generalize bytesP ⟨k, od, po, L, T, M, sk, fr, to, q⟩ = bb at *
 go_wp2_with fail
 go_ret2
 exact HF.out
theorem encode_p (k od po : Int) (lp : Option Addr) (ln lcp : Nat) (tp : Option Addr) (tn tcp : Nat) (wp : Option Addr) (wn wcp : Nat) (sk fr to q : Int) (L : List Ln) (T : List Tk) (M : List Ln) (W : World) (hw : Words W) (hP : PgM W lp ln lcp L tp tn tcp T wp wn wcp M) (hok : Pgok ⟨k, od, po, L, T, M, sk, fr, to, q⟩) (h1 : ln ≤ 400 ∧ tn ≤ 400 ∧ wn ≤ 400) :
 Calls Tryz.prog 127 #[.agg #[.int .u8 k, .int .u32 od, .int .u8 po, .slice lp ln lcp, .slice tp tn tcp, .slice wp wn wcp, .int .u8 sk, .int .u8 fr, .int .u8 to, .int .i64 q]] W (GivesY W ⟨k, od, po, L, T, M, sk, fr, to, q⟩) := by
 cases hg : goodP 4 4 ⟨k, od, po, L, T, M, sk, fr, to, q⟩ with
 | false => exact encode_no k od po lp ln lcp tp tn tcp wp wn wcp sk fr to q L T M W hw hP hok h1 hg
 | true => exact encode_yes k od po lp ln lcp tp tn tcp wp wn wcp sk fr to q L T M W hw hP hok h1 hg
end Go.Proofs.YtfdgnniicjdjdaaGreatDoor
namespace Go.Proofs.YtfdgnniicjdjdaaGreatDoor
open Go.RowKit
set_option linter.unusedVariables false
set_option maxRecDepth 10000
theorem numR_split {S : St} (hB : By S) {n : Nat} (h1 : 1 ≤ n) (h8 : n ≤ 8) (h : (numR S n).1.1 = 0) : S.1 = 0 ∧ S.2 = le (numR S n).2 n ++ (numR S n).1.2 := by
 obtain ⟨e, L⟩ := S
 by_cases h0 : e = 0
 · subst h0
   refine ⟨rfl, ?_⟩
   unfold numR takeR at *
   rw [if_pos ⟨by omega, by omega⟩, Int.toNat_natCast, if_pos rfl] at *
   dsimp only at *
   split at h
   · have h6 : (6 : Int) = 0 := h
     exact absurd h6 (by decide)
   · rename_i hl
     rw [if_neg hl]
     dsimp only
     have hl2 : (L.take n).length = n := by rw [List.length_take]; omega
     have h3 := le_un (L.take n) (fun y hy => hB y (List.mem_of_mem_take hy))
     rw [hl2] at h3
     rw [h3, List.take_append_drop]
 · rw [numR_bad (S := (e, L)) h0 ⟨by omega, by omega⟩] at h
   exact absurd h h0
theorem lineR_split {S : St} (hB : By S) (h : (lineR S).1.1 = 0) : S.1 = 0 ∧ S.2 = lnB (lineR S).2 ++ (lineR S).1.2 := by
 have h2 := numR_split (S := (numR S 1).1) (numR_bytes hB 1) (n := 8) (by omega) (by omega) h
 have h1 := numR_split hB (n := 1) (by omega) (by omega) h2.1
 refine ⟨h1.1, ?_⟩
 rw [h1.2]
 show le (numR S 1).2 1 ++ (numR S 1).1.2 = _
 rw [h2.2]
 unfold lineR lnB
 dsimp only
 rw [Int.toNat_natCast, u64_sgn (fit8 (numR_bytes hB 1)), List.append_assoc]
 rfl
theorem tkR_split {S : St} (hB : By S) (h : (tkR S).1.1 = 0) : S.1 = 0 ∧ S.2 = tkBy (tkR S).2 ++ (tkR S).1.2 := by
 have b1 := numR_bytes hB 4
 have b2 := numR_bytes b1 1
 have b3 := numR_bytes b2 1
 have h4 := numR_split b3 (n := 8) (by omega) (by omega) h
 have h3 := numR_split b2 (n := 1) (by omega) (by omega) h4.1
 have h2 := numR_split b1 (n := 1) (by omega) (by omega) h3.1
 have h1 := numR_split hB (n := 4) (by omega) (by omega) h2.1
 refine ⟨h1.1, ?_⟩
 rw [h1.2]
 show le (numR S 4).2 4 ++ (numR S 4).1.2 = _
 rw [h2.2]
 show le (numR S 4).2 4 ++ (le (numR (numR S 4).1 1).2 1 ++ (numR (numR S 4).1 1).1.2) = _
 rw [h3.2]
 show le (numR S 4).2 4 ++ (le (numR (numR S 4).1 1).2 1 ++ (le (numR (numR (numR S 4).1 1).1 1).2 1 ++ (numR (numR (numR S 4).1 1).1 1).1.2)) = _
 rw [h4.2]
 unfold tkR tkBy
 dsimp only
 rw [Int.toNat_natCast, Int.toNat_natCast, Int.toNat_natCast, u64_sgn (fit8 b3)]
 simp only [List.append_assoc]
 rfl
theorem many_split {α : Type} {f : St → St × α} {g : α → List Nat} (hb : ∀ S, By S → By (f S).1) (hf : ∀ S : St, By S → (f S).1.1 = 0 → S.1 = 0 ∧ S.2 = g (f S).2 ++ (f S).1.2) {S : St} (hB : By S) : ∀ n, (manyR f n S).1.1 = 0 → S.1 = 0 ∧ S.2 = (manyR f n S).2.flatMap g ++ (manyR f n S).1.2
 | 0, h => ⟨h, rfl⟩
 | n + 1, h => by
  have h : (f (manyR f n S).1).1.1 = 0 := h
  obtain ⟨h1, h2⟩ := hf _ (manyR_by hb hB n) h
  obtain ⟨h3, h4⟩ := many_split hb hf hB n h1
  refine ⟨h3, ?_⟩
  rw [h4, h2]
  show _ = ((manyR f n S).2 ++ [(f (manyR f n S).1).2]).flatMap g ++ (f (manyR f n S).1).1.2
  rw [List.flatMap_append, List.append_assoc]
  simp
theorem list_split {α : Type} {f : St → St × α} {g : α → List Nat} (hb : ∀ S, By S → By (f S).1) (hf : ∀ S : St, By S → (f S).1.1 = 0 → S.1 = 0 ∧ S.2 = g (f S).2 ++ (f S).1.2) (most : Nat) {S : St} (hB : By S) (hm : (listR f most S).2 = false) (h : (listR f most S).1.1.1 = 0) : S.1 = 0 ∧ S.2 = le (listR f most S).1.2.length 1 ++ (listR f most S).1.2.flatMap g ++ (listR f most S).1.1.2 := by
 unfold listR at *
 split at hm
 · cases hm
 · rename_i hl
   rw [if_neg hl] at h ⊢
   dsimp only at h ⊢
   obtain ⟨h1, h2⟩ := many_split hb hf (numR_bytes hB 1) _ h
   obtain ⟨h3, h4⟩ := numR_split hB (n := 1) (by omega) (by omega) h1
   refine ⟨h3, ?_⟩
   rw [h4]
   show le (numR S 1).2 1 ++ (numR S 1).1.2 = _
   rw [h2, manyR_len, List.append_assoc]
set_option maxHeartbeats 4000000 in
/-- What is decoded is encoded so. -/
theorem enc_dec {Bs : List Nat} (hB : ∀ y ∈ Bs, y < 256) (h : (decP Bs).1 = 0) : goodP 4 4 (decP Bs).2 = true ∧ bytesP (decP Bs).2 = Bs ∧ Pgok (decP Bs).2 := by
 unfold decP at h ⊢
 by_cases he : decE Bs ≠ 0
 · rw [if_pos he] at h
   exact absurd h he
 rw [if_neg he] at h ⊢
 cases hg : goodP 4 4 (decR Bs).pg with
 | false =>
  rw [hg, if_neg (by decide)] at h
  exact absurd h (by decide)
 | true =>
  rw [if_pos rfl]
  dsimp only
  refine ⟨hg, ?_⟩
  have he0 : decE Bs = 0 := by omega
  unfold decE at he0
  have hmany : (decR Bs).many = false := by
   cases hm : (decR Bs).many with
   | false => rfl
   | true => rw [hm, if_pos rfl] at he0; exact absurd he0 (by decide)
  rw [hmany, if_neg (by decide)] at he0
  have hst : (decR Bs).st.1 = 0 ∧ (decR Bs).st.2 = [] := by
   unfold endR at he0
   split at he0
   · exact absurd he0 (by decide)
   · rename_i hn
     refine ⟨he0, ?_⟩
     by_cases hl : 0 < (decR Bs).st.2.length
     · exact absurd ⟨he0, hl⟩ hn
     · exact List.eq_nil_of_length_eq_zero (by omega)
  clear he he0 hg h
  unfold decR at hmany hst ⊢
  dsimp only at hmany hst ⊢
  have c0 : By ((0, Bs) : St) := hB
  have c1 := numR_bytes c0 1
  have c2 := numR_bytes c1 4
  have c3 := numR_bytes c2 1
  have c4 := listR_by (f := lineR) (fun S h => lineR_by h) 3 c3
  have c5 := listR_by (f := tkR) (fun S h => tkR_by h) 12 c4
  have c6 := listR_by (f := lineR) (fun S h => lineR_by h) 3 c5
  have c7 := numR_bytes c6 1
  have c8 := numR_bytes c7 1
  have c9 := numR_bytes c8 1
  have o4 := listR_all (f := lineR) (Q := Lnok) (fun S h => lineR_by h) (fun S h => lineR_ok h) 3 c3
  have o5 := listR_all (f := tkR) (Q := Tkok) (fun S h => tkR_by h) (fun S h => tkR_ok h) 12 c4
  have o6 := listR_all (f := lineR) (Q := Lnok) (fun S h => lineR_by h) (fun S h => lineR_ok h) 3 c5
  have f1 := fit1 c0
  have f2 := fit4 c1
  have f3 := fit1 c2
  have f7 := fit1 c6
  have f8 := fit1 c7
  have f9 := fit1 c8
  have f10 := fit8 c9
  simp only [Bool.or_eq_false_iff] at hmany
  obtain ⟨⟨ml, mt⟩, mo⟩ := hmany
  have s10 := numR_split c9 (n := 8) (by omega) (by omega) hst.1
  have s9 := numR_split c8 (n := 1) (by omega) (by omega) s10.1
  have s8 := numR_split c7 (n := 1) (by omega) (by omega) s9.1
  have s7 := numR_split c6 (n := 1) (by omega) (by omega) s8.1
  have s6 := list_split (f := lineR) (fun S h => lineR_by h) (fun S h h0 => lineR_split h h0) 3 c5 mo s7.1
  have s5 := list_split (f := tkR) (fun S h => tkR_by h) (fun S h h0 => tkR_split h h0) 12 c4 mt s6.1
  have s4 := list_split (f := lineR) (fun S h => lineR_by h) (fun S h h0 => lineR_split h h0) 3 c3 ml s5.1
  have s3 := numR_split c2 (n := 1) (by omega) (by omega) s4.1
  have s2 := numR_split c1 (n := 4) (by omega) (by omega) s3.1
  have s1 := numR_split c0 (n := 1) (by omega) (by omega) s2.1
  have e1 := s1.2
  have e2 := s2.2
  have e3 := s3.2
  have e4 := s4.2
  have e5 := s5.2
  have e6 := s6.2
  have e7 := s7.2
  have e8 := s8.2
  have e9 := s9.2
  have e10 := s10.2
  rw [show (((8 : Nat) : Int)) = 8 from rfl, hst.2, List.append_nil] at e10
  simp only [show (((1 : Nat) : Int)) = 1 from rfl, show (((4 : Nat) : Int)) = 4 from rfl] at e1 e2 e3 e7 e8 e9
  refine ⟨?_, ⟨⟨?_, ?_⟩, ⟨?_, ?_⟩, ⟨?_, ?_⟩, o4, o5, o6, ⟨?_, ?_⟩, ⟨?_, ?_⟩, ⟨?_, ?_⟩, sgn_in f10⟩⟩
  · unfold bytesP lnsB tksB
    dsimp only
    rw [u64_sgn f10]
    simp only [Int.toNat_natCast]
    conv => rhs; rw [e1, e2, e3, e4, e5, e6, e7, e8, e9, e10]
    simp only [List.append_assoc]
  all_goals (dsimp only; omega)
end Go.Proofs.YtfdgnniicjdjdaaGreatDoor
