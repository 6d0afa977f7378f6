/- The chapter's example; few things. -/
import Derived.Test.YtdcanppiiikjgaaDoorPgEncode
namespace Go.Proofs.YtdcanppiiikjgaaDoor
open Go.RowKit Go.ChangeShapes Go.WideShapes
set_option linter.unusedVariables false
set_option linter.unusedSimpArgs false
set_option maxRecDepth 10000

theorem take_lit (w : World) (x : Tk) : TKL (w.alloc (.cells #[.int .u32 x.1, .int .u8 x.2.1, .int .u8 x.2.2.1, .int .i64 x.2.2.2] 85)) (some ⟨w.heap.size, 0, none⟩) 1 1 [x] := by
  have hr := alloc_block w (.cells #[.int .u32 x.1, .int .u8 x.2.1, .int .u8 x.2.2.1, .int .i64 x.2.2.2] 85)
  refine ⟨rfl, Nat.le_refl _, by unfold maxLen; omega, (fun h => by cases h), fun _ => ⟨_, 0, rfl, block_lt hr, fun j hj i v hv => ?_⟩⟩
  refine block_cell hr ?_
  have hi : i < 4 := (List.getElem?_eq_some_iff.1 hv).1
  obtain rfl : j = 0 := by omega
  rcases (by omega : i = 0 ∨ i = 1 ∨ i = 2 ∨ i = 3) with rfl | rfl | rfl | rfl <;> exact hv
/-- The example, as plain data. -/
def exP : Pg := ⟨1, 7, 0, [(0, 5)], [(7, 0, 1, 3)], [(0, 2)], 0, 0, 0, 0⟩
theorem ex_good : goodP 4 4 exP = true := by decide +kernel
theorem ex_steps : stepsP exP = [(1, 1, [(0, 3)]), (7, 0, [(0, 2)])] := by decide +kernel
theorem ex_bytes : (bytesP exP).length = 52 := by decide +kernel
theorem ex_ok : Pgok exP := ⟨by decide, by decide, by decide, fun x hx => by obtain rfl := List.mem_singleton.1 hx; exact ⟨⟨by decide, by decide⟩, by decide, by decide⟩, fun x hx => by obtain rfl := List.mem_singleton.1 hx; exact ⟨⟨by decide, by decide⟩, ⟨by decide, by decide⟩, ⟨by decide, by decide⟩, by decide, by decide⟩, fun x hx => by obtain rfl := List.mem_singleton.1 hx; exact ⟨⟨by decide, by decide⟩, by decide, by decide⟩, by decide, by decide, by decide, ⟨by decide, by decide⟩⟩
theorem wpList_store_pgx {ops : Array Oper} {rest : List Oper} {a : Act} {w : World} {Q : Exit → Act → World → Prop} {dst : Option Tmp} {x y : Operand} {ty : TypeId} {pos : String} {after : Array Edge} {B : Nat} {l1 l2 l3 : Addr} (hB : w.heap[B]? = some (.cells #[.int .u8 0, .int .u32 0, .int .u8 0, .slice none 0 0, .slice none 0 0, .slice none 0 0, .int .u8 0, .int .u8 0, .int .u8 0, .int .i64 0] 28 (0, 0)))
    (hx : a.eval x = .pointer (some ⟨B, 0, none⟩)) (hy : a.eval y = .agg #[.int .u8 1, .int .u32 7, .int .u8 0, .slice (some l1) 1 1, .slice (some l2) 1 1, .slice (some l3) 1 1, .int .u8 0, .int .u8 0, .int .u8 0, .int .i64 0])
    (h : wpList Tryd.prog ops Q rest (a.put dst undef) (w.setRow B #[.int .u8 1, .int .u32 7, .int .u8 0, .slice (some l1) 1 1, .slice (some l2) 1 1, .slice (some l3) 1 1, .int .u8 0, .int .u8 0, .int .u8 0, .int .i64 0])) : wpList Tryd.prog ops Q (Oper.mk dst (.store 28 x y) ty pos after none :: rest) a w :=
  wpList_store_row rfl 28 x y rfl B #[.int .u8 1, .int .u32 7, .int .u8 0, .slice (some l1) 1 1, .slice (some l2) 1 1, .slice (some l3) 1 1, .int .u8 0, .int .u8 0, .int .u8 0, .int .i64 0] hx hy 28 #[.int .u8 0, .int .u32 0, .int .u8 0, .slice none 0 0, .slice none 0 0, .slice none 0 0, .int .u8 0, .int .u8 0, .int .u8 0, .int .i64 0] hB (by kernel_rfl) rfl (by simp [Value.oneCell']) h
def GivesX (W : World) (e : Ending) (w' : World) : Prop := ∃ l1 l2 l3, e = .returned (.agg #[.int .u8 1, .int .u32 7, .int .u8 0, .slice (some l1) 1 1, .slice (some l2) 1 1, .slice (some l3) 1 1, .int .u8 0, .int .u8 0, .int .u8 0, .int .i64 0]) ∧ PgM w' (some l1) 1 1 [(0, 5)] (some l2) 1 1 [(7, 0, 1, 3)] (some l3) 1 1 [(0, 2)] ∧ Below W.heap.size W w'
set_option maxHeartbeats 4000000 in
theorem example_any (W : World) : Calls Tryd.prog 42 #[] W (GivesX W) := by
  obtain ⟨W0, hW0, hs0, hx0, hb0⟩ : ∃ W0, W.alloc (.cells #[.int .u8 0, .int .u32 0, .int .u8 0, .slice none 0 0, .slice none 0 0, .slice none 0 0, .int .u8 0, .int .u8 0, .int .u8 0, .int .i64 0] 28) = W0 ∧ W0.heap.size = W.heap.size + 1 ∧ W0.heap[W.heap.size]? = some (.cells #[.int .u8 0, .int .u32 0, .int .u8 0, .slice none 0 0, .slice none 0 0, .slice none 0 0, .int .u8 0, .int .u8 0, .int .u8 0, .int .i64 0] 28 (0, 0)) ∧ Below W.heap.size W W0 := ⟨_, rfl, by simp, alloc_block W _, (Below.refl _ _).alloc (Nat.le_refl _) _⟩
  obtain ⟨W1, hW1, hs1, hl1, hb1⟩ : ∃ W1, W0.alloc (.cells #[.int .u8 0, .int .i64 5] 81) = W1 ∧ W1.heap.size = W0.heap.size + 1 ∧ LL W1 (some ⟨W0.heap.size, 0, none⟩) 1 1 [(0, 5)] ∧ Below W0.heap.size W0 W1 := ⟨_, rfl, by simp, line_lit W0 (0, 5), (Below.refl _ _).alloc (Nat.le_refl _) _⟩
  obtain ⟨W2, hW2, hs2, hl2, hb2⟩ : ∃ W2, W1.alloc (.cells #[.int .u32 7, .int .u8 0, .int .u8 1, .int .i64 3] 85) = W2 ∧ W2.heap.size = W1.heap.size + 1 ∧ TKL W2 (some ⟨W1.heap.size, 0, none⟩) 1 1 [(7, 0, 1, 3)] ∧ Below W1.heap.size W1 W2 := ⟨_, rfl, by simp, take_lit W1 (7, 0, 1, 3), (Below.refl _ _).alloc (Nat.le_refl _) _⟩
  obtain ⟨W3, hW3, hs3, hl3, hb3⟩ : ∃ W3, W2.alloc (.cells #[.int .u8 0, .int .i64 2] 81) = W3 ∧ W3.heap.size = W2.heap.size + 1 ∧ LL W3 (some ⟨W2.heap.size, 0, none⟩) 1 1 [(0, 2)] ∧ Below W2.heap.size W2 W3 := ⟨_, rfl, by simp, line_lit W2 (0, 2), (Below.refl _ _).alloc (Nat.le_refl _) _⟩
  have hb13 : Below W1.heap.size W1 W3 := hb2.trans (hb3.mono hb2.size)
  have hb03 : Below W0.heap.size W0 W3 := hb1.trans (hb13.mono hb1.size)
  have HX3 := Lib.hid (block_later hx0 hb03)
  have hbw : Below W.heap.size W W3 := hb0.trans (hb03.mono hb0.size)
  have hm1 := hl1.later hb13
  have hm2 := hl2.later hb3
  rw [hs1] at hm2 hs2
  rw [hs2] at hl3
  obtain ⟨C, hC⟩ : ∃ C : Array Value, #[.int .u8 1, .int .u32 7, .int .u8 0, .slice (some ⟨W0.heap.size, 0, none⟩) 1 1, .slice (some ⟨W0.heap.size + 1, 0, none⟩) 1 1, .slice (some ⟨W0.heap.size + 1 + 1, 0, none⟩) 1 1, .int .u8 0, .int .u8 0, .int .u8 0, .int .i64 0] = C := ⟨_, rfl⟩
  have hset : ∀ k, W.heap.size < k → (W3.setRow W.heap.size C).heap[k]? = W3.heap[k]? := fun k hk => setRow_other _ _ _ _ (by omega)
  have HM : Hid (PgM (W3.setRow W.heap.size C) (some ⟨W0.heap.size, 0, none⟩) 1 1 [(0, 5)] (some ⟨W0.heap.size + 1, 0, none⟩) 1 1 [(7, 0, 1, 3)] (some ⟨W0.heap.size + 1 + 1, 0, none⟩) 1 1 [(0, 2)]) := Lib.hid ⟨hm1.turn (by simp [World.setRow]) fun _ a ha _ => by cases ha; exact hset _ (by show W.heap.size < W0.heap.size; omega), hm2.turn (by simp [World.setRow]) fun _ a ha _ => by cases ha; exact hset _ (by show W.heap.size < W0.heap.size + 1; omega), hl3.turn (by simp [World.setRow]) fun _ a ha _ => by cases ha; exact hset _ (by show W.heap.size < W0.heap.size + 1 + 1; omega)⟩
  have HB := Lib.hid (below_setRow hbw (Nat.le_refl _) C)
  have HR := Lib.hid (setRow_heap W3 W.heap.size _ C _ _ HX3.out)
  have HW0 := Lib.hid hW0
  have HFIN : Hid (GivesX W (.returned (.agg C)) (W3.setRow W.heap.size C)) := Lib.hid ⟨⟨W0.heap.size, 0, none⟩, ⟨W0.heap.size + 1, 0, none⟩, ⟨W0.heap.size + 1 + 1, 0, none⟩, by rw [← hC], HM.out, HB.out⟩
  subst hC
  subst hW3
  subst hW2
  subst hW1
  clear hs1 hl1 hb1 hs2 hl2 hb2 hs3 hl3 hb3 hb13 hb03 hx0 hb0 hs0 hbw hm1 hm2 hset hW0
  go_enter Tryd.func42, Tryd.ntmps42
  go_upto_region 1 with (fail)
  rw [HW0.out]
  go_wp2_with ((with_reducible refine wpList_store_pgx (l1 := ⟨W0.heap.size, 0, none⟩) (l2 := ⟨W0.heap.size + 1, 0, none⟩) (l3 := ⟨W0.heap.size + 1 + 1, 0, none⟩) HX3.out ?_ ?_ ?_); rfl; rfl)
  (try simp only [Exit.inBlock, Exit.then])
  refine bodyPost_ret (v := .agg #[.int .u8 1, .int .u32 7, .int .u8 0, .slice (some ⟨W0.heap.size, 0, none⟩) 1 1, .slice (some ⟨W0.heap.size + 1, 0, none⟩) 1 1, .slice (some ⟨W0.heap.size + 1 + 1, 0, none⟩) 1 1, .int .u8 0, .int .u8 0, .int .u8 0, .int .i64 0]) ?_ rfl HFIN.out
  exact results_cell_row rfl _ _ W.heap.size 28 _ (0, 0) _ rfl HR.out Tryd.underlying28 rfl (by kernel_rfl)
theorem isfew_p (k od po : Int) (lp : Option Addr) (ln lcp : Nat) (tp : Option Addr) (tn tcp : Nat) (wp : Option Addr) (wn wcp : Nat) (sk fr to q : Int) (W : World) : Calls Tryd.prog 40 #[.agg #[.int .u8 k, .int .u32 od, .int .u8 po, .slice lp ln lcp, .slice tp tn tcp, .slice wp wn wcp, .int .u8 sk, .int .u8 fr, .int .u8 to, .int .i64 q]] W fun e w' => e = .returned (.bool (decide (ln ≤ 20 ∧ tn ≤ 30 ∧ wn ≤ 20))) ∧ Below W.heap.size W w' := by
  have HB : Hid (Below W.heap.size W (W.alloc (.cells #[.int .u8 k, .int .u32 od, .int .u8 po, .slice lp ln lcp, .slice tp tn tcp, .slice wp wn wcp, .int .u8 sk, .int .u8 fr, .int .u8 to, .int .i64 q] 28))) := Lib.hid ((Below.refl _ _).alloc (Nat.le_refl _) _)
  obtain ⟨r, hr⟩ : ∃ r, decide (ln ≤ 20 ∧ tn ≤ 30 ∧ wn ≤ 20) = r := ⟨_, rfl⟩
  have HR := Lib.hid hr
  rw [hr]
  clear hr
  by_cases h1 : ln ≤ 20
  case neg =>
    have d1 : decide ((ln : Int) ≤ 20) = false := decide_eq_false (by omega)
    obtain rfl : r = false := by rw [← HR.out]; exact decide_eq_false (by omega)
    go_enter Tryd.func40, Tryd.ntmps40
    go_wp2_with fail
    go_ret
    exact ⟨rfl, HB.out⟩
  have d1 : decide ((ln : Int) ≤ 20) = true := decide_eq_true (by omega)
  by_cases h2 : tn ≤ 30
  case neg =>
    have d2 : decide ((tn : Int) ≤ 30) = false := decide_eq_false (by omega)
    obtain rfl : r = false := by rw [← HR.out]; exact decide_eq_false (by omega)
    go_enter Tryd.func40, Tryd.ntmps40
    go_wp2_with fail
    go_ret
    exact ⟨rfl, HB.out⟩
  have d2 : decide ((tn : Int) ≤ 30) = true := decide_eq_true (by omega)
  by_cases h3 : wn ≤ 20
  case neg =>
    have d3 : decide ((wn : Int) ≤ 20) = false := decide_eq_false (by omega)
    obtain rfl : r = false := by rw [← HR.out]; exact decide_eq_false (by omega)
    go_enter Tryd.func40, Tryd.ntmps40
    go_wp2_with fail
    go_ret
    exact ⟨rfl, HB.out⟩
  have d3 : decide ((wn : Int) ≤ 20) = true := decide_eq_true (by omega)
  obtain rfl : r = true := by rw [← HR.out]; exact decide_eq_true (by omega)
  go_enter Tryd.func40, Tryd.ntmps40
  go_wp2_with fail
  go_ret
  exact ⟨rfl, HB.out⟩
/-- Few things: 1, else 0. -/
def fewI (ln tn wn : Nat) : Int := if ln ≤ 20 ∧ tn ≤ 30 ∧ wn ≤ 20 then 1 else 0
theorem few_p (k od po : Int) (lp : Option Addr) (ln lcp : Nat) (tp : Option Addr) (tn tcp : Nat) (wp : Option Addr) (wn wcp : Nat) (sk fr to q : Int) (W : World) : Calls Tryd.prog 16 #[.agg #[.int .u8 k, .int .u32 od, .int .u8 po, .slice lp ln lcp, .slice tp tn tcp, .slice wp wn wcp, .int .u8 sk, .int .u8 fr, .int .u8 to, .int .i64 q]] W fun e w' => e = .returned (.int .i64 (fewI ln tn wn)) ∧ Below W.heap.size W w' := by
  obtain ⟨W1, hW1, hb1⟩ : ∃ W1, W.alloc (.cells #[.int .u8 k, .int .u32 od, .int .u8 po, .slice lp ln lcp, .slice tp tn tcp, .slice wp wn wcp, .int .u8 sk, .int .u8 fr, .int .u8 to, .int .i64 q] 28) = W1 ∧ Below W.heap.size W W1 := ⟨_, rfl, (Below.refl _ _).alloc (Nat.le_refl _) _⟩
  have HI := Lib.hid (isfew_p k od po lp ln lcp tp tn tcp wp wn wcp sk fr to q W1)
  have HB1 := Lib.hid hb1
  have HW1 := Lib.hid hW1
  clear hW1 hb1
  by_cases h : ln ≤ 20 ∧ tn ≤ 30 ∧ wn ≤ 20
  · have hi := HI.out
    rw [decide_eq_true h] at hi
    have HF : Hid (fewI ln tn wn = 1) := Lib.hid (if_pos h)
    clear h
    go_enter Tryd.func16, Tryd.ntmps16
    go_wp2_with fail
    rw [HW1.out]
    refine hi.mono ?_
    rintro e w2 ⟨rfl, h2⟩
    have HB2 := Lib.hid (HB1.out.trans (h2.mono HB1.out.size))
    clear hi h2
    go_wp2_with fail
    go_ret
    exact ⟨by rw [HF.out]; rfl, HB2.out⟩
  · have hi := HI.out
    rw [decide_eq_false h] at hi
    have HF : Hid (fewI ln tn wn = 0) := Lib.hid (if_neg h)
    clear h
    go_enter Tryd.func16, Tryd.ntmps16
    go_wp2_with fail
    rw [HW1.out]
    refine hi.mono ?_
    rintro e w2 ⟨rfl, h2⟩
    have HB2 := Lib.hid (HB1.out.trans (h2.mono HB1.out.size))
    clear hi h2
    go_wp2_with fail
    go_ret
    exact ⟨by rw [HF.out]; rfl, HB2.out⟩
set_option maxHeartbeats 4000000 in
theorem prog_works (W : World) (hw : Words W) : Calls Tryd.prog 17 #[] W fun e w' => e = .returned (.bool true) ∧ Below W.heap.size W w' := by
  have HW := Lib.hid hw
  clear hw
  go_enter Tryd.func17, Tryd.ntmps17
  go_wp2_with fail
  refine (example_any W).mono ?_
  rintro e w1 ⟨l1, l2, l3, rfl, hp, hb⟩
  have HB1 := Lib.hid hb
  have HS := Lib.hid (steps_p 1 7 0 (some l1) 1 1 (some l2) 1 1 (some l3) 1 1 0 0 0 0 [(0, 5)] [(7, 0, 1, 3)] [(0, 2)] w1 (HW.out.later hb) hp ex_ok ⟨by omega, by omega, by omega⟩)
  clear hp hb
  go_wp2_with fail
  refine HS.out.mono ?_
  rintro e w2 h2
  change GivesS w1 (stepsP exP) e w2 at h2
  rw [ex_steps] at h2
  obtain ⟨p, c, H, rfl, hs, hb⟩ := h2
  have HB2 := Lib.hid (HB1.out.trans (hb.mono HB1.out.size))
  have HSL := Lib.hid hs
  have hcap : 2 ≤ c := hs.row.cap
  simp only [List.length_cons, List.length_nil, Nat.zero_add]
  clear hs hb HS
  go_wp2_with fail
  refine (example_any w2).mono ?_
  rintro e w3 ⟨m1, m2, m3, rfl, hp, hb⟩
  have HB3 := Lib.hid hb
  have HE := Lib.hid (encode_p 1 7 0 (some m1) 1 1 (some m2) 1 1 (some m3) 1 1 0 0 0 0 [(0, 5)] [(7, 0, 1, 3)] [(0, 2)] w3 (HW.out.later (HB2.out.trans (hb.mono HB2.out.size))) hp ex_ok ⟨by omega, by omega, by omega⟩)
  clear hp hb
  go_wp2_with fail
  refine HE.out.mono ?_
  rintro e w4 ⟨hb, h4⟩
  rw [if_pos (show goodP 4 4 (⟨1, 7, 0, [(0, 5)], [(7, 0, 1, 3)], [(0, 2)], 0, 0, 0, 0⟩ : Pg) = true from ex_good)] at h4
  obtain ⟨q, d, rfl, _⟩ := h4
  rw [show (bytesP (⟨1, 7, 0, [(0, 5)], [(7, 0, 1, 3)], [(0, 2)], 0, 0, 0, 0⟩ : Pg)).length = 52 from ex_bytes]
  have HB4 := Lib.hid (HB3.out.trans (hb.mono HB3.out.size))
  have hsl := HSL.out.later HB4.out
  obtain ⟨b, off, rfl, _, k0, k1, k2⟩ := step_cells hsl.row (j := 0) (by decide)
  obtain ⟨b', off', he, _, d0, d1, d2⟩ := step_cells hsl.row (j := 1) (by decide)
  cases he
  have t0 := hsl.tells.at 0 (by rw [hsl.row.len]; decide)
  have t1 := hsl.tells.at 1 (by rw [hsl.row.len]; decide)
  have u0 : (H.getD 0 hs0).1 = 1 := t0.1
  have u1 : (H.getD 0 hs0).2.1 = 1 := t0.2.1
  have u2 : (H.getD 1 hs0).1 = 7 := t1.1
  rw [u0] at k0
  rw [u1] at k1
  rw [u2] at d0
  have a0 : w4.cell? ⟨b, off, none⟩ = some (.int .u8 1) := by simpa using k0
  have a1 : w4.cell? ⟨b, off + 1, none⟩ = some (.int .u8 1) := by simpa using k1
  have a2 : w4.cell? ⟨b, off + 3, none⟩ = some (.int .u8 7) := by simpa using d0
  clear hb HE hsl k0 k1 k2 d0 d1 d2 t0 t1 u0 u1 u2
  go_wp2_with fail
  go_ret
  exact ⟨rfl, HB2.out.trans (HB4.out.mono HB2.out.size)⟩
end Go.Proofs.YtdcanppiiikjgaaDoor
