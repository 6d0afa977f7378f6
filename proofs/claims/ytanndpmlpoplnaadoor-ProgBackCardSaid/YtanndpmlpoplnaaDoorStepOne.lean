/- What a step does by one line: the program's way and the document's. -/
import Derived.Test.YtanndpmlpoplnaaDoorGrStep
namespace Go.Proofs.YtanndpmlpoplnaaDoor
open Go.RowKit Go.ChangeShapes Go.WideShapes
set_option linter.unusedVariables false
set_option maxRecDepth 10000

/-- One addition, two additions, in a block made last. -/
theorem gives_one {W w : World} (x : O) (hb : Below W.heap.size W w) : GivesO W [x] (.returned (.slice (some ⟨w.heap.size, 0, none⟩) 1 1)) (w.alloc (.cells #[.int .u8 x.1.1, .int .u8 x.1.2.1, .int .u8 x.1.2.2, .int .i64 x.2] 58)) := by
  have hr := alloc_block w (.cells #[.int .u8 x.1.1, .int .u8 x.1.2.1, .int .u8 x.1.2.2, .int .i64 x.2] 58)
  refine ⟨_, 1, rfl, ⟨rfl, Nat.le_refl _, by unfold maxLen; omega, (fun h => by cases h), fun _ => ⟨_, 0, rfl, block_lt hr, fun j hj i v hv => ?_⟩⟩, hb.alloc hb.size _, fun a ha => by cases ha; exact hb.size⟩
  have hj' : j < 1 := hj
  refine block_cell hr ?_
  have hi : i < 4 := (List.getElem?_eq_some_iff.1 hv).1
  obtain rfl : j = 0 := by omega
  rcases (by omega : i = 0 ∨ i = 1 ∨ i = 2 ∨ i = 3) with rfl | rfl | rfl | rfl <;> exact hv
theorem gives_two {W w : World} (x y : O) (hb : Below W.heap.size W w) : GivesO W [x, y] (.returned (.slice (some ⟨w.heap.size, 0, none⟩) 2 2)) (w.alloc (.cells #[.int .u8 x.1.1, .int .u8 x.1.2.1, .int .u8 x.1.2.2, .int .i64 x.2, .int .u8 y.1.1, .int .u8 y.1.2.1, .int .u8 y.1.2.2, .int .i64 y.2] 58)) := by
  have hr := alloc_block w (.cells #[.int .u8 x.1.1, .int .u8 x.1.2.1, .int .u8 x.1.2.2, .int .i64 x.2, .int .u8 y.1.1, .int .u8 y.1.2.1, .int .u8 y.1.2.2, .int .i64 y.2] 58)
  refine ⟨_, 2, rfl, ⟨rfl, Nat.le_refl _, by unfold maxLen; omega, (fun h => by cases h), fun _ => ⟨_, 0, rfl, block_lt hr, fun j hj i v hv => ?_⟩⟩, hb.alloc hb.size _, fun a ha => by cases ha; exact hb.size⟩
  have hj' : j < 2 := hj
  refine block_cell hr ?_
  have hi : i < 4 := (List.getElem?_eq_some_iff.1 hv).1
  rcases (by omega : j = 0 ∨ j = 1) with rfl | rfl <;> rcases (by omega : i = 0 ∨ i = 1 ∨ i = 2 ∨ i = 3) with rfl | rfl | rfl | rfl <;> exact hv
theorem gives_nil {W w : World} (hb : Below W.heap.size W w) : GivesO W [] (.returned (.slice none 0 0)) w := ⟨none, 0, rfl, SlG.empty _, hb, fun a ha => by cases ha⟩

theorem move_any (a b c a' b' c' q : Int) (hq : IntKind.i64.wrap (-q) = -q) (W : World) :
    Calls Tryd.prog 102 #[.agg #[.int .u8 a, .int .u8 b, .int .u8 c], .agg #[.int .u8 a', .int .u8 b', .int .u8 c'], .int .i64 q] W (GivesO W [((a, b, c), -q), ((a', b', c'), q)]) := by
  have hb2 : Below W.heap.size W ((W.alloc (.cells #[.int .u8 a, .int .u8 b, .int .u8 c] 56)).alloc (.cells #[.int .u8 a', .int .u8 b', .int .u8 c'] 56)) := ((Below.refl _ _).alloc (Nat.le_refl _) _).alloc (by simp) _
  have hg := gives_two ((a, b, c), -q) ((a', b', c'), q) hb2
  simp only [World.size_alloc] at hg
  have HG := Lib.hid hg
  clear hg hb2
  go_enter Tryd.func102, Tryd.ntmps102
  go_wp2_with fail
  go_ret
  exact HG.out
theorem wrap_neg (q : Int) (h0 : 1 ≤ q) (h : In64 q) : IntKind.i64.wrap (-q) = -q := by
  unfold In64 at h
  exact IntWalk.i64_in _ (by omega)
set_option maxHeartbeats 1000000 in
theorem additions_any (t w : Int) (p : Option Addr) (n c : Nat) (x : Ln) (W : World) (hx : In64 x.2) (hq : 1 ≤ x.2) :
    Calls Tryd.prog 79 #[.agg #[.int .u8 t, .int .u8 w, .slice p n c], .agg #[.int .u8 x.1, .int .i64 x.2]] W (GivesO W (oneS t w x)) := by
  obtain ⟨s, q⟩ := x
  have hneg := wrap_neg q hq hx
  dsimp only at hq hx ⊢
  obtain ⟨W6, hW6⟩ : ∃ W6, (((((W.alloc (.cells #[.int .u8 t, .int .u8 w, .slice p n c] 36)).alloc (.cells #[.int .u8 s, .int .i64 q] 72)).alloc (.cells #[.int .u8 1, .int .u8 s, .int .u8 w] 56)).alloc (.cells #[.int .u8 2, .int .u8 s, .int .u8 w] 56)).alloc (.cells #[.int .u8 3, .int .u8 s, .int .u8 0] 56)).alloc (.cells #[.int .u8 4, .int .u8 s, .int .u8 0] 56) = W6 := ⟨_, rfl⟩
  have hb6 : Below W.heap.size W W6 := by
    rw [← hW6]
    repeat (refine Below.alloc ?_ (by simp; try omega) _)
    exact Below.refl _ _
  have hs6 : W6.heap.size = W.heap.size + 1 + 1 + 1 + 1 + 1 + 1 := by rw [← hW6]; simp
  have hmv := fun a b c a' b' c' W => move_any a b c a' b' c' q hneg W
  have HW := Lib.hid hW6
  have HB := Lib.hid hb6
  clear hW6 hb6 hx
  rcases one_cases t w (s, q) with ⟨ht, ho⟩ | ⟨ht, ho⟩ | ⟨ht, ho⟩ | ⟨ht, ho⟩ | ⟨ht, ho⟩ | ⟨ht, ho⟩ | ⟨ht, ho⟩ | ⟨ht, ho⟩ | ⟨⟨h1, h2, h3, h4, h5, h6, h7, h8⟩, ho⟩
  all_goals rw [ho]
  all_goals clear ho
  all_goals (try subst ht)
  case inl | inr.inl | inr.inr.inl | inr.inr.inr.inl =>
    go_enter Tryd.func79, Tryd.ntmps79
    go_wp2_with fail
    rw [HW.out]
    refine (hmv _ _ _ _ _ _ _).mono ?_
    rintro e w1 h1
    have HG := Lib.hid (h1.since HB.out)
    obtain ⟨p1, c1, rfl, _⟩ := h1
    clear hmv hs6
    go_wp2_with fail
    go_ret
    exact HG.out
  case inr.inr.inr.inr.inl | inr.inr.inr.inr.inr.inl | inr.inr.inr.inr.inr.inr.inl | inr.inr.inr.inr.inr.inr.inr.inl =>
    clear hmv
    have HG := Lib.hid fun x => gives_one x HB.out
    rw [hs6] at HG
    clear hs6
    go_enter Tryd.func79, Tryd.ntmps79
    go_wp2_with fail
    go_ret
    rw [HW.out]
    exact HG.out ((_, _, _), _)
  case inr.inr.inr.inr.inr.inr.inr.inr =>
    have e1 : (t == 1) = false := by simpa using h1
    have e2 : (t == 2) = false := by simpa using h2
    have e3 : (t == 3) = false := by simpa using h3
    have e4 : (t == 4) = false := by simpa using h4
    have e5 : (t == 5) = false := by simpa using h5
    have e6 : (t == 6) = false := by simpa using h6
    have e7 : (t == 7) = false := by simpa using h7
    have e8 : (t == 8) = false := by simpa using h8
    clear hmv hs6 h1 h2 h3 h4 h5 h6 h7 h8
    go_enter Tryd.func79, Tryd.ntmps79
    go_wp2_with fail
    rw [HW.out]
    go_ret
    exact gives_nil HB.out

end Go.Proofs.YtanndpmlpoplnaaDoor
