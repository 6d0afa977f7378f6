/- The chapter's example; All's value. -/
import Derived.Test.YtnjihplhahkljaaTabAll
import Derived.Test.YtnjihplhahkljaaTabGet
namespace Go.Proofs.Ytnjihplhahkljaa
open Go.RowKit Go.ChangeShapes Go.WideShapes
set_option linter.unusedVariables false

set_option maxHeartbeats 2000000 in
theorem tab_works (W : World) : Calls Try.prog 11 #[] W fun e w' => e = .returned (.bool true) ∧ Below W.heap.size W w' := by
  have k1 : Kok ((4, 1, 0) : K) := ⟨by decide, by decide, by decide⟩
  have k2 : Kok ((1, 0, 0) : K) := ⟨by decide, by decide, by decide⟩
  have HP1 := Lib.hid fun W B mb M h hn => put_any (4, 1, 0) k1 5 (by decide) W B mb M h hn
  have HP2 := Lib.hid fun W B mb M h hn => put_any (1, 0, 0) k2 6 (by decide) W B mb M h hn
  have HT0 := Lib.hid (new_tab W)
  have HB0 := Lib.hid ((Below.refl W.heap.size W).alloc (Nat.le_refl _) (.cells #[.map none] 53))
  clear k1 k2
  go_enter Try.func11, Try.ntmps11
  go_wp2_with fail
  refine (new_any _).mono ?_
  rintro e w' ⟨rfl, rfl⟩
  generalize W.alloc (.cells #[.map none] 53) = W0 at *
  have h1 := HP1.out W0 W.heap.size none [] HT0.out (by simp)
  try dsimp only at h1
  go_wp2_with fail
  refine h1.mono ?_
  rintro e W1 ⟨rfl, m1, t1, f1, g1⟩
  have HT1 := Lib.hid t1
  have HB1 := Lib.hid (HB0.out.trans (g1.below HB0.out.size (fun k hk => by rcases hk with rfl | hk; exact Nat.le_refl _; cases hk)))
  have HF1 : Hid (∀ k, m1 = some k → W.heap.size ≤ k) := Lib.hid (fun k hk => by
    rcases f1 with f1 | ⟨b, hb, hle⟩
    · rw [f1] at hk; cases hk
    · rw [hb] at hk; cases hk; exact Nat.le_trans HB0.out.size hle)
  clear h1 t1 f1 g1
  have h2 := HP2.out W1 W.heap.size m1 _ HT1.out (by decide)
  try dsimp only at h2
  go_wp2_with fail
  refine h2.mono ?_
  rintro e W2 ⟨rfl, m2, t2, f2, g2⟩
  have hM : putM (putM [] (4, 1, 0) 5) (1, 0, 0) 6 = [((1, 0, 0), 6), ((4, 1, 0), 5)] := by decide
  rw [hM] at t2
  have HT2 := Lib.hid t2
  have HB2 := Lib.hid (HB1.out.trans (g2.below HB1.out.size (fun k hk => by rcases hk with rfl | hk; exact Nat.le_refl _; exact HF1.out k hk)))
  clear h2 t2 f2 g2 hM
  have h3 := keysp_any W2 W.heap.size m2 _ HT2.out (by decide)
  go_wp2_with fail
  refine h3.mono ?_
  rintro e W3 ⟨p, c, rfl, hk, hb, _⟩
  have hcap : 2 ≤ c := hk.cap
  have HB3 := Lib.hid (HB2.out.trans (hb.mono HB2.out.size))
  have hl := len_any W3 W.heap.size m2 _ (HT2.out.later hb)
  obtain ⟨b, off, rfl, hcell⟩ := hk.cell (by decide)
  obtain ⟨c0, _, _⟩ := hcell 0 (by decide)
  have c0' : W3.cell? ⟨b, off, none⟩ = some (.int .u8 1) := c0
  clear hk hb h3 hcell c0
  simp only [keysM, List.map_cons, List.map_nil, List.length_cons, List.length_nil, Nat.zero_add, Nat.reduceAdd] at *
  go_wp2_with fail
  refine hl.mono ?_
  rintro e W4 ⟨rfl, rfl⟩
  go_wp2_with fail
  go_ret
  exact ⟨rfl, HB3.out⟩
theorem run_equal_func {P : Program} (w : World) (t : TypeId) (ps rs : Array TypeId) (vd : Bool) (f : Fn) (a b : Array Value) (h : P.underlying t = some (.func ps rs vd)) : (Op.equal t (.func f a b) Value.nilFunc).run P w = .ok false w := by
  unfold Op.equal
  show (Op.equalIn 10000 t _ _).run P w = _
  unfold Op.equalIn
  simp [go_sem, run_underlying h]
/-- A function value is not nil. -/
theorem func_eql (w : World) (f : Fn) (a b : Array Value) : (binOp .eql 47 (.func f a b) Value.nilFunc).run Try.prog w = .ok (.bool false) w := by
  simp only [binOp]
  simp [run_equal_func w _ _ _ _ f a b Try.underlying47]
theorem func_neq (w : World) (f : Fn) (a b : Array Value) : (binOp .neq 47 (.func f a b) Value.nilFunc).run Try.prog w = .ok (.bool true) w := by
  simp only [binOp]
  simp [run_equal_func w _ _ _ _ f a b Try.underlying47]
theorem all_any (tp : Option Addr) (W : World) : Calls Try.prog 18 #[.pointer tp] W fun e w' => e = .returned (.func (.func 27) #[] #[.pointer (some ⟨W.heap.size, 0, none⟩)]) ∧ w' = W.alloc (.cells #[.pointer tp] 25) := by
  go_enter Try.func18, Try.ntmps18
  go_wp2_with fail
  go_ret
  exact ⟨rfl, rfl⟩
end Go.Proofs.Ytnjihplhahkljaa
