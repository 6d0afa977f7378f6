/- The document's Tear and Put. -/
import Derived.Test.YtdkpjaobfohdfaaVolRef
namespace Go.Proofs.Ytdkpjaobfohdfaa
open Go.RowKit Go.ChangeShapes Go.WideShapes
set_option linter.unusedVariables false
set_option maxRecDepth 10000
set_option linter.unusedSimpArgs false

theorem results_vol {fn : Func} {P1 P2 : Tmp} (h : fn.results = #[.cell P1 30, .tmp P2]) (tmps : Array Value) (W : World) (R : Nat) (u v x : Value) (hp : tmps.getD P1 undef = .pointer (some ⟨R, 0, none⟩)) (hv : tmps.getD P2 undef = x)
    (hR : W.heap[R]? = some (.cells #[u, v] 30 (0, 0))) (h1 : u.oneCell' = true) (h2 : v.oneCell' = true) : (results fn tmps).run Try.prog W = .ok (.tuple #[.agg #[u, v], x]) W := by
  rw [results_cell_tmp h, hp, hv]
  have hl := run_loadVar_row (P := Try.prog) W R 30 30 #[u, v] (0, 0) _ hR Try.underlying30 rfl (by kernel_rfl)
  simp [asAddr, Result.andThen, hl]
theorem two_vols (w : World) (u v x y : Value) : ((w.alloc (.cells #[u, v] 30)).alloc (.cells #[x, y] 30)).heap[w.heap.size + 1]? = some (.cells #[x, y] 30 (0, 0)) := by
  have h := alloc_block (w.alloc (.cells #[u, v] 30)) (.cells #[x, y] 30)
  rwa [show (w.alloc (.cells #[u, v] 30)).heap.size = w.heap.size + 1 by simp] at h
theorem two_below (w : World) (u v x y : Value) : Below w.heap.size w ((w.alloc (.cells #[u, v] 30)).alloc (.cells #[x, y] 30)) := ((Below.refl _ _).alloc (Nat.le_refl _) _).alloc (by simp) _
/-- Where there is no such block. -/
theorem reftear_none (p : Option Addr) (c n s : Nat) (i x : Int) (q : Option Addr) (m cq : Nat) (w : World) (hi : ¬ (0 ≤ i ∧ i < n)) :
    Calls Try.prog 58 #[.agg #[.slice p n c, .int .i64 (s : Nat)], .int .i64 i, .slice q m cq, .int .i64 x] w fun e w' => e = .returned (.tuple #[.agg #[.slice p n c, .int .i64 (s : Nat)], .int .i64 1]) ∧ Below w.heap.size w w' := by
  have HX := Lib.hid (two_vols w (.slice p n c) (.int .i64 (s : Nat)) (.slice p n c) (.int .i64 (s : Nat)))
  have HB := Lib.hid (two_below w (.slice p n c) (.int .i64 (s : Nat)) (.slice p n c) (.int .i64 (s : Nat)))
  by_cases h0 : i < 0
  · go_enter Try.func58, Try.ntmps58
    go_wp2_with fail
    refine bodyPost_ret (v := .tuple #[.agg #[.slice p n c, .int .i64 (s : Nat)], .int .i64 1]) ?_ rfl ?_
    · exact results_vol rfl _ _ (w.heap.size + 1) _ _ _ rfl rfl HX.out rfl rfl
    · exact ⟨rfl, HB.out⟩
  · have h1 : (n : Int) ≤ i := by omega
    go_enter Try.func58, Try.ntmps58
    go_wp2_with fail
    refine bodyPost_ret (v := .tuple #[.agg #[.slice p n c, .int .i64 (s : Nat)], .int .i64 1]) ?_ rfl ?_
    · exact results_vol rfl _ _ (w.heap.size + 1) _ _ _ rfl rfl HX.out rfl rfl
    · exact ⟨rfl, HB.out⟩
/-- Where there are more bytes than a block has. -/
theorem reftear_long (p : Option Addr) (c n s : Nat) (i x : Int) (q : Option Addr) (m cq : Nat) (w : World) (hi : 0 ≤ i ∧ i < n) (hm : s < m) :
    Calls Try.prog 58 #[.agg #[.slice p n c, .int .i64 (s : Nat)], .int .i64 i, .slice q m cq, .int .i64 x] w fun e w' => e = .returned (.tuple #[.agg #[.slice p n c, .int .i64 (s : Nat)], .int .i64 7]) ∧ Below w.heap.size w w' := by
  have HX := Lib.hid (two_vols w (.slice p n c) (.int .i64 (s : Nat)) (.slice p n c) (.int .i64 (s : Nat)))
  have HB := Lib.hid (two_below w (.slice p n c) (.int .i64 (s : Nat)) (.slice p n c) (.int .i64 (s : Nat)))
  obtain ⟨h0, h1⟩ := hi
  have h0' : ¬ i < 0 := by omega
  have h1' : ¬ (n : Int) ≤ i := by omega
  have hm' : (s : Int) < m := by omega
  go_enter Try.func58, Try.ntmps58
  go_wp2_with fail
  refine bodyPost_ret (v := .tuple #[.agg #[.slice p n c, .int .i64 (s : Nat)], .int .i64 7]) ?_ rfl ?_
  · exact results_vol rfl _ _ (w.heap.size + 1) _ _ _ rfl rfl HX.out rfl rfl
  · exact ⟨rfl, HB.out⟩
end Go.Proofs.Ytdkpjaobfohdfaa
