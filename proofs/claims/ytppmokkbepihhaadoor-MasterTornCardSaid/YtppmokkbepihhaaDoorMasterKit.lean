/- Good, the program's and the document's; a master in memory. -/
import Derived.Test.YtppmokkbepihhaaDoorMasterMath
import Derived.Test.YtppmokkbepihhaaDoorFrameNext
import Derived.Test.YtppmokkbepihhaaDoorWireTold
import Derived.Test.YtppmokkbepihhaaDoorWireGets
import Derived.Test.YtppmokkbepihhaaDoorSlBytes
import Derived.Test.YtppmokkbepihhaaDoorRowPart
import Derived.Laws.ResultCell
namespace Go.Proofs.YtppmokkbepihhaaDoor
open Go.RowKit Go.ChangeShapes Go.WideShapes
set_option linter.unusedVariables false
set_option maxRecDepth 10000

def goodI (g a r t s : Int) : Bool := decide (g ≠ 0 ∧ a ≤ 1 ∧ 0 ≤ r ∧ 0 ≤ s ∧ r ≤ t)
theorem goodI_m (m : Mv) : goodI (m.g : Int) (m.a : Int) (sgn m.r) (sgn m.t) (sgn m.s) = goodM m := by
  unfold goodI goodM
  rw [Bool.eq_iff_iff, decide_eq_true_iff, decide_eq_true_iff]
  omega
theorem mgood_any (g a r t s : Int) (w : World) :
    Calls Tryd.prog 12 #[.agg #[.int .u64 g, .int .u8 a, .int .i64 r, .int .i64 t, .int .i64 s]] w fun e w' => e = .returned (.bool (goodI g a r t s)) ∧ Below w.heap.size w w' := by
  have HB : Hid (Below w.heap.size w (w.alloc (.cells #[.int .u64 g, .int .u8 a, .int .i64 r, .int .i64 t, .int .i64 s] 24))) := Lib.hid ((Below.refl _ _).alloc (Nat.le_refl _) _)
  by_cases h1 : g = 0
  · have hF : goodI g a r t s = false := by simp [goodI, h1]
    rw [hF]
    clear hF
    subst h1
    go_enter Tryd.func12, Tryd.ntmps12
    go_wp2_with fail
    go_ret
    exact ⟨rfl, HB.out⟩
  · have g1 : (g != 0) = true := by simpa using h1
    have g2 : (g == 0) = false := by simpa using h1
    by_cases h2 : a < 2
    · by_cases h3 : 0 ≤ r
      · by_cases h4 : 0 ≤ s
        · by_cases h5 : r ≤ t
          · have hF : goodI g a r t s = true := by simp [goodI, h1, h3, h4, h5]; omega
            rw [hF]
            clear hF h1
            go_enter Tryd.func12, Tryd.ntmps12
            go_wp2_with fail
            go_ret
            exact ⟨rfl, HB.out⟩
          · have hF : goodI g a r t s = false := by simp [goodI, h5]
            rw [hF]
            clear hF h1
            go_enter Tryd.func12, Tryd.ntmps12
            go_wp2_with fail
            go_ret
            exact ⟨rfl, HB.out⟩
        · have hF : goodI g a r t s = false := by simp [goodI, h4]
          rw [hF]
          clear hF h1
          go_enter Tryd.func12, Tryd.ntmps12
          go_wp2_with fail
          go_ret
          exact ⟨rfl, HB.out⟩
      · have hF : goodI g a r t s = false := by simp [goodI, h3]
        rw [hF]
        clear hF h1
        go_enter Tryd.func12, Tryd.ntmps12
        go_wp2_with fail
        go_ret
        exact ⟨rfl, HB.out⟩
    · have hF : goodI g a r t s = false := by simp [goodI]; omega
      rw [hF]
      clear hF h1
      go_enter Tryd.func12, Tryd.ntmps12
      go_wp2_with fail
      go_ret
      exact ⟨rfl, HB.out⟩
theorem mrgood_any (g a r t s : Int) (w : World) :
    Calls Tryd.prog 8 #[.agg #[.int .u64 g, .int .u8 a, .int .i64 r, .int .i64 t, .int .i64 s]] w fun e w' => e = .returned (.bool (goodI g a r t s)) ∧ Below w.heap.size w w' := by
  have HB : Hid (Below w.heap.size w (w.alloc (.cells #[.int .u64 g, .int .u8 a, .int .i64 r, .int .i64 t, .int .i64 s] 24))) := Lib.hid ((Below.refl _ _).alloc (Nat.le_refl _) _)
  by_cases h1 : g = 0
  · have hF : goodI g a r t s = false := by simp [goodI, h1]
    rw [hF]
    clear hF
    subst h1
    go_enter Tryd.func8, Tryd.ntmps8
    go_wp2_with fail
    go_ret
    exact ⟨rfl, HB.out⟩
  · have g1 : (g != 0) = true := by simpa using h1
    have g2 : (g == 0) = false := by simpa using h1
    by_cases h2 : a ≤ 1
    · by_cases h3 : 0 ≤ r
      · by_cases h5 : r ≤ t
        · by_cases h4 : 0 ≤ s
          · have hF : goodI g a r t s = true := by simp [goodI, h1, h2, h3, h4, h5]
            rw [hF]
            clear hF h1
            go_enter Tryd.func8, Tryd.ntmps8
            go_wp2_with fail
            go_ret
            exact ⟨rfl, HB.out⟩
          · have hF : goodI g a r t s = false := by simp [goodI, h4]
            rw [hF]
            clear hF h1
            go_enter Tryd.func8, Tryd.ntmps8
            go_wp2_with fail
            go_ret
            exact ⟨rfl, HB.out⟩
        · have hF : goodI g a r t s = false := by simp [goodI, h5]
          rw [hF]
          clear hF h1
          go_enter Tryd.func8, Tryd.ntmps8
          go_wp2_with fail
          go_ret
          exact ⟨rfl, HB.out⟩
      · have hF : goodI g a r t s = false := by simp [goodI, h3]
        rw [hF]
        clear hF h1
        go_enter Tryd.func8, Tryd.ntmps8
        go_wp2_with fail
        go_ret
        exact ⟨rfl, HB.out⟩
    · have hF : goodI g a r t s = false := by simp [goodI, h2]
      rw [hF]
      clear hF h1
      go_enter Tryd.func8, Tryd.ntmps8
      go_wp2_with fail
      go_ret
      exact ⟨rfl, HB.out⟩
/-- A call that hands back a master and a number. -/
def GivesMM (W : World) (m : Mv) (x : Int) (e : Ending) (w' : World) : Prop := e = .returned (.tuple #[.agg #[.int .u64 ((m.g : Nat) : Int), .int .u8 ((m.a : Nat) : Int), .int .i64 (sgn m.r), .int .i64 (sgn m.t), .int .i64 (sgn m.s)], .int .i64 x]) ∧ Below W.heap.size W w'
def mcs (m : Mv) : Array Value := #[.int .u64 ((m.g : Nat) : Int), .int .u8 ((m.a : Nat) : Int), .int .i64 (sgn m.r), .int .i64 (sgn m.t), .int .i64 (sgn m.s)]
theorem mcs_z : mcs mz = #[.int .u64 0, .int .u8 0, .int .i64 0, .int .i64 0, .int .i64 0] := rfl
theorem results_mm {fn : Func} (h : fn.results = #[.cell 2 24, .tmp 3]) (tmps : Array Value) (W : World) (R : Nat) (cs : Array Value) (hs : cs.size = 5) (v : Value) (hp : tmps.getD 2 undef = .pointer (some ⟨R, 0, none⟩)) (hv : tmps.getD 3 undef = v)
    (hB : W.heap[R]? = some (.cells cs 24 (0, 0))) : (results fn tmps).run Tryd.prog W = .ok (.tuple #[.agg cs, v]) W := by
  rw [results_cell_tmp h, hp, hv]
  simp [asAddr, Result.andThen, run_loadVar_row W R 24 24 cs (0, 0) _ hB Tryd.underlying24 rfl (by rw [hs]; kernel_rfl)]
end Go.Proofs.YtppmokkbepihhaaDoor
