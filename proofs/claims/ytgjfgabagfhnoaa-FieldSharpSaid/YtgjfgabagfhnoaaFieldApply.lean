/- All changes, or none. -/
import Derived.Test.YtgjfgabagfhnoaaFieldGood
namespace Go.Proofs.Ytgjfgabagfhnoaa
open Go.RowKit Go.ChangeShapes Go.WideShapes
set_option linter.unusedVariables false
set_option linter.unusedSimpArgs false
set_option maxRecDepth 10000

theorem results_ff {fn : Func} {p u : Tmp} (h : fn.results = #[.cell p 23, .tmp u]) (tmps : Array Value) (W : World) (R : Nat) (cs : Array Value) (hs : cs.size = 6) (v : Value) (hp : tmps.getD p undef = .pointer (some ⟨R, 0, none⟩)) (hv : tmps.getD u undef = v)
    (hB : W.heap[R]? = some (.cells cs 23 (0, 0))) : (results fn tmps).run Try.prog W = .ok (.tuple #[.agg cs, v]) W := by
  rw [results_cell_tmp h, hp, hv]
  simp [asAddr, Result.andThen, run_loadVar_row W R 23 23 cs (0, 0) _ hB Try.underlying23 rfl (by rw [hs]; kernel_rfl)]
theorem fstored {w : World} {B : Nat} {a b c d e f a' b' c' d' e' f' : Value} {T : TypeId} (h : w.heap[B]? = some (.cells #[a, b, c, d, e, f] T (0, 0))) :
    ((((((w.setCell ⟨B, 0, none⟩ a').setCell ⟨B, 1, none⟩ b').setCell ⟨B, 2, none⟩ c').setCell ⟨B, 3, none⟩ d').setCell ⟨B, 4, none⟩ e').setCell ⟨B, 5, none⟩ f').heap[B]? = some (.cells #[a', b', c', d', e', f'] T (0, 0)) :=
  block_put 5 f' (block_put 4 e' (block_put 3 d' (block_put 2 c' (block_put 1 b' (block_put 0 a' h)))))
theorem fkept {W w : World} {B : Nat} (h : Below W.heap.size W w) (hB : W.heap.size ≤ B) (a' b' c' d' e' f' : Value) : Below W.heap.size W ((((((w.setCell ⟨B, 0, none⟩ a').setCell ⟨B, 1, none⟩ b').setCell ⟨B, 2, none⟩ c').setCell ⟨B, 3, none⟩ d').setCell ⟨B, 4, none⟩ e').setCell ⟨B, 5, none⟩ f') :=
  (((((h.setCell hB _).setCell hB _).setCell hB _).setCell hB _).setCell hB _).setCell hB _
theorem fthree (W : World) (c0 c1 c2 : Array Value) (t0 t1 t2 : TypeId) :
    Below W.heap.size W (((W.alloc (.cells c0 t0)).alloc (.cells c1 t1)).alloc (.cells c2 t2)) ∧ (((W.alloc (.cells c0 t0)).alloc (.cells c1 t1)).alloc (.cells c2 t2)).heap[W.heap.size]? = some (.cells c0 t0 (0, 0)) ∧
    (((W.alloc (.cells c0 t0)).alloc (.cells c1 t1)).alloc (.cells c2 t2)).heap[W.heap.size + 1]? = some (.cells c1 t1 (0, 0)) ∧ (((W.alloc (.cells c0 t0)).alloc (.cells c1 t1)).alloc (.cells c2 t2)).heap[W.heap.size + 2]? = some (.cells c2 t2 (0, 0)) := by
  have s1 : (W.alloc (.cells c0 t0)).heap.size = W.heap.size + 1 := by simp
  have s2 : ((W.alloc (.cells c0 t0)).alloc (.cells c1 t1)).heap.size = W.heap.size + 2 := by simp
  have h0 := alloc_block W (.cells c0 t0)
  have h1 := alloc_block (W.alloc (.cells c0 t0)) (.cells c1 t1)
  have h2 := alloc_block ((W.alloc (.cells c0 t0)).alloc (.cells c1 t1)) (.cells c2 t2)
  rw [s1] at h1
  rw [s2] at h2
  have b1 : Below (W.alloc (.cells c0 t0)).heap.size (W.alloc (.cells c0 t0)) ((W.alloc (.cells c0 t0)).alloc (.cells c1 t1)) := (Below.refl _ _).alloc (Nat.le_refl _) _
  have b2 : Below ((W.alloc (.cells c0 t0)).alloc (.cells c1 t1)).heap.size ((W.alloc (.cells c0 t0)).alloc (.cells c1 t1)) (((W.alloc (.cells c0 t0)).alloc (.cells c1 t1)).alloc (.cells c2 t2)) := (Below.refl _ _).alloc (Nat.le_refl _) _
  exact ⟨(((Below.refl _ _).alloc (Nat.le_refl _) _).alloc (by omega) _).alloc (by omega) _, block_later (block_later h0 b1) b2, block_later h1 b2, h2⟩
/-- apply, at work: the field's box X, the changes' box C, the result's box R, the new field's box G. -/
structure Ap (W w : World) (X C R G : Nat) (f : Fv) (a b c e : Nat) (cs : Array Value) : Prop where
  x : w.heap[X]? = some (.cells (fcs f) 23 (0, 0))
  c : w.heap[C]? = some (.cells #[.func (.func a) #[] #[], .func (.func b) #[] #[], .func (.func c) #[] #[], .func (.func e) #[] #[]] 71 (0, 0))
  r : w.heap[R]? = some (.cells #[.int .i64 0, .int .i64 0, .int .i64 0, .int .i64 0, .int .i64 0, .int .i64 0] 23 (0, 0))
  g : w.heap[G]? = some (.cells cs 23 (0, 0))
  below : Below W.heap.size W w
  ord : W.heap.size ≤ X ∧ X < C ∧ C < R ∧ R < G
theorem Ap.later {W w w' : World} {X C R G : Nat} {f : Fv} {a b c e : Nat} {cs : Array Value} (h : Ap W w X C R G f a b c e cs) (hb : Below w.heap.size w w') : Ap W w' X C R G f a b c e cs :=
  ⟨block_later h.x hb, block_later h.c hb, block_later h.r hb, block_later h.g hb, h.below.trans (hb.mono h.below.size), h.ord⟩
theorem Ap.put {W w : World} {X C R G : Nat} {f : Fv} {a b c e : Nat} {cs : Array Value} (h : Ap W w X C R G f a b c e cs) (j : Nat) (v : Value) : Ap W (w.setCell ⟨G, j, none⟩ v) X C R G f a b c e (cs.setIfInBounds j v) := by
  have ho := h.ord
  have hc : Chg (fun k => k = G) w (w.setCell ⟨G, j, none⟩ v) := (Chg.refl _ _).setCell _ _ fun _ => rfl
  exact ⟨(hc.block X (block_lt h.x) (by omega)).trans h.x, (hc.block C (block_lt h.c) (by omega)).trans h.c, (hc.block R (block_lt h.r) (by omega)).trans h.r, block_put j v h.g, hc.below h.below h.below.size fun k hk => by omega, ho⟩
theorem ccells {w : World} {B : Nat} {a b c d : Value} {T : TypeId} (h : w.heap[B]? = some (.cells #[a, b, c, d] T (0, 0))) : w.cell? ⟨B, 0, none⟩ = some a ∧ w.cell? ⟨B, 1, none⟩ = some b ∧ w.cell? ⟨B, 2, none⟩ = some c ∧ w.cell? ⟨B, 3, none⟩ = some d :=
  ⟨block_cell h rfl, block_cell h rfl, block_cell h rfl, block_cell h rfl⟩
theorem move_out {f : Fv} {d mv mb mn mf : Int} (h0 : firstF f d = 0) (h : ¬ (Fok (moveG f d mv mb mn mf) ∧ goodF (moveG f d mv mb mn mf) = true)) : moveF f d mv mb mn mf = f ∧ moveE f d mv mb mn mf = 12 := by
  refine ⟨move_bad fun h' => h h'.2, ?_⟩
  unfold moveE
  rw [if_neg (by omega), if_neg h]
/-- Where something is wrong ahead of all else. -/
theorem apply_first (f : Fv) (d kb kv ko kf : Int) (a b c e : Nat) (W : World) (hd : I64 d) (h0 : firstF f d ≠ 0) :
    Calls Try.prog 33 #[.agg (fcs f), .int .i64 d, .agg #[.func (.func a) #[] #[], .func (.func b) #[] #[], .func (.func c) #[] #[], .func (.func e) #[] #[]]] W fun r w' => r = .returned (.tuple #[.agg (fcs (moveF f d kv kb kf ko)), .int .i64 (moveE f d kv kb kf ko)]) ∧ Below W.heap.size W w' := by
  rw [show moveF f d kv kb kf ko = f from move_bad fun h => h0 h.1, show moveE f d kv kb kf ko = firstF f d from if_pos h0]
  have HW := Lib.hid fun W => wrong_any f d W hd
  have z1 : (firstF f d != 0) = true := by simpa using h0
  generalize firstF f d = z at *
  obtain ⟨lo, hi, ba, inf, sup, va⟩ := f
  obtain ⟨hb0, hx0, hc0, hr0⟩ := fthree W #[.int .i64 lo, .int .i64 hi, .int .i64 ba, .int .i64 inf, .int .i64 sup, .int .i64 va] #[.func (.func a) #[] #[], .func (.func b) #[] #[], .func (.func c) #[] #[], .func (.func e) #[] #[]] #[.int .i64 0, .int .i64 0, .int .i64 0, .int .i64 0, .int .i64 0, .int .i64 0] 23 71 23
  have HB0 := Lib.hid hb0
  have HX0 := Lib.hid hx0
  have HR0 := Lib.hid hr0
  clear hb0 hx0 hc0 hr0
  go_enter Try.func33, Try.ntmps33
  go_wp2_with fail
  refine (HW.out _).mono ?_
  rintro e1 w1 ⟨rfl, hb1⟩
  have HB1 := Lib.hid (HB0.out.trans (hb1.mono HB0.out.size))
  have HX1 := Lib.hid (block_later HX0.out hb1)
  have HR1 := Lib.hid (block_later HR0.out hb1)
  obtain ⟨q0, q1, q2, q3, q4, q5⟩ := fcells HX1.out
  obtain ⟨r0, r1, r2, r3, r4, r5⟩ := fcells HR1.out
  obtain ⟨f0, f1, f2, f3, f4, f5⟩ := ffree HR1.out
  have HF := Lib.hid (fstored (a' := .int .i64 lo) (b' := .int .i64 hi) (c' := .int .i64 ba) (d' := .int .i64 inf) (e' := .int .i64 sup) (f' := .int .i64 va) HR1.out)
  have HG := Lib.hid (fkept HB1.out (show W.heap.size ≤ W.heap.size + 2 by omega) (.int .i64 lo) (.int .i64 hi) (.int .i64 ba) (.int .i64 inf) (.int .i64 sup) (.int .i64 va))
  have H0 := Lib.hid h0
  clear hb1 h0
  go_wp2_with fail
  refine bodyPost_ret (v := .tuple #[.agg #[.int .i64 lo, .int .i64 hi, .int .i64 ba, .int .i64 inf, .int .i64 sup, .int .i64 va], .int .i64 z]) ?_ rfl ⟨rfl, HG.out⟩
  exact results_ff rfl _ _ (W.heap.size + 2) _ rfl _ rfl rfl HF.out
end Go.Proofs.Ytgjfgabagfhnoaa
