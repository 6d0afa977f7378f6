/- Small numbers that came in; why a small configuration may be. -/
import Derived.Test.YthkeefdapnkgeaaConfTiny
import Derived.Test.YthkeefdapnkgeaaConfOpen
namespace Go.Proofs.Ythkeefdapnkgeaa
open Go.RowKit Go.ChangeShapes Go.WideShapes Go.Deep
set_option linter.unusedVariables false
set_option linter.unusedSimpArgs false

/-- Twelve small numbers. -/
def SmallIn (w : World) (c : Array Value) : Prop := ∃ n0 n1 n2 n3 n4 n5 n6 n7 n8 n9 n10 n11 : Nat, (n0 < 256 ∧ n1 < 256 ∧ n2 < 256 ∧ n3 < 65536 ∧ n4 < 256 ∧ n5 < 256 ∧ n6 < 256 ∧ n7 < 256 ∧ n8 < 256 ∧ n9 < 256 ∧ n10 < 65536 ∧ n11 < 256) ∧ c = #[.int .u8 n0, .int .u8 n1, .int .u8 n2, .int .u16 n3, .int .u8 n4, .int .u8 n5, .int .u8 n6, .int .u8 n7, .int .u8 n8, .int .u8 n9, .int .u16 n10, .int .u8 n11]
theorem smallCells12 : Try.prog.cellsOf 45 = 12 := by kernel_rfl
theorem wordCells1 : Try.prog.cellsOf 43 = 1 := by kernel_rfl
theorem wf_u8 {z : Int} (h : (Lit.int .u8 z).wf = true) : ∃ n : Nat, n < 256 ∧ z = n := ⟨z.toNat, by have := bounds_u8 h; omega, by have := bounds_u8 h; omega⟩
theorem wf_u16 {z : Int} (h : (Lit.int .u16 z).wf = true) : ∃ n : Nat, n < 65536 ∧ z = n := by
  have hb : 0 ≤ z ∧ z ≤ 65535 := by simpa [Lit.wf, IntKind.min, IntKind.max, IntKind.bits, IntKind.signed] using h
  exact ⟨z.toNat, by omega, by omega⟩
set_option maxRecDepth 100000 in
theorem open_small {H : Type} {enc : TypeId × Value → H} {w : World} {base b0 : Nat} {spare : Nat → Bool} {held : Bool} {r : Reach} {v : Value} {d : DataW H} {p : List MemPlace}
    (hv : Value.okWide Try.prog w r b0 45 v) (h : DataW.Trod enc Try.prog w base spare held 45 v d p) : ∃ c, v = .agg c ∧ SmallIn w c := by
  obtain ⟨c, rfl, hsz⟩ := okWide_struct Try.underlying45 hv
  rw [smallCells12] at hsz
  obtain ⟨fuel, hf⟩ := h
  obtain ⟨xs, n, _, _, _, hlen, hg⟩ := DataW.trod_struct Try.underlying45 hf
  have h12 : xs.length = 12 := hlen
  obtain ⟨l⟩ := c
  match l, hsz with
  | [c0, c1, c2, c3, c4, c5, c6, c7, c8, c9, c10, c11], _ =>
    have g0 : DataW.trod enc Try.prog w base spare held n 5 ((([c0, c1, c2, c3, c4, c5, c6, c7, c8, c9, c10, c11] : List Value).drop 0).take (Try.prog.cellsOf 5)) = xs[0]? := hg 0 _ rfl
    rw [byteCells1', List.getElem?_eq_getElem (by omega)] at g0
    obtain ⟨z0, e0, _, f0⟩ := DataW.trod_int Try.underlying5 g0
    obtain ⟨n0, b0, rfl⟩ := wf_u8 f0
    have e0' : c0 = .int .u8 n0 := by simpa using e0
    clear e0 g0
    have g1 : DataW.trod enc Try.prog w base spare held n 5 ((([c0, c1, c2, c3, c4, c5, c6, c7, c8, c9, c10, c11] : List Value).drop 1).take (Try.prog.cellsOf 5)) = xs[1]? := hg 1 _ rfl
    rw [byteCells1', List.getElem?_eq_getElem (by omega)] at g1
    obtain ⟨z1, e1, _, f1⟩ := DataW.trod_int Try.underlying5 g1
    obtain ⟨n1, b1, rfl⟩ := wf_u8 f1
    have e1' : c1 = .int .u8 n1 := by simpa using e1
    clear e1 g1
    have g2 : DataW.trod enc Try.prog w base spare held n 5 ((([c0, c1, c2, c3, c4, c5, c6, c7, c8, c9, c10, c11] : List Value).drop 2).take (Try.prog.cellsOf 5)) = xs[2]? := hg 2 _ rfl
    rw [byteCells1', List.getElem?_eq_getElem (by omega)] at g2
    obtain ⟨z2, e2, _, f2⟩ := DataW.trod_int Try.underlying5 g2
    obtain ⟨n2, b2, rfl⟩ := wf_u8 f2
    have e2' : c2 = .int .u8 n2 := by simpa using e2
    clear e2 g2
    have g3 : DataW.trod enc Try.prog w base spare held n 43 ((([c0, c1, c2, c3, c4, c5, c6, c7, c8, c9, c10, c11] : List Value).drop 3).take (Try.prog.cellsOf 43)) = xs[3]? := hg 3 _ rfl
    rw [wordCells1, List.getElem?_eq_getElem (by omega)] at g3
    obtain ⟨z3, e3, _, f3⟩ := DataW.trod_int Try.underlying43 g3
    obtain ⟨n3, b3, rfl⟩ := wf_u16 f3
    have e3' : c3 = .int .u16 n3 := by simpa using e3
    clear e3 g3
    have g4 : DataW.trod enc Try.prog w base spare held n 5 ((([c0, c1, c2, c3, c4, c5, c6, c7, c8, c9, c10, c11] : List Value).drop 4).take (Try.prog.cellsOf 5)) = xs[4]? := hg 4 _ rfl
    rw [byteCells1', List.getElem?_eq_getElem (by omega)] at g4
    obtain ⟨z4, e4, _, f4⟩ := DataW.trod_int Try.underlying5 g4
    obtain ⟨n4, b4, rfl⟩ := wf_u8 f4
    have e4' : c4 = .int .u8 n4 := by simpa using e4
    clear e4 g4
    have g5 : DataW.trod enc Try.prog w base spare held n 5 ((([c0, c1, c2, c3, c4, c5, c6, c7, c8, c9, c10, c11] : List Value).drop 5).take (Try.prog.cellsOf 5)) = xs[5]? := hg 5 _ rfl
    rw [byteCells1', List.getElem?_eq_getElem (by omega)] at g5
    obtain ⟨z5, e5, _, f5⟩ := DataW.trod_int Try.underlying5 g5
    obtain ⟨n5, b5, rfl⟩ := wf_u8 f5
    have e5' : c5 = .int .u8 n5 := by simpa using e5
    clear e5 g5
    have g6 : DataW.trod enc Try.prog w base spare held n 5 ((([c0, c1, c2, c3, c4, c5, c6, c7, c8, c9, c10, c11] : List Value).drop 6).take (Try.prog.cellsOf 5)) = xs[6]? := hg 6 _ rfl
    rw [byteCells1', List.getElem?_eq_getElem (by omega)] at g6
    obtain ⟨z6, e6, _, f6⟩ := DataW.trod_int Try.underlying5 g6
    obtain ⟨n6, b6, rfl⟩ := wf_u8 f6
    have e6' : c6 = .int .u8 n6 := by simpa using e6
    clear e6 g6
    have g7 : DataW.trod enc Try.prog w base spare held n 5 ((([c0, c1, c2, c3, c4, c5, c6, c7, c8, c9, c10, c11] : List Value).drop 7).take (Try.prog.cellsOf 5)) = xs[7]? := hg 7 _ rfl
    rw [byteCells1', List.getElem?_eq_getElem (by omega)] at g7
    obtain ⟨z7, e7, _, f7⟩ := DataW.trod_int Try.underlying5 g7
    obtain ⟨n7, b7, rfl⟩ := wf_u8 f7
    have e7' : c7 = .int .u8 n7 := by simpa using e7
    clear e7 g7
    have g8 : DataW.trod enc Try.prog w base spare held n 5 ((([c0, c1, c2, c3, c4, c5, c6, c7, c8, c9, c10, c11] : List Value).drop 8).take (Try.prog.cellsOf 5)) = xs[8]? := hg 8 _ rfl
    rw [byteCells1', List.getElem?_eq_getElem (by omega)] at g8
    obtain ⟨z8, e8, _, f8⟩ := DataW.trod_int Try.underlying5 g8
    obtain ⟨n8, b8, rfl⟩ := wf_u8 f8
    have e8' : c8 = .int .u8 n8 := by simpa using e8
    clear e8 g8
    have g9 : DataW.trod enc Try.prog w base spare held n 5 ((([c0, c1, c2, c3, c4, c5, c6, c7, c8, c9, c10, c11] : List Value).drop 9).take (Try.prog.cellsOf 5)) = xs[9]? := hg 9 _ rfl
    rw [byteCells1', List.getElem?_eq_getElem (by omega)] at g9
    obtain ⟨z9, e9, _, f9⟩ := DataW.trod_int Try.underlying5 g9
    obtain ⟨n9, b9, rfl⟩ := wf_u8 f9
    have e9' : c9 = .int .u8 n9 := by simpa using e9
    clear e9 g9
    have g10 : DataW.trod enc Try.prog w base spare held n 43 ((([c0, c1, c2, c3, c4, c5, c6, c7, c8, c9, c10, c11] : List Value).drop 10).take (Try.prog.cellsOf 43)) = xs[10]? := hg 10 _ rfl
    rw [wordCells1, List.getElem?_eq_getElem (by omega)] at g10
    obtain ⟨z10, e10, _, f10⟩ := DataW.trod_int Try.underlying43 g10
    obtain ⟨n10, b10, rfl⟩ := wf_u16 f10
    have e10' : c10 = .int .u16 n10 := by simpa using e10
    clear e10 g10
    have g11 : DataW.trod enc Try.prog w base spare held n 5 ((([c0, c1, c2, c3, c4, c5, c6, c7, c8, c9, c10, c11] : List Value).drop 11).take (Try.prog.cellsOf 5)) = xs[11]? := hg 11 _ rfl
    rw [byteCells1', List.getElem?_eq_getElem (by omega)] at g11
    obtain ⟨z11, e11, _, f11⟩ := DataW.trod_int Try.underlying5 g11
    obtain ⟨n11, b11, rfl⟩ := wf_u8 f11
    have e11' : c11 = .int .u8 n11 := by simpa using e11
    clear e11 g11
    subst e0' e1' e2' e3' e4' e5' e6' e7' e8' e9' e10' e11'
    exact ⟨_, rfl, n0, n1, n2, n3, n4, n5, n6, n7, n8, n9, n10, n11, ⟨b0, b1, b2, b3, b4, b5, b6, b7, b8, b9, b10, b11⟩, rfl⟩
theorem most_le (x y : Int) : (mostI x y).toNat ≤ 12932 := by
  have := most_bounds x y
  omega
theorem needT_le (n b : Nat) (x y : Int) (hn : n ≤ 80) (hb : 64 ≤ b) : 2 ≤ needT n x y b ∧ needT n x y b ≤ 1000 := by
  have h1 : n / (b / 16) ≤ n / 4 := Nat.div_le_div_left (by omega) (by omega)
  have h2 : (mostI x y).toNat / b ≤ 12932 / 64 := Nat.le_trans (Nat.div_le_div_right (most_le x y)) (Nat.div_le_div_left hb (by omega))
  unfold needT piecesN
  omega
theorem tcf_ranked (s w t : Nat) (p : Option Addr) (n c : Nat) (sg od rt se cp bk bs : Int) (hs : 1 ≤ s ∧ s ≤ 3) (hw : 1 ≤ w ∧ w ≤ 3) : Ranked (tcf s w p n c (prM w s t s 0) sg od rt se cp bk bs) s w :=
  ⟨rfl, rfl, by omega, by omega, fun j _ => prM_byte w s t (by omega) j, fun i hi => (nbs_congr _ (fun j => (((j + (i + t) % w) % w : Nat) : Int)) w fun j hj => prM_at w s t i j hi hj (by omega)).trans (nbs_turn w ((i + t) % w) hw (Nat.mod_lt _ (by omega)))⟩
theorem tcf_fields (s w : Nat) (p : Option Addr) (n c : Nat) (f : Nat → Int) (sg od rt se cp bk bs lo hi : Int) (l : Nat) (hs : 1 ≤ s ∧ s ≤ 3) (hw : 1 ≤ w ∧ w ≤ 3) (hn : n = (plainL s w lo hi).length) (h0 : 0 ≤ lo) (h1 : lo ≤ hi) : Fields (tcf s w p n c f sg od rt se cp bk bs) s w (mix (-(l : Int)) n n (plainL s w lo hi)) := by
  have hl := plain_len s w lo hi
  have key : ∀ j, j < n → (mix (-(l : Int)) n n (plainL s w lo hi)).getD j d0 = loD (-(l : Int)) (plainD lo hi ((allQ s w 5).getD j (0, 0, 0))) := fun j hj => by
    rw [mix_getD _ _ _ _ _ hj, if_pos hj, plain_getD _ _ _ _ _ (by rw [← hl, ← hn]; exact hj)]
  refine ⟨by omega, by omega, by omega, by omega, rfl, rfl, hn.trans hl, fun j hj => ?_, fun j hj => ?_⟩
  · rw [key j hj]
    rfl
  · rw [key j hj]
    show -(l : Int) ≤ (if _ then lo else 0) ∧ (if _ then lo else 0) ≤ hi
    split <;> omega
/-- What Check answers of a small configuration, with whatever log and volume. -/
theorem tcheck_any (s w t l : Nat) (hs : 1 ≤ s ∧ s ≤ 3) (hw : 1 ≤ w ∧ w ≤ 3) (lo hi : Int) (h0 : 0 ≤ lo) (h1 : lo ≤ hi) (p : Option Addr) (n c : Nat) (hn : n = (plainL s w lo hi).length) (sg od rt se cp bk bs : Nat) (a1 : 1 ≤ sg ∧ sg ≤ 8) (a2 : 1 ≤ od ∧ od ≤ 32) (a3 : rt ≤ 4) (a4 : 64 ≤ se ∧ se ≤ 4096) (a5 : 1 ≤ cp ∧ cp ≤ 1048576) (a6 : 64 ≤ bk ∧ bk ≤ 4096) (a7 : 1 ≤ bs ∧ bs ≤ 1024) (W : World) (hM : DL W p n c (mix (-(l : Int)) n n (plainL s w lo hi))) :
    Calls Try.prog 13 #[.agg (cc (tcf s w p n c (prM w s t s 0) sg od rt se cp bk bs))] W fun e w' => e = .returned (.int .i64 (if (cp : Int) ≤ se then 5 else if (bs : Int) < (needT n sg od bk : Nat) then 4 else 0)) ∧ Below W.heap.size W w' :=
  check_in (tcf s w p n c (prM w s t s 0) sg od rt se cp bk bs) s w bk _ (by constructor <;> simp only [tcf] <;> omega) rfl (tcf_ranked s w t p n c _ _ _ _ _ _ _ hs hw) (tcf_fields s w p n c _ _ _ _ _ _ _ _ lo hi l hs hw hn h0 h1) W hM
end Go.Proofs.Ythkeefdapnkgeaa
