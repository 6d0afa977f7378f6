/- A record that came in. -/
import Derived.Test.YtdcanppiiikjgaaGreatDoorGrReca
import Derived.Deep.Slices
import Derived.Deep.Fields
import Derived.Deep.Strs
import Derived.ChangeSame
import Derived.Lib.SmallJoins
import Derived.OpenShut
namespace Go.Proofs.YtdcanppiiikjgaaGreatDoor
open Go.RowKit Go.ChangeShapes Go.WideShapes Go.Deep
set_option linter.unusedVariables false
set_option maxRecDepth 10000

theorem recCells20 : Tryz.prog.cellsOf 30 = 20 := by kernel_rfl
theorem keyCells3 : Tryz.prog.cellsOf 24 = 3 := by kernel_rfl
/-- What is known of a record's cells. -/
def RecIn (w : World) (a : Array Value) : Prop := ∃ (r : Rv) (L : List Ln) (T : List Tk) (M : List Ln), a = rcs r ∧ Rxok (r.x L T M) ∧ RvM w r L T M
section
variable {H : Type} {enc : TypeId × Value → H} {w : World} {base : Nat} {held : Bool}
theorem rkey_trod {fuel : Nat} {x y z : Value} {d : DataW H × List MemPlace} (h : DataW.trod enc Tryz.prog w base (fun _ => true) held fuel 24 [x, y, z] = some d) : ∃ k : K, Kok k ∧ x = .int .u8 k.1 ∧ y = .int .u8 k.2.1 ∧ z = .int .u8 k.2.2 := by
  obtain ⟨xs, n, _, _, hlen, hxl, hg⟩ := DataW.trod_struct Tryz.underlying24 h
  have h3 : xs.length = 3 := hxl
  have t0 := hg 0 _ rfl
  have t1 := hg 1 _ rfl
  have t2 := hg 2 _ rfl
  rw [List.getElem?_eq_getElem (by omega)] at t0 t1 t2
  have e0 : DataW.trod enc Tryz.prog w base (fun _ => true) held n 5 [x] = some (xs[0]'(by omega)) := t0
  have e1 : DataW.trod enc Tryz.prog w base (fun _ => true) held n 5 [y] = some (xs[1]'(by omega)) := t1
  have e2 : DataW.trod enc Tryz.prog w base (fun _ => true) held n 5 [z] = some (xs[2]'(by omega)) := t2
  obtain ⟨z0, hv0, _, wf0⟩ := DataW.trod_int Tryz.underlying5 e0
  obtain ⟨z1, hv1, _, wf1⟩ := DataW.trod_int Tryz.underlying5 e1
  obtain ⟨z2, hv2, _, wf2⟩ := DataW.trod_int Tryz.underlying5 e2
  simp at hv0 hv1 hv2
  exact ⟨(z0, z1, z2), ⟨bounds_u8 wf0, bounds_u8 wf1, bounds_u8 wf2⟩, hv0, hv1, hv2⟩
theorem prog_trod {fuel : Nat} {v0 v1 v2 v3 v4 v5 v6 v7 v8 v9 : Value} {d : DataW H × List MemPlace} (hf : DataW.trod enc Tryz.prog w base (fun _ => true) held fuel 28 [v0, v1, v2, v3, v4, v5, v6, v7, v8, v9] = some d) : ∃ (k od po : Int) (lp : Option Addr) (ln lcp : Nat) (tp : Option Addr) (tn tcp : Nat) (wp : Option Addr) (wn wcp : Nat) (sk fr to q : Int) (L : List Ln) (T : List Tk) (M : List Ln), [v0, v1, v2, v3, v4, v5, v6, v7, v8, v9] = [.int .u8 k, .int .u32 od, .int .u8 po, .slice lp ln lcp, .slice tp tn tcp, .slice wp wn wcp, .int .u8 sk, .int .u8 fr, .int .u8 to, .int .i64 q] ∧ Pgok ⟨k, od, po, L, T, M, sk, fr, to, q⟩ ∧ PgM w lp ln lcp L tp tn tcp T wp wn wcp M := by
  obtain ⟨xs, n, _, _, hlen, hxl, hg⟩ := DataW.trod_struct Tryz.underlying28 hf
  have h10 : xs.length = 10 := hxl
  have t0 := hg 0 _ rfl
  have t1 := hg 1 _ rfl
  have t2 := hg 2 _ rfl
  have t3 := hg 3 _ rfl
  have t4 := hg 4 _ rfl
  have t5 := hg 5 _ rfl
  have t6 := hg 6 _ rfl
  have t7 := hg 7 _ rfl
  have t8 := hg 8 _ rfl
  have t9 := hg 9 _ rfl
  rw [List.getElem?_eq_getElem (by omega)] at t0 t1 t2 t3 t4 t5 t6 t7 t8 t9
  have e0 : DataW.trod enc Tryz.prog w base (fun _ => true) held n 5 [v0] = some (xs[0]'(by omega)) := t0
  have e1 : DataW.trod enc Tryz.prog w base (fun _ => true) held n 22 [v1] = some (xs[1]'(by omega)) := t1
  have e2 : DataW.trod enc Tryz.prog w base (fun _ => true) held n 5 [v2] = some (xs[2]'(by omega)) := t2
  have e3 : DataW.trod enc Tryz.prog w base (fun _ => true) held n 25 [v3] = some (xs[3]'(by omega)) := t3
  have e4 : DataW.trod enc Tryz.prog w base (fun _ => true) held n 26 [v4] = some (xs[4]'(by omega)) := t4
  have e5 : DataW.trod enc Tryz.prog w base (fun _ => true) held n 25 [v5] = some (xs[5]'(by omega)) := t5
  have e6 : DataW.trod enc Tryz.prog w base (fun _ => true) held n 5 [v6] = some (xs[6]'(by omega)) := t6
  have e7 : DataW.trod enc Tryz.prog w base (fun _ => true) held n 5 [v7] = some (xs[7]'(by omega)) := t7
  have e8 : DataW.trod enc Tryz.prog w base (fun _ => true) held n 5 [v8] = some (xs[8]'(by omega)) := t8
  have e9 : DataW.trod enc Tryz.prog w base (fun _ => true) held n 2 [v9] = some (xs[9]'(by omega)) := t9
  obtain ⟨z0, hv0, _, wf0⟩ := DataW.trod_int Tryz.underlying5 e0
  obtain ⟨z1, hv1, _, wf1⟩ := DataW.trod_int Tryz.underlying22 e1
  obtain ⟨z2, hv2, _, wf2⟩ := DataW.trod_int Tryz.underlying5 e2
  obtain ⟨z6, hv6, _, wf6⟩ := DataW.trod_int Tryz.underlying5 e6
  obtain ⟨z7, hv7, _, wf7⟩ := DataW.trod_int Tryz.underlying5 e7
  obtain ⟨z8, hv8, _, wf8⟩ := DataW.trod_int Tryz.underlying5 e8
  obtain ⟨z9, hv9, _, wf9⟩ := DataW.trod_int Tryz.underlying2 e9
  simp at hv0 hv1 hv2 hv6 hv7 hv8 hv9
  subst hv0 hv1 hv2 hv6 hv7 hv8 hv9
  obtain ⟨p3, n3, c3, rfl⟩ := slice_shape Tryz.underlying25 e3
  obtain ⟨p4, n4, c4, rfl⟩ := slice_shape Tryz.underlying26 e4
  obtain ⟨p5, n5, c5, rfl⟩ := slice_shape Tryz.underlying25 e5
  obtain ⟨L, hL, hLok⟩ := open_lines e3
  obtain ⟨T, hT, hTok⟩ := open_takes e4
  obtain ⟨M, hM, hMok⟩ := open_lines e5
  exact ⟨z0, z1, z2, p3, n3, c3, p4, n4, c4, p5, n5, c5, z6, z7, z8, z9, L, T, M, rfl, ⟨bounds_u8 wf0, bounds32 wf1, bounds_u8 wf2, hLok, hTok, hMok, bounds_u8 wf6, bounds_u8 wf7, bounds_u8 wf8, bounds_i64 wf9⟩, ⟨hL, hT, hM⟩⟩
end
theorem open_rec {H : Type} {enc : TypeId × Value → H} {w : World} {base b0 : Nat} {held : Bool} {r : Reach} {v : Value} {d : DataW H} {p : List MemPlace}
    (hv : Value.okWide Tryz.prog w r b0 30 v) (h : DataW.Trod enc Tryz.prog w base (fun _ => true) held 30 v d p) : ∃ c, v = .agg c ∧ RecIn w c := by
  obtain ⟨c, rfl, hsz⟩ := okWide_struct Tryz.underlying30 hv
  obtain ⟨fuel, hf⟩ := h
  obtain ⟨xs, n, _, _, hlen, hxl, hg⟩ := DataW.trod_struct Tryz.underlying30 hf
  rw [recCells20] at hlen
  have h9 : xs.length = 9 := hxl
  obtain ⟨v0, v1, v2, v3, v4, v5, v6, v7, v8, v9, v10, v11, v12, v13, v14, v15, v16, v17, v18, v19, hcs⟩ : ∃ v0 v1 v2 v3 v4 v5 v6 v7 v8 v9 v10 v11 v12 v13 v14 v15 v16 v17 v18 v19, c.toList = [v0, v1, v2, v3, v4, v5, v6, v7, v8, v9, v10, v11, v12, v13, v14, v15, v16, v17, v18, v19] := by
    match h : c.toList, hlen with
    | [a0, a1, a2, a3, a4, a5, a6, a7, a8, a9, a10, a11, a12, a13, a14, a15, a16, a17, a18, a19], _ => exact ⟨a0, a1, a2, a3, a4, a5, a6, a7, a8, a9, a10, a11, a12, a13, a14, a15, a16, a17, a18, a19, rfl⟩
  have hcells : (Value.agg c).cells.toList = c.toList := rfl
  rw [hcells, hcs] at hg
  have t0 := hg 0 _ rfl
  have t1 := hg 1 _ rfl
  have t2 := hg 2 _ rfl
  have t3 := hg 3 _ rfl
  have t4 := hg 4 _ rfl
  have t5 := hg 5 _ rfl
  have t6 := hg 6 _ rfl
  have t7 := hg 7 _ rfl
  have t8 := hg 8 _ rfl
  rw [List.getElem?_eq_getElem (by omega)] at t0 t1 t2 t3 t4 t5 t6 t7 t8
  have e0 : DataW.trod enc Tryz.prog w base (fun _ => true) held n 5 [v0] = some (xs[0]'(by omega)) := t0
  have e1 : DataW.trod enc Tryz.prog w base (fun _ => true) held n 22 [v1] = some (xs[1]'(by omega)) := t1
  have e2 : DataW.trod enc Tryz.prog w base (fun _ => true) held n 22 [v2] = some (xs[2]'(by omega)) := t2
  have e3 : DataW.trod enc Tryz.prog w base (fun _ => true) held n 5 [v3] = some (xs[3]'(by omega)) := t3
  have e4 : DataW.trod enc Tryz.prog w base (fun _ => true) held n 4 [v4] = some (xs[4]'(by omega)) := t4
  have e5 : DataW.trod enc Tryz.prog w base (fun _ => true) held n 24 [v5, v6, v7] = some (xs[5]'(by omega)) := t5
  have e6 : DataW.trod enc Tryz.prog w base (fun _ => true) held n 2 [v8] = some (xs[6]'(by omega)) := t6
  have e7 : DataW.trod enc Tryz.prog w base (fun _ => true) held n 5 [v9] = some (xs[7]'(by omega)) := t7
  have e8 : DataW.trod enc Tryz.prog w base (fun _ => true) held n 28 [v10, v11, v12, v13, v14, v15, v16, v17, v18, v19] = some (xs[8]'(by omega)) := t8
  obtain ⟨z0, hv0, _, wf0⟩ := DataW.trod_int Tryz.underlying5 e0
  obtain ⟨z1, hv1, _, wf1⟩ := DataW.trod_int Tryz.underlying22 e1
  obtain ⟨z2, hv2, _, wf2⟩ := DataW.trod_int Tryz.underlying22 e2
  obtain ⟨z3, hv3, _, wf3⟩ := DataW.trod_int Tryz.underlying5 e3
  obtain ⟨z6, hv6, _, wf6⟩ := DataW.trod_int Tryz.underlying2 e6
  obtain ⟨z7, hv7, _, wf7⟩ := DataW.trod_int Tryz.underlying5 e7
  obtain ⟨z4, hv4, _⟩ := DataW.trod_bool Tryz.underlying4 e4
  obtain ⟨key, hkey, hk0, hk1, hk2⟩ := rkey_trod e5
  obtain ⟨k, od, po, lp, ln, lcp, tp, tn, tcp, wp, wn, wcp, sk, fr, to, q, L, T, M, hpe, hpok, hpm⟩ := prog_trod e8
  simp at hv0 hv1 hv2 hv3 hv4 hv6 hv7
  simp only [List.cons.injEq, and_true] at hpe
  obtain ⟨g0, g1, g2, g3, g4, g5, g6, g7, g8, g9⟩ := hpe
  subst hv0 hv1 hv2 hv3 hv4 hv6 hv7 hk0 hk1 hk2 g0 g1 g2 g3 g4 g5 g6 g7 g8 g9
  refine ⟨c, rfl, ⟨z0, z1, z2, z3, z4, key.1, key.2.1, key.2.2, z6, z7, k, od, po, lp, ln, lcp, tp, tn, tcp, wp, wn, wcp, sk, fr, to, q⟩, L, T, M, Array.ext' hcs, ⟨bounds_u8 wf0, bounds32 wf1, bounds32 wf2, bounds_u8 wf3, hkey, bounds_i64 wf6, bounds_u8 wf7, hpok⟩, hpm⟩
end Go.Proofs.YtdcanppiiikjgaaGreatDoor
