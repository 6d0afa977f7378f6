/- A program decoded, the document's way. -/
import Derived.Test.YtdcanppiiikjgaaDoorGrProgg
import Derived.Test.YtdcanppiiikjgaaDoorGrProgh
import Derived.Test.YtdcanppiiikjgaaDoorPgRmath
import Derived.Test.YtdcanppiiikjgaaDoorPgGoodAll
namespace Go.Proofs.YtdcanppiiikjgaaDoor
open Go.RowKit Go.ChangeShapes Go.WideShapes
set_option linter.unusedVariables false
set_option linter.unusedSimpArgs false
set_option maxRecDepth 10000

theorem num4_lt {w : World} {B : Nat} {p0 : Option Addr} {S : St} (h : Rr w B p0 S) : (numR S 4).2 < 4294967296 := by
  by_cases h0 : S.1 = 0
  · obtain ⟨p, n, c, _, hp⟩ := h.box
    exact numR_fit (hp h0).1.lt (n := 4) (by omega) (by omega)
  · rw [pgnum_bad h0 4 (by omega)]
    show 0 < 4294967296
    omega
/-- The result's block, the reader's behind it, the program's behind that. -/
structure Dq (W w : World) (R : Nat) (p0 : Option Addr) (S : St) (C : Array Value) : Prop where
  z : Rr w (R + 1) p0 S
  y : w.heap[R + 2]? = some (.cells C 28 (0, 0))
  r : w.heap[R]? = some (.cells zc 28 (0, 0))
  below : Below W.heap.size W w
  base : W.heap.size ≤ R
theorem Dq.low {W w w' : World} {R : Nat} {p0 : Option Addr} {S S' : St} {C : Array Value} (h : Dq W w R p0 S C) (hz : Rr w' (R + 1) p0 S') (hc : Chg (fun k => k = R + 1) w w') : Dq W w' R p0 S' C := by
  have hb := h.base
  exact ⟨hz, (hc.block (R + 2) (block_lt h.y) (by omega)).trans h.y, (hc.block R (block_lt h.r) (by omega)).trans h.r, Chg.below h.below h.below.size hc fun k hk => by omega, h.base⟩
theorem Dq.put {W w : World} {R : Nat} {p0 : Option Addr} {S : St} {C : Array Value} (h : Dq W w R p0 S C) (j : Nat) (v : Value) : Dq W (w.setCell ⟨R + 2, j, none⟩ v) R p0 S (C.setIfInBounds j v) := by
  have hb := h.base
  have hc : Chg (fun k => k = R + 2) w (w.setCell ⟨R + 2, j, none⟩ v) := (Chg.refl _ _).setCell ⟨R + 2, j, none⟩ _ fun _ => rfl
  exact ⟨h.z.chg hc fun k hk => by omega, block_put j v h.y, (hc.block R (block_lt h.r) (by omega)).trans h.r, Chg.below h.below h.below.size hc fun k hk => by omega, h.base⟩
theorem Dq.keep {W w w' : World} {R : Nat} {p0 : Option Addr} {S : St} {C : Array Value} (h : Dq W w R p0 S C) (hb : Below w.heap.size w w') : Dq W w' R p0 S C :=
  ⟨h.z.later hb, block_later h.y hb, block_later h.r hb, h.below.trans (hb.mono h.below.size), h.base⟩
theorem Dq.cy {W w : World} {R : Nat} {p0 : Option Addr} {S : St} {C : Array Value} (h : Dq W w R p0 S C) {j : Nat} {v : Value} (hj : C[j]? = some v) : w.cell? ⟨R + 2, j, none⟩ = some v ∧ w.frozen? ⟨R + 2, j, none⟩ = false := ⟨block_cell h.y hj, block_free j h.y⟩
theorem fq_low {α : Type} {enc : α → List Value} {k : Nat} {d : α} {w w' : World} {R : Nat} {p : Option Addr} {n c : Nat} {L : List α} (hf : Far (R + 2) p) (hl : SlG enc k d w p n c L) (hc : Chg (fun k => k = R + 1) w w') : SlG enc k d w' p n c L :=
  hl.turn hc.size fun _ a ha hlt => hc.block a.block hlt (by have := hf a ha; omega)
/-- What the document's Decode hands back. -/
theorem rdec_start (p : Option Addr) (n c : Nat) (Bs : List Nat) (W : World) (hS : Sl W p n c Bs) (hc : c ≤ maxLen) : ∃ R w, R = W.heap.size ∧ ((W.alloc (.cells zc 28)).alloc (.cells #[.slice p n c, .int .i64 0] 105)).alloc (.cells zc 28) = w ∧ Dq W w R p (0, Bs) zc := by
  refine ⟨_, _, rfl, rfl, ?_⟩
  have b1 : Below W.heap.size W (W.alloc (.cells zc 28)) := (Below.refl _ _).alloc (Nat.le_refl _) _
  have b2 : Below W.heap.size W ((W.alloc (.cells zc 28)).alloc (.cells #[.slice p n c, .int .i64 0] 105)) := b1.alloc (by simp) _
  have b3 : Below W.heap.size W (((W.alloc (.cells zc 28)).alloc (.cells #[.slice p n c, .int .i64 0] 105)).alloc (.cells zc 28)) := b2.alloc (by simp; omega) _
  have k1 := alloc_block W (.cells zc 28)
  have k2 := alloc_block (W.alloc (.cells zc 28)) (.cells #[.slice p n c, .int .i64 0] 105)
  have k3 := alloc_block ((W.alloc (.cells zc 28)).alloc (.cells #[.slice p n c, .int .i64 0] 105)) (.cells zc 28)
  simp only [World.size_alloc] at k2 k3
  refine ⟨⟨⟨p, n, c, (Below.heap_alloc _ _ _ (by simp)).trans k2, fun _ => ⟨hS.later b3, From.refl _, hc⟩⟩, fun _ hne a ha => ?_⟩, k3, (Below.heap_alloc _ _ _ (by simp; omega)).trans ((Below.heap_alloc _ _ _ (by simp)).trans k1), b3, Nat.le_refl _⟩
  have hl := hS.len
  have h0 : 0 < n := by
    rcases Nat.eq_zero_or_pos n with h | h
    · exact absurd (List.eq_nil_of_length_eq_zero (by rw [h] at hl; exact hl)) hne
    · exact h
  obtain ⟨b, off, hp, hlt, _⟩ := hS.blk h0
  rw [hp] at ha
  cases ha
  show b < W.heap.size + 1
  omega
theorem Dq.row {W w : World} {R : Nat} {p0 : Option Addr} {S : St} {C : Array Value} (h : Dq W w R p0 S C) (C' : Array Value) : Dq W (w.setRow (R + 2) C') R p0 S C' := by
  have hb := h.base
  have hc : Chg (fun k => k = R + 2) w (w.setRow (R + 2) C') := ⟨rfl, rfl, rfl, by simp [World.setRow], fun k _ hn => setRow_other _ _ _ _ hn⟩
  exact ⟨h.z.chg hc fun k hk => by omega, setRow_heap _ _ _ _ _ _ h.y, (hc.block R (block_lt h.r) (by omega)).trans h.r, Chg.below h.below h.below.size hc fun k hk => by omega, h.base⟩
theorem rdec_start2 (p : Option Addr) (n c : Nat) (Bs : List Nat) (W : World) (hS : Sl W p n c Bs) (hc : c ≤ maxLen) : ∃ R w00 w0, W.heap.size = R ∧ (W.alloc (.cells zc 28)).alloc (.cells #[.slice p n c, .int .i64 0] 105) = w00 ∧ w00.heap.size = R + 2 ∧ (w00.alloc (.cells zc 28)).heap[R + 2]? = some (.cells zc 28 (0, 0)) ∧ (w00.alloc (.cells zc 28)).setRow (R + 2) zc = w0 ∧ Dq W w0 R p (0, Bs) zc := by
  obtain ⟨R, w, hR, hw, hD⟩ := rdec_start p n c Bs W hS hc
  subst hw hR
  exact ⟨_, _, _, rfl, rfl, by simp, hD.y, rfl, hD.row zc⟩
/-- In the takes' loop: the take's box behind all else. -/
structure Tq (W y w : World) (R X : Nat) (p0 : Option Addr) (S : St) (C Cx : Array Value) (v : Value) (j : Nat) (Lj : List Tk) : Prop where
  d : Dq W w R p0 S C
  x : w.heap[X]? = some (.cells Cx 85 (0, 0))
  o : w.ownsRow 0 85 4 v j (flatG tkc Lj)
  c : Chg (fun k => k = R + 1 ∨ k = R + 2) y w
  xr : y.heap.size ≤ X ∧ R + 3 ≤ y.heap.size
  xo : ∀ b, v.ownBlock = some b → R + 3 ≤ b ∧ b < X
theorem Tq.low {W y w w' : World} {R X : Nat} {p0 : Option Addr} {S S' : St} {C Cx : Array Value} {v : Value} {j : Nat} {Lj : List Tk} (h : Tq W y w R X p0 S C Cx v j Lj) (hz : Rr w' (R + 1) p0 S') (hc : Chg (fun k => k = R + 1) w w') : Tq W y w' R X p0 S' C Cx v j Lj := by
  have hx := h.xr
  exact ⟨h.d.low hz hc, (hc.block X (block_lt h.x) (by omega)).trans h.x, row_keep h.o hc fun b hb hk => by have := h.xo b hb; omega, h.c.trans hc fun k _ hk => .inl hk, h.xr, h.xo⟩
theorem Tq.put {W y w : World} {R X : Nat} {p0 : Option Addr} {S : St} {C Cx : Array Value} {v : Value} {j : Nat} {Lj : List Tk} (h : Tq W y w R X p0 S C Cx v j Lj) (i : Nat) (u : Value) : Tq W y (w.setCell ⟨X, i, none⟩ u) R X p0 S C (Cx.setIfInBounds i u) v j Lj := by
  have hx := h.xr
  have hb := h.d.base
  have hc : Chg (fun k => k = X) w (w.setCell ⟨X, i, none⟩ u) := (Chg.refl _ _).setCell ⟨X, i, none⟩ _ fun _ => rfl
  refine ⟨⟨h.d.z.chg hc fun k hk => by omega, (hc.block (R + 2) (block_lt h.d.y) (by omega)).trans h.d.y, (hc.block R (block_lt h.d.r) (by omega)).trans h.d.r, Chg.below h.d.below h.d.below.size hc fun k hk => by omega, h.d.base⟩, block_put i u h.x, row_keep h.o hc fun b hb hk => by have := h.xo b hb; omega, h.c.trans hc fun k hk1 hk2 => by omega, h.xr, h.xo⟩
theorem Tq.cx {W y w : World} {R X : Nat} {p0 : Option Addr} {S : St} {C Cx : Array Value} {v : Value} {j : Nat} {Lj : List Tk} (h : Tq W y w R X p0 S C Cx v j Lj) {i : Nat} {u : Value} (hj : Cx[i]? = some u) : w.cell? ⟨X, i, none⟩ = some u ∧ w.frozen? ⟨X, i, none⟩ = false := ⟨block_cell h.x hj, block_free i h.x⟩
theorem Dq.far {W w w' : World} {R : Nat} {p0 : Option Addr} {S : St} {C : Array Value} {T : Nat → Prop} (h : Dq W w R p0 S C) (hc : Chg T w w') (hT : ∀ k, T k → R + 3 ≤ k) : Dq W w' R p0 S C := by
  have hb := h.base
  exact ⟨h.z.chg hc fun k hk => by have := hT k hk; omega, (hc.block (R + 2) (block_lt h.y) fun hk => by have := hT _ hk; omega).trans h.y, (hc.block R (block_lt h.r) fun hk => by have := hT _ hk; omega).trans h.r, Chg.below h.below h.below.size hc fun k hk => by have := hT k hk; omega, h.base⟩
theorem pq_low {w w' : World} {R : Nat} {lp : Option Addr} {ln lcp : Nat} {L : List Ln} {tp : Option Addr} {tn tcp : Nat} {T : List Tk} {wp : Option Addr} {wn wcp : Nat} {M : List Ln} (h : PgM w lp ln lcp L tp tn tcp T wp wn wcp M) (f : Far (R + 2) lp ∧ Far (R + 2) tp ∧ Far (R + 2) wp) (hc : Chg (fun k => k = R + 1) w w') : PgM w' lp ln lcp L tp tn tcp T wp wn wcp M := ⟨fq_low f.1 h.l hc, fq_low f.2.1 h.t hc, fq_low f.2.2 h.o hc⟩
theorem pq_put {w : World} {R : Nat} {lp : Option Addr} {ln lcp : Nat} {L : List Ln} {tp : Option Addr} {tn tcp : Nat} {T : List Tk} {wp : Option Addr} {wn wcp : Nat} {M : List Ln} (h : PgM w lp ln lcp L tp tn tcp T wp wn wcp M) (f : Far (R + 2) lp ∧ Far (R + 2) tp ∧ Far (R + 2) wp) (j : Nat) (v : Value) : PgM (w.setCell ⟨R + 2, j, none⟩ v) lp ln lcp L tp tn tcp T wp wn wcp M := ⟨far_put f.1 h.l j v, far_put f.2.1 h.t j v, far_put f.2.2 h.o j v⟩
set_option maxHeartbeats 16000000 in
theorem rdecode (p : Option Addr) (n c : Nat) (Bs : List Nat) (W : World) (hw : Words W) (hS : Sl W p n c Bs) (hcm : c ≤ maxLen) :
    Calls Tryd.prog 22 #[.slice p n c] W (GivesD W (rdecP Bs)) := by
  obtain ⟨R, w00, w0, hR, hw00, hs00, hx00, hw0, hD⟩ := rdec_start2 p n c Bs W hS hcm
  have HW00 := Lib.hid hw00
  have HS00 := Lib.hid hs00
  have HX00 := Lib.hid hx00
  have HW0 := Lib.hid hw0
  have HD0 := Lib.hid hD
  have HRE := Lib.hid hR
  have HBY : Hid (∀ y ∈ Bs, y < 256) := Lib.hid hS.lt
  have HWD := Lib.hid hw
  clear hw00 hs00 hx00 hw0 hD hR hw hS hcm
  go_enter Tryd.func22, Tryd.ntmps22
  go_upto_region 2 with (fail)
  rw [HW00.out, HRE.out]
  obtain ⟨R0, hR0⟩ : ∃ R, numR ((0, Bs) : St) 1 = R := ⟨_, rfl⟩
  have hn := pgnum_any HD0.out.z 1 (by omega)
  have hf := byte_lt HD0.out.z
  rw [hR0] at hn hf
  have hx0 : IntKind.u8.wrap ((R0.2 : Nat) : Int) = (R0.2 : Nat) := by simp [IntKind.wrap, IntKind.bits, IntKind.signed]; omega
  have HFT0 := Lib.hid hf
  have HR0 := Lib.hid hR0
  clear hf hR0
  go_wp2_with ((try rw [HS00.out]); (with_reducible refine wpList_store_pg 0 0 0 none 0 0 none 0 0 none 0 0 0 0 0 0 HX00.out ?_ ?_ ?_); rfl; rfl; rw [HW0.out])
  refine hn.mono ?_
  rintro e y0 ⟨rfl, hz, hc⟩
  have HDb := Lib.hid (HD0.out.low hz hc)
  clear hz hc hn
  obtain ⟨cy, cf⟩ := HDb.out.cy (j := 0) rfl
  go_upto_region 4 with (fail)
  clear cy cf
  have hd := HDb.out.put 0 (.int .u8 ((R0.2 : Nat) : Int))
  simp only [List.setIfInBounds_toArray, List.set_cons_zero, List.set_cons_succ] at hd
  generalize y0.setCell ⟨R + 2, 0, none⟩ (.int .u8 ((R0.2 : Nat) : Int)) = z0 at *
  have HD1 := Lib.hid hd
  clear hd HDb HD0
  obtain ⟨R1, hR1⟩ : ∃ R, numR R0.1 4 = R := ⟨_, rfl⟩
  have hn := pgnum_any HD1.out.z 4 (by omega)
  have hf := num4_lt HD1.out.z
  rw [hR1] at hn hf
  have hx1 : IntKind.u32.wrap ((R1.2 : Nat) : Int) = (R1.2 : Nat) := by simp [IntKind.wrap, IntKind.bits, IntKind.signed]; omega
  have HFT1 := Lib.hid hf
  have HR1 := Lib.hid hR1
  clear hf hR1
  go_wp2_with fail
  refine hn.mono ?_
  rintro e y1 ⟨rfl, hz, hc⟩
  have HDb := Lib.hid (HD1.out.low hz hc)
  clear hz hc hn
  obtain ⟨cy, cf⟩ := HDb.out.cy (j := 1) rfl
  go_upto_region 5 with (fail)
  clear cy cf
  have hd := HDb.out.put 1 (.int .u32 ((R1.2 : Nat) : Int))
  simp only [List.setIfInBounds_toArray, List.set_cons_zero, List.set_cons_succ] at hd
  generalize y1.setCell ⟨R + 2, 1, none⟩ (.int .u32 ((R1.2 : Nat) : Int)) = z1 at *
  have HD2 := Lib.hid hd
  clear hd HDb HD1
  obtain ⟨R2, hR2⟩ : ∃ R, numR R1.1 1 = R := ⟨_, rfl⟩
  have hn := pgnum_any HD2.out.z 1 (by omega)
  have hf := byte_lt HD2.out.z
  rw [hR2] at hn hf
  have hx2 : IntKind.u8.wrap ((R2.2 : Nat) : Int) = (R2.2 : Nat) := by simp [IntKind.wrap, IntKind.bits, IntKind.signed]; omega
  have HFT2 := Lib.hid hf
  have HR2 := Lib.hid hR2
  clear hf hR2
  go_wp2_with fail
  refine hn.mono ?_
  rintro e y2 ⟨rfl, hz, hc⟩
  have HDb := Lib.hid (HD2.out.low hz hc)
  clear hz hc hn
  obtain ⟨cy, cf⟩ := HDb.out.cy (j := 2) rfl
  go_upto_region 6 with (fail)
  clear cy cf
  have hd := HDb.out.put 2 (.int .u8 ((R2.2 : Nat) : Int))
  simp only [List.setIfInBounds_toArray, List.set_cons_zero, List.set_cons_succ] at hd
  generalize y2.setCell ⟨R + 2, 2, none⟩ (.int .u8 ((R2.2 : Nat) : Int)) = z2 at *
  have HD3 := Lib.hid hd
  clear hd HDb HD2
  have hn := rdlines_any HD3.out.z
  obtain ⟨R3, hR3⟩ : ∃ R, rlistR lineR 3 R2.1 = R := ⟨_, rfl⟩
  rw [hR3] at hn
  have HR3 := Lib.hid hR3
  have HY3 := Lib.hid (block_lt HD3.out.y)
  clear hR3
  go_wp2_with fail
  refine hn.mono ?_
  rintro e y3 ⟨pl, nl, cl, Ll, rfl, hl, hfar, hnl, hz, hc, heq⟩
  have HFl : Hid (Far (R + 2) pl) := Lib.hid fun a ha => by have := hfar a ha; have := HY3.out; omega
  have HDb := Lib.hid (HD3.out.low hz hc)
  have HNl := Lib.hid hnl
  have HEl := Lib.hid heq
  have HLlb := Lib.hid hl
  clear hz hc hn hfar hnl heq hl HY3
  obtain ⟨cy, cf⟩ := HDb.out.cy (j := 3) rfl
  go_upto_region 7 with (fail)
  clear cy cf
  have hd := HDb.out.put 3 (.slice pl nl cl)
  simp only [List.setIfInBounds_toArray, List.set_cons_zero, List.set_cons_succ] at hd
  have HLlc := Lib.hid (far_put HFl.out HLlb.out 3 (.slice pl nl cl))
  generalize y3.setCell ⟨R + 2, 3, none⟩ (.slice pl nl cl) = z3 at *
  have HD4 := Lib.hid hd
  have HLl := HLlc
  clear hd HDb HD3 HLlb HLlc
  have hn := pgcount_any HD4.out.z 12 (by omega)
  rw [show (((12 : Nat) : Int)) = 12 from rfl] at hn
  have hle := countR_le R3.1 12
  obtain ⟨Rc, hRc⟩ : ∃ R, countR R3.1 12 = R := ⟨_, rfl⟩
  rw [hRc] at hn hle
  have HRc := Lib.hid hRc
  clear hRc
  go_wp2_with fail
  refine hn.mono ?_
  rintro e y4 ⟨rfl, hz, hc⟩
  have HD5 := Lib.hid (HD4.out.low hz hc)
  have HLl5 := Lib.hid (fq_low HFl.out HLl.out hc)
  clear hz hc hn HD4 HLl
  go_wp2_with fail
  obtain ⟨S1, nc⟩ := Rc
  dsimp only at HD5 hle ⊢
  have HYS : Hid (R + 3 ≤ y4.heap.size) := Lib.hid (by have := block_lt HD5.out.y; omega)
  go_loopw [7] (fun i wr => ∃ (j : Nat) (v : Value), j ≤ nc ∧ i = .int .i64 j ∧ Hid (Dq W wr R p (manyR tkR j S1).1 #[.int .u8 ((R0.2 : Nat) : Int), .int .u32 ((R1.2 : Nat) : Int), .int .u8 ((R2.2 : Nat) : Int), .slice pl nl cl, v, .slice none 0 0, .int .u8 0, .int .u8 0, .int .u8 0, .int .i64 0]) ∧ Hid (wr.ownsRow 0 85 4 v j (flatG tkc (manyR tkR j S1).2)) ∧ Hid (Chg (fun k => k = R + 1 ∨ k = R + 2) y4 wr) ∧ Hid (∀ b, v.ownBlock = some b → y4.heap.size ≤ b)) (fun i _ => nc - (Go.RowKit.intOf i).toNat)
  case atStart => exact ⟨0, .slice none 0 0, Nat.zero_le _, rfl, HD5, Lib.hid (World.ownsRow_nil _ _ _ _), Lib.hid (Chg.refl _ _), Lib.hid fun b hb => by simp [Value.ownBlock] at hb⟩
  case round =>
    obtain ⟨j, v, hj, rfl, HDj, HOj, HCj, HBj⟩ := hrel
    have x1 := HDj.out.z.err
    by_cases hgo : j < nc ∧ (manyR tkR j S1).1.1 = 0
    case neg =>
      have hfin : (manyR tkR nc S1).1 = (manyR tkR j S1).1 ∧ ((manyR tkR j S1).1.1 = 0 → manyR tkR nc S1 = manyR tkR j S1) := by
        by_cases hlt : j < nc
        · have he : (manyR tkR j S1).1.1 ≠ 0 := fun h => hgo ⟨hlt, h⟩
          obtain ⟨kk, rfl⟩ : ∃ kk, nc = j + kk := ⟨nc - j, by omega⟩
          exact ⟨manyR_stop (f := tkR) (fun S h => tkR_bad h) S1 he kk, fun h => absurd h he⟩
        · obtain rfl : nc = j := by omega
          exact ⟨rfl, fun _ => rfl⟩
      by_cases hlt : j < nc
      · have hlt' : (j : Int) < nc := by omega
        have de : ((manyR tkR j S1).1.1 == 0) = false := by
          have he : (manyR tkR j S1).1.1 ≠ 0 := fun h => hgo ⟨hlt, h⟩
          simpa using he
        obtain ⟨pt, ct, hv, htl, htp⟩ := SlG.of_own (d := tk0) tkc_len (by decide) HOj.out
        subst hv
        have HTl := Lib.hid htl
        have HFt : Hid (Far (R + 2) pt) := Lib.hid fun a ha => by have := HBj.out a.block (by rw [ha]; rfl); have := HYS.out; omega
        have HLl6 := Lib.hid (HLl5.out.turn HCj.out.size fun _ a ha hlt => HCj.out.block a.block hlt (by have := HFl.out a ha; omega))
        have hmlt := manyR_len (f := tkR) S1 j
        have HML := Lib.hid hmlt
        have HFN := Lib.hid hfin
        clear htl htp hmlt hfin HLl5 HOj HCj HBj
        generalize manyR tkR j S1 = Mj at *
        obtain ⟨S4, Lt⟩ := Mj
        dsimp only at HDj HTl HML HFN x1
        have HD6 := Lib.hid HDj.out
        clear HDj
        have hn := rdlines_any HD6.out.z
        obtain ⟨R5, hR5⟩ : ∃ R, rlistR lineR 3 S4 = R := ⟨_, rfl⟩
        rw [hR5] at hn
        have HR5 := Lib.hid hR5
        have HY6 := Lib.hid (block_lt HD6.out.y)
        clear hR5
        go_wp2_with fail
        refine hn.mono ?_
        rintro e y5 ⟨po, no, co, Lo, rfl, hl, hfar, hno, hz, hc, heq⟩
        have HFF : Hid (Far (R + 2) pl ∧ Far (R + 2) pt ∧ Far (R + 2) po) := Lib.hid ⟨HFl.out, HFt.out, fun a ha => by have := hfar a ha; have := HY6.out; omega⟩
        have HPb := Lib.hid (PgM.mk (fq_low HFl.out HLl6.out hc) (fq_low HFt.out HTl.out hc) hl)
        have HDb := Lib.hid (HD6.out.low hz hc)
        have HNo := Lib.hid hno
        have HEo := Lib.hid heq
        clear hz hc hn hfar hno heq hl HY6 x1
        obtain ⟨cy, cf⟩ := HDb.out.cy (j := 5) rfl
        go_upto_region 18 with (fail)
        clear cy cf
        have hd := HDb.out.put 5 (.slice po no co)
        simp only [List.setIfInBounds_toArray, List.set_cons_zero, List.set_cons_succ] at hd
        have HP6 := Lib.hid (pq_put HPb.out HFF.out 5 (.slice po no co))
        generalize y5.setCell ⟨R + 2, 5, none⟩ (.slice po no co) = z5 at *
        clear HD6
        have HD6 := Lib.hid hd
        clear hd HDb HPb HLl6 HTl
        obtain ⟨R6, hR6⟩ : ∃ R, numR R5.1 1 = R := ⟨_, rfl⟩
        have hn := pgnum_any HD6.out.z 1 (by omega)
        have hf := byte_lt HD6.out.z
        rw [hR6] at hn hf
        have hx6 : IntKind.u8.wrap ((R6.2 : Nat) : Int) = (R6.2 : Nat) := by simp [IntKind.wrap, IntKind.bits, IntKind.signed]; omega
        have HFT6 := Lib.hid hf
        have HR6 := Lib.hid hR6
        clear hf hR6
        go_wp2_with fail
        refine hn.mono ?_
        rintro e y6 ⟨rfl, hz, hc⟩
        have HDb := Lib.hid (HD6.out.low hz hc)
        have HPb := Lib.hid (pq_low HP6.out HFF.out hc)
        clear hz hc hn
        obtain ⟨cy, cf⟩ := HDb.out.cy (j := 6) rfl
        go_upto_region 19 with (fail)
        clear cy cf
        have hd := HDb.out.put 6 (.int .u8 ((R6.2 : Nat) : Int))
        simp only [List.setIfInBounds_toArray, List.set_cons_zero, List.set_cons_succ] at hd
        have HP7 := Lib.hid (pq_put HPb.out HFF.out 6 (.int .u8 ((R6.2 : Nat) : Int)))
        generalize y6.setCell ⟨R + 2, 6, none⟩ (.int .u8 ((R6.2 : Nat) : Int)) = z6 at *
        have HD7 := Lib.hid hd
        clear hd HDb HD6 HPb HP6
        obtain ⟨R7, hR7⟩ : ∃ R, numR R6.1 1 = R := ⟨_, rfl⟩
        have hn := pgnum_any HD7.out.z 1 (by omega)
        have hf := byte_lt HD7.out.z
        rw [hR7] at hn hf
        have hx7 : IntKind.u8.wrap ((R7.2 : Nat) : Int) = (R7.2 : Nat) := by simp [IntKind.wrap, IntKind.bits, IntKind.signed]; omega
        have HFT7 := Lib.hid hf
        have HR7 := Lib.hid hR7
        clear hf hR7
        go_wp2_with fail
        refine hn.mono ?_
        rintro e y7 ⟨rfl, hz, hc⟩
        have HDb := Lib.hid (HD7.out.low hz hc)
        have HPb := Lib.hid (pq_low HP7.out HFF.out hc)
        clear hz hc hn
        obtain ⟨cy, cf⟩ := HDb.out.cy (j := 7) rfl
        go_upto_region 20 with (fail)
        clear cy cf
        have hd := HDb.out.put 7 (.int .u8 ((R7.2 : Nat) : Int))
        simp only [List.setIfInBounds_toArray, List.set_cons_zero, List.set_cons_succ] at hd
        have HP8 := Lib.hid (pq_put HPb.out HFF.out 7 (.int .u8 ((R7.2 : Nat) : Int)))
        generalize y7.setCell ⟨R + 2, 7, none⟩ (.int .u8 ((R7.2 : Nat) : Int)) = z7 at *
        have HD8 := Lib.hid hd
        clear hd HDb HD7 HPb HP7
        obtain ⟨R8, hR8⟩ : ∃ R, numR R7.1 1 = R := ⟨_, rfl⟩
        have hn := pgnum_any HD8.out.z 1 (by omega)
        have hf := byte_lt HD8.out.z
        rw [hR8] at hn hf
        have hx8 : IntKind.u8.wrap ((R8.2 : Nat) : Int) = (R8.2 : Nat) := by simp [IntKind.wrap, IntKind.bits, IntKind.signed]; omega
        have HFT8 := Lib.hid hf
        have HR8 := Lib.hid hR8
        clear hf hR8
        go_wp2_with fail
        refine hn.mono ?_
        rintro e y8 ⟨rfl, hz, hc⟩
        have HDb := Lib.hid (HD8.out.low hz hc)
        have HPb := Lib.hid (pq_low HP8.out HFF.out hc)
        clear hz hc hn
        obtain ⟨cy, cf⟩ := HDb.out.cy (j := 8) rfl
        go_upto_region 21 with (fail)
        clear cy cf
        have hd := HDb.out.put 8 (.int .u8 ((R8.2 : Nat) : Int))
        simp only [List.setIfInBounds_toArray, List.set_cons_zero, List.set_cons_succ] at hd
        have HP9 := Lib.hid (pq_put HPb.out HFF.out 8 (.int .u8 ((R8.2 : Nat) : Int)))
        generalize y8.setCell ⟨R + 2, 8, none⟩ (.int .u8 ((R8.2 : Nat) : Int)) = z8 at *
        have HD9 := Lib.hid hd
        clear hd HDb HD8 HPb HP8
        obtain ⟨R9, hR9⟩ : ∃ Q, numR R8.1 8 = Q := ⟨_, rfl⟩
        have hn := pgint_any HD9.out.z
        have hf := num8_lt HD9.out.z
        rw [hR9] at hn hf
        rw [sgn_wrap _ hf] at hn
        have HR9 := Lib.hid hR9
        have HFT9 := Lib.hid hf
        clear hf hR9
        go_wp2_with fail
        refine hn.mono ?_
        rintro e y9 ⟨rfl, hz, hc⟩
        have HDb := Lib.hid (HD9.out.low hz hc)
        have HPb := Lib.hid (pq_low HP9.out HFF.out hc)
        clear hz hc hn
        obtain ⟨cy, cf⟩ := HDb.out.cy (j := 9) rfl
        go_upto_region 22 with (fail)
        clear cy cf
        have hd := HDb.out.put 9 (.int .i64 (sgn R9.2))
        simp only [List.setIfInBounds_toArray, List.set_cons_zero, List.set_cons_succ] at hd
        have HPf := Lib.hid (pq_put HPb.out HFF.out 9 (.int .i64 (sgn R9.2)))
        generalize y9.setCell ⟨R + 2, 9, none⟩ (.int .i64 (sgn R9.2)) = z9 at *
        have HDf := Lib.hid hd
        clear hd HDb HD9 HPb HP9
        have x1 := HDf.out.z.err
        by_cases he9 : R9.1.1 = 0
        case neg =>
          have d9 : (R9.1.1 != 0) = true := by simpa using he9
          have hq9 : Hid (R9.1.1 ≠ 0) := Lib.hid he9
          obtain ⟨pr, nr, cr, hbx, hpr⟩ := HDf.out.z.box
          have HDd := Lib.hid (HDf.out.keep (show Below z9.heap.size z9 z9.drew from (Below.refl _ _).drew))
          have HBX : Hid (z9.drew.heap[R + 1]? = some (.cells #[.slice pr nr cr, .int .i64 R9.1.1] 105 (0, 0))) := Lib.hid hbx
          clear he9 hbx hpr
          have HRF := Lib.hid (setRow_heap z9.drew R _ zc _ _ HDd.out.r)
          have HG : Hid (GivesD W (rdecP Bs) (.returned (.tuple #[.agg zc, .int .i64 R9.1.1])) (z9.drew.setRow R zc)) := Lib.hid (by
            have hp : rdecP Bs = (R9.1.1, noP) := by
              unfold rdecP
              rw [refR_eq HR0.out HR1.out HR2.out HR3.out HRc.out HFN.out.1 HR5.out HR6.out HR7.out HR8.out HR9.out]
              dsimp only
              rw [if_pos hq9.out]
            rw [hp]
            exact ⟨none, 0, none, 0, none, 0, rfl, ⟨SlG.empty _, SlG.empty _, SlG.empty _⟩, below_setRow HDd.out.below HDd.out.base zc⟩)
          go_wp2_with fail
          refine wp_region_held_drew (S := fun w' => Hid (w'.heap[R + 1]? = some (.cells #[.slice pr nr cr, .int .i64 R9.1.1] 105 (0, 0)))) (by kernel_rfl) HBX (fun hHeld => ?_)
          refine wpAnyH_take (i := 0) (oi := ⟨some 87, _, _, _, _, _⟩) (v := .agg zc) rfl (by kernel_rfl) (by kernel_rfl) (by kernel_rfl) (fun _ _ _ h => h) (Or.inl ⟨by rfl, fun w' hw' => ?_⟩) (by assumption) ?_
          · clear hHeld
            go_simp
          simp only [Act.put, List.setIfInBounds_toArray, List.set_cons_zero, List.set_cons_succ]
          refine wpAnyH_take (i := 1) (oi := ⟨some 88, _, _, _, _, _⟩) (v := .pointer (some ⟨R + 1, 0, none⟩)) rfl (by kernel_rfl) (by kernel_rfl) (by kernel_rfl) (fun _ _ _ h => h) (Or.inl ⟨by rfl, fun w' hw' => ?_⟩) (by assumption) ?_
          · clear hHeld
            go_simp
          simp only [Act.put, List.setIfInBounds_toArray, List.set_cons_zero, List.set_cons_succ]
          refine wpAnyH_take (i := 2) (oi := ⟨some 89, _, _, _, _, _⟩) (v := .pointer (some ⟨R + 1, 0, none⟩)) rfl (by kernel_rfl) (by kernel_rfl) (by kernel_rfl) (fun _ _ _ h => h) (Or.inl ⟨by rfl, fun w' hw' => ?_⟩) (by assumption) ?_
          · clear hHeld
            go_simp
          simp only [Act.put, List.setIfInBounds_toArray, List.set_cons_zero, List.set_cons_succ]
          refine wpAnyH_take (i := 3) (oi := ⟨some 90, _, _, _, _, _⟩) (v := .pointer (some ⟨R + 1, 1, none⟩)) rfl (by kernel_rfl) (by kernel_rfl) (by kernel_rfl) (fun _ _ _ h => h) (Or.inl ⟨by rfl, fun w' hw' => ?_⟩) (by assumption) ?_
          · clear hHeld
            go_simp
          simp only [Act.put, List.setIfInBounds_toArray, List.set_cons_zero, List.set_cons_succ]
          refine wpAnyH_take (i := 4) (oi := ⟨some 91, _, _, _, _, _⟩) (v := .int .i64 R9.1.1) rfl (by kernel_rfl) (by kernel_rfl) (by kernel_rfl) (fun _ _ _ h => h) (Or.inl ⟨by rfl, fun w' hw' => ?_⟩) (by assumption) ?_
          · have g1 := block_cell (j := 1) (v := .int .i64 R9.1.1) hw'.out rfl
            clear hHeld
            go_simp
          simp only [Act.put, List.setIfInBounds_toArray, List.set_cons_zero, List.set_cons_succ]
          generalize z9.drew = Wd at *
          refine wpAnyH_ready (rs := [5]) (by kernel_rfl) (by simp) (AllReadyH.cons rfl (fun K hK => ?_) AllReadyH.nil)
          rw [if_pos (by rfl)]
          refine wp_store_row 28 _ _ rfl R zc rfl rfl 28 _ HDd.out.r (by kernel_rfl) rfl (by kernel_rfl) ?_
          have HB2 : Hid ((Wd.setRow R zc).heap[R + 1]? = some (.cells #[.slice pr nr cr, .int .i64 R9.1.1] 105 (0, 0))) := Lib.hid ((setRow_other _ _ _ _ (by omega)).trans HBX.out)
          refine hK.out _ _ HB2 (fun hHeld2 => ?_)
          clear hK K hHeld
          have hHeld := hHeld2
          clear hHeld2
          (try simp only [Act.put, List.setIfInBounds_toArray, List.set_cons_zero, List.set_cons_succ])
          refine wpAnyH_take (i := 6) (oi := ⟨some 3, _, _, _, _, _⟩) (v := .int .i64 R9.1.1) rfl (by kernel_rfl) (by kernel_rfl) (by kernel_rfl) (fun _ _ _ h => h) (Or.inl ⟨by rfl, fun w' hw' => ?_⟩) (by assumption) ?_
          · clear hHeld
            go_simp
          simp only [Act.put, List.setIfInBounds_toArray, List.set_cons_zero, List.set_cons_succ]
          refine wpAnyH_done (by kernel_rfl) ?_ _
          clear hHeld
          (try simp only [Exit.inBlock, Exit.then])
          go_wp2_with fail
          refine bodyPost_ret (v := .tuple #[.agg zc, .int .i64 R9.1.1]) ?_ rfl HG.out
          exact results_pg rfl _ _ R zc _ rfl rfl HRF.out rfl
        have d9 : (R9.1.1 != 0) = false := by simp [he9]
        obtain ⟨y3, y4', y5'⟩ := zero_back (R2 := R2) HRc.out HFN.out.1 HR5.out HR6.out HR7.out HR8.out HR9.out he9
        have hrefa := refR_eq HR0.out HR1.out HR2.out HR3.out HRc.out HFN.out.1 HR5.out HR6.out HR7.out HR8.out HR9.out
        rw [HFN.out.2 y4', ← HEl.out y3, ← HEo.out y5'] at hrefa
        have hpok := ref_ok HBY.out (by rw [hrefa]; exact he9)
        rw [hrefa] at hpok
        have HREF := Lib.hid hrefa
        have HPOK := Lib.hid hpok
        have HZ9 := Lib.hid he9
        clear hrefa hpok y3 y4' y5'
        obtain ⟨pr, nr, cr, hbx, hpr⟩ := HDf.out.z.box
        have hln := (hpr he9).1.len
        have HLN := Lib.hid hln
        rw [he9] at hbx
        have b0 : z9.cell? ⟨R + 1, 0, none⟩ = some (.slice pr nr cr) := block_cell hbx rfl
        clear hbx hpr hln he9
        by_cases hnr : 0 < nr
        case pos =>
          have hd : (0 : Int) < nr := by omega
          have HNR := Lib.hid hnr
          clear hnr
          have HRF := Lib.hid (setRow_heap z9 R _ zc _ _ HDf.out.r)
          have HG : Hid (GivesD W (rdecP Bs) (.returned (.tuple #[.agg zc, .int .i64 8])) (z9.setRow R zc)) := Lib.hid (by
            have hp : rdecP Bs = (8, noP) := by
              unfold rdecP
              rw [HREF.out]
              dsimp only
              rw [if_neg (fun h => h HZ9.out), if_pos (Or.inl (by rw [HLN.out]; exact HNR.out))]
            rw [hp]
            exact ⟨none, 0, none, 0, none, 0, rfl, ⟨SlG.empty _, SlG.empty _, SlG.empty _⟩, below_setRow HDf.out.below HDf.out.base zc⟩)
          go_wp2_with ((with_reducible refine wpList_store_pg 0 0 0 none 0 0 none 0 0 none 0 0 0 0 0 0 HDf.out.r ?_ ?_ ?_); rfl; rfl)
          (try simp only [Exit.inBlock, Exit.then])
          refine bodyPost_ret (v := .tuple #[.agg zc, .int .i64 8]) ?_ rfl HG.out
          exact results_pg rfl _ _ R zc _ rfl rfl HRF.out rfl
        have hd : ¬ (0 : Int) < nr := by omega
        have HNR := Lib.hid hnr
        clear hnr
        have hgd := rgood_p 4 4 ((R0.2 : Nat) : Int) ((R1.2 : Nat) : Int) ((R2.2 : Nat) : Int) pl nl cl pt j ct po no co ((R6.2 : Nat) : Int) ((R7.2 : Nat) : Int) ((R8.2 : Nat) : Int) (sgn R9.2) Ll Lt Lo z9 HPf.out HPOK.out ⟨by have := HNl.out; omega, by have := hle; omega, by have := HNo.out; omega⟩
        obtain ⟨a0, a1, a2, a3, a4, a5, a6, a7, a8, a9⟩ := prog_cells _ _ _ _ _ _ _ _ _ _ _ _ _ _ _ _ HDf.out.y
        go_wp2_with fail
        refine hgd.mono ?_
        rintro e x8 ⟨rfl, hb8⟩
        have HD8 := Lib.hid (HDf.out.keep hb8)
        have HP8 := Lib.hid (HPf.out.later hb8)
        clear hb8 hgd a0 a1 a2 a3 a4 a5 a6 a7 a8 a9
        cases hg : goodP 4 4 (⟨((R0.2 : Nat) : Int), ((R1.2 : Nat) : Int), ((R2.2 : Nat) : Int), Ll, Lt, Lo, ((R6.2 : Nat) : Int), ((R7.2 : Nat) : Int), ((R8.2 : Nat) : Int), sgn R9.2⟩ : Pg)
        case false =>
          have HRF := Lib.hid (setRow_heap x8 R _ zc _ _ HD8.out.r)
          have HG : Hid (GivesD W (rdecP Bs) (.returned (.tuple #[.agg zc, .int .i64 8])) (x8.setRow R zc)) := Lib.hid (by
            have hp : rdecP Bs = (8, noP) := by
              unfold rdecP
              rw [HREF.out]
              dsimp only
              rw [if_neg (fun h => h HZ9.out), if_pos (Or.inr hg)]
            rw [hp]
            exact ⟨none, 0, none, 0, none, 0, rfl, ⟨SlG.empty _, SlG.empty _, SlG.empty _⟩, below_setRow HD8.out.below HD8.out.base zc⟩)
          go_wp2_with ((with_reducible refine wpList_store_pg 0 0 0 none 0 0 none 0 0 none 0 0 0 0 0 0 HD8.out.r ?_ ?_ ?_); rfl; rfl)
          (try simp only [Exit.inBlock, Exit.then])
          refine bodyPost_ret (v := .tuple #[.agg zc, .int .i64 8]) ?_ rfl HG.out
          exact results_pg rfl _ _ R zc _ rfl rfl HRF.out rfl
        obtain ⟨a0, a1, a2, a3, a4, a5, a6, a7, a8, a9⟩ := prog_cells _ _ _ _ _ _ _ _ _ _ _ _ _ _ _ _ HD8.out.y
        have HLLn : Hid (Ll.length = nl ∧ Lt.length = j ∧ Lo.length = no) := Lib.hid ⟨HP8.out.l.len, HP8.out.t.len, HP8.out.o.len⟩
        obtain ⟨C, hC⟩ : ∃ C : Array Value, #[.int .u8 ((R0.2 : Nat) : Int), .int .u32 ((R1.2 : Nat) : Int), .int .u8 ((R2.2 : Nat) : Int), .slice pl nl cl, .slice pt j ct, .slice po no co, .int .u8 ((R6.2 : Nat) : Int), .int .u8 ((R7.2 : Nat) : Int), .int .u8 ((R8.2 : Nat) : Int), .int .i64 (sgn R9.2)] = C := ⟨_, rfl⟩
        have HRF := Lib.hid (setRow_heap x8 R _ C _ _ HD8.out.r)
        have HG : Hid (GivesD W (rdecP Bs) (.returned (.tuple #[.agg C, .int .i64 0])) (x8.setRow R C)) := Lib.hid (by
          have hp : rdecP Bs = (0, (⟨((R0.2 : Nat) : Int), ((R1.2 : Nat) : Int), ((R2.2 : Nat) : Int), Ll, Lt, Lo, ((R6.2 : Nat) : Int), ((R7.2 : Nat) : Int), ((R8.2 : Nat) : Int), sgn R9.2⟩ : Pg)) := by
            unfold rdecP
            rw [HREF.out]
            dsimp only
            rw [if_neg (fun h => h HZ9.out), if_neg (fun h => h.elim (fun h => by rw [HLN.out] at h; exact HNR.out h) (fun h => by rw [hg] at h; exact absurd h (by decide)))]
          rw [hp]
          obtain ⟨q1, q2, q3⟩ := HLLn.out
          have hfar : ∀ q : Option Addr, Far (R + 2) q → ∀ a, q = some a → a.block ≠ R := fun q h a ha => by have := h a ha; omega
          refine ⟨pl, cl, pt, ct, po, co, by rw [← hC, q1, q2, q3], ?_, below_setRow HD8.out.below HD8.out.base C⟩
          rw [q1, q2, q3]
          exact ⟨HP8.out.l.turn (by simp [World.setRow]) fun _ a ha _ => setRow_other _ _ _ _ (hfar _ HFF.out.1 a ha), HP8.out.t.turn (by simp [World.setRow]) fun _ a ha _ => setRow_other _ _ _ _ (hfar _ HFF.out.2.1 a ha), HP8.out.o.turn (by simp [World.setRow]) fun _ a ha _ => setRow_other _ _ _ _ (hfar _ HFF.out.2.2 a ha)⟩)
        subst hC
        clear hg
        go_wp2_with ((with_reducible refine wpList_store_pg ((R0.2 : Nat) : Int) ((R1.2 : Nat) : Int) ((R2.2 : Nat) : Int) pl nl cl pt j ct po no co ((R6.2 : Nat) : Int) ((R7.2 : Nat) : Int) ((R8.2 : Nat) : Int) (sgn R9.2) HD8.out.r ?_ ?_ ?_); rfl; rfl)
        (try simp only [Exit.inBlock, Exit.then])
        refine bodyPost_ret (v := .tuple #[.agg #[.int .u8 ((R0.2 : Nat) : Int), .int .u32 ((R1.2 : Nat) : Int), .int .u8 ((R2.2 : Nat) : Int), .slice pl nl cl, .slice pt j ct, .slice po no co, .int .u8 ((R6.2 : Nat) : Int), .int .u8 ((R7.2 : Nat) : Int), .int .u8 ((R8.2 : Nat) : Int), .int .i64 (sgn R9.2)], .int .i64 0]) ?_ rfl HG.out
        exact results_pg rfl _ _ R _ _ rfl rfl HRF.out rfl
      · have hlt' : ¬ (j : Int) < nc := by omega
        obtain ⟨pt, ct, hv, htl, htp⟩ := SlG.of_own (d := tk0) tkc_len (by decide) HOj.out
        subst hv
        have HTl := Lib.hid htl
        have HFt : Hid (Far (R + 2) pt) := Lib.hid fun a ha => by have := HBj.out a.block (by rw [ha]; rfl); have := HYS.out; omega
        have HLl6 := Lib.hid (HLl5.out.turn HCj.out.size fun _ a ha hlt => HCj.out.block a.block hlt (by have := HFl.out a ha; omega))
        have hmlt := manyR_len (f := tkR) S1 j
        have HML := Lib.hid hmlt
        have HFN := Lib.hid hfin
        clear htl htp hmlt hfin HLl5 HOj HCj HBj
        generalize manyR tkR j S1 = Mj at *
        obtain ⟨S4, Lt⟩ := Mj
        dsimp only at HDj HTl HML HFN x1
        have HD6 := Lib.hid HDj.out
        clear HDj
        have hn := rdlines_any HD6.out.z
        obtain ⟨R5, hR5⟩ : ∃ R, rlistR lineR 3 S4 = R := ⟨_, rfl⟩
        rw [hR5] at hn
        have HR5 := Lib.hid hR5
        have HY6 := Lib.hid (block_lt HD6.out.y)
        clear hR5
        go_wp2_with fail
        refine hn.mono ?_
        rintro e y5 ⟨po, no, co, Lo, rfl, hl, hfar, hno, hz, hc, heq⟩
        have HFF : Hid (Far (R + 2) pl ∧ Far (R + 2) pt ∧ Far (R + 2) po) := Lib.hid ⟨HFl.out, HFt.out, fun a ha => by have := hfar a ha; have := HY6.out; omega⟩
        have HPb := Lib.hid (PgM.mk (fq_low HFl.out HLl6.out hc) (fq_low HFt.out HTl.out hc) hl)
        have HDb := Lib.hid (HD6.out.low hz hc)
        have HNo := Lib.hid hno
        have HEo := Lib.hid heq
        clear hz hc hn hfar hno heq hl HY6 x1
        obtain ⟨cy, cf⟩ := HDb.out.cy (j := 5) rfl
        go_upto_region 18 with (fail)
        clear cy cf
        have hd := HDb.out.put 5 (.slice po no co)
        simp only [List.setIfInBounds_toArray, List.set_cons_zero, List.set_cons_succ] at hd
        have HP6 := Lib.hid (pq_put HPb.out HFF.out 5 (.slice po no co))
        generalize y5.setCell ⟨R + 2, 5, none⟩ (.slice po no co) = z5 at *
        clear HD6
        have HD6 := Lib.hid hd
        clear hd HDb HPb HLl6 HTl
        obtain ⟨R6, hR6⟩ : ∃ R, numR R5.1 1 = R := ⟨_, rfl⟩
        have hn := pgnum_any HD6.out.z 1 (by omega)
        have hf := byte_lt HD6.out.z
        rw [hR6] at hn hf
        have hx6 : IntKind.u8.wrap ((R6.2 : Nat) : Int) = (R6.2 : Nat) := by simp [IntKind.wrap, IntKind.bits, IntKind.signed]; omega
        have HFT6 := Lib.hid hf
        have HR6 := Lib.hid hR6
        clear hf hR6
        go_wp2_with fail
        refine hn.mono ?_
        rintro e y6 ⟨rfl, hz, hc⟩
        have HDb := Lib.hid (HD6.out.low hz hc)
        have HPb := Lib.hid (pq_low HP6.out HFF.out hc)
        clear hz hc hn
        obtain ⟨cy, cf⟩ := HDb.out.cy (j := 6) rfl
        go_upto_region 19 with (fail)
        clear cy cf
        have hd := HDb.out.put 6 (.int .u8 ((R6.2 : Nat) : Int))
        simp only [List.setIfInBounds_toArray, List.set_cons_zero, List.set_cons_succ] at hd
        have HP7 := Lib.hid (pq_put HPb.out HFF.out 6 (.int .u8 ((R6.2 : Nat) : Int)))
        generalize y6.setCell ⟨R + 2, 6, none⟩ (.int .u8 ((R6.2 : Nat) : Int)) = z6 at *
        have HD7 := Lib.hid hd
        clear hd HDb HD6 HPb HP6
        obtain ⟨R7, hR7⟩ : ∃ R, numR R6.1 1 = R := ⟨_, rfl⟩
        have hn := pgnum_any HD7.out.z 1 (by omega)
        have hf := byte_lt HD7.out.z
        rw [hR7] at hn hf
        have hx7 : IntKind.u8.wrap ((R7.2 : Nat) : Int) = (R7.2 : Nat) := by simp [IntKind.wrap, IntKind.bits, IntKind.signed]; omega
        have HFT7 := Lib.hid hf
        have HR7 := Lib.hid hR7
        clear hf hR7
        go_wp2_with fail
        refine hn.mono ?_
        rintro e y7 ⟨rfl, hz, hc⟩
        have HDb := Lib.hid (HD7.out.low hz hc)
        have HPb := Lib.hid (pq_low HP7.out HFF.out hc)
        clear hz hc hn
        obtain ⟨cy, cf⟩ := HDb.out.cy (j := 7) rfl
        go_upto_region 20 with (fail)
        clear cy cf
        have hd := HDb.out.put 7 (.int .u8 ((R7.2 : Nat) : Int))
        simp only [List.setIfInBounds_toArray, List.set_cons_zero, List.set_cons_succ] at hd
        have HP8 := Lib.hid (pq_put HPb.out HFF.out 7 (.int .u8 ((R7.2 : Nat) : Int)))
        generalize y7.setCell ⟨R + 2, 7, none⟩ (.int .u8 ((R7.2 : Nat) : Int)) = z7 at *
        have HD8 := Lib.hid hd
        clear hd HDb HD7 HPb HP7
        obtain ⟨R8, hR8⟩ : ∃ R, numR R7.1 1 = R := ⟨_, rfl⟩
        have hn := pgnum_any HD8.out.z 1 (by omega)
        have hf := byte_lt HD8.out.z
        rw [hR8] at hn hf
        have hx8 : IntKind.u8.wrap ((R8.2 : Nat) : Int) = (R8.2 : Nat) := by simp [IntKind.wrap, IntKind.bits, IntKind.signed]; omega
        have HFT8 := Lib.hid hf
        have HR8 := Lib.hid hR8
        clear hf hR8
        go_wp2_with fail
        refine hn.mono ?_
        rintro e y8 ⟨rfl, hz, hc⟩
        have HDb := Lib.hid (HD8.out.low hz hc)
        have HPb := Lib.hid (pq_low HP8.out HFF.out hc)
        clear hz hc hn
        obtain ⟨cy, cf⟩ := HDb.out.cy (j := 8) rfl
        go_upto_region 21 with (fail)
        clear cy cf
        have hd := HDb.out.put 8 (.int .u8 ((R8.2 : Nat) : Int))
        simp only [List.setIfInBounds_toArray, List.set_cons_zero, List.set_cons_succ] at hd
        have HP9 := Lib.hid (pq_put HPb.out HFF.out 8 (.int .u8 ((R8.2 : Nat) : Int)))
        generalize y8.setCell ⟨R + 2, 8, none⟩ (.int .u8 ((R8.2 : Nat) : Int)) = z8 at *
        have HD9 := Lib.hid hd
        clear hd HDb HD8 HPb HP8
        obtain ⟨R9, hR9⟩ : ∃ Q, numR R8.1 8 = Q := ⟨_, rfl⟩
        have hn := pgint_any HD9.out.z
        have hf := num8_lt HD9.out.z
        rw [hR9] at hn hf
        rw [sgn_wrap _ hf] at hn
        have HR9 := Lib.hid hR9
        have HFT9 := Lib.hid hf
        clear hf hR9
        go_wp2_with fail
        refine hn.mono ?_
        rintro e y9 ⟨rfl, hz, hc⟩
        have HDb := Lib.hid (HD9.out.low hz hc)
        have HPb := Lib.hid (pq_low HP9.out HFF.out hc)
        clear hz hc hn
        obtain ⟨cy, cf⟩ := HDb.out.cy (j := 9) rfl
        go_upto_region 22 with (fail)
        clear cy cf
        have hd := HDb.out.put 9 (.int .i64 (sgn R9.2))
        simp only [List.setIfInBounds_toArray, List.set_cons_zero, List.set_cons_succ] at hd
        have HPf := Lib.hid (pq_put HPb.out HFF.out 9 (.int .i64 (sgn R9.2)))
        generalize y9.setCell ⟨R + 2, 9, none⟩ (.int .i64 (sgn R9.2)) = z9 at *
        have HDf := Lib.hid hd
        clear hd HDb HD9 HPb HP9
        have x1 := HDf.out.z.err
        by_cases he9 : R9.1.1 = 0
        case neg =>
          have d9 : (R9.1.1 != 0) = true := by simpa using he9
          have hq9 : Hid (R9.1.1 ≠ 0) := Lib.hid he9
          obtain ⟨pr, nr, cr, hbx, hpr⟩ := HDf.out.z.box
          have HDd := Lib.hid (HDf.out.keep (show Below z9.heap.size z9 z9.drew from (Below.refl _ _).drew))
          have HBX : Hid (z9.drew.heap[R + 1]? = some (.cells #[.slice pr nr cr, .int .i64 R9.1.1] 105 (0, 0))) := Lib.hid hbx
          clear he9 hbx hpr
          have HRF := Lib.hid (setRow_heap z9.drew R _ zc _ _ HDd.out.r)
          have HG : Hid (GivesD W (rdecP Bs) (.returned (.tuple #[.agg zc, .int .i64 R9.1.1])) (z9.drew.setRow R zc)) := Lib.hid (by
            have hp : rdecP Bs = (R9.1.1, noP) := by
              unfold rdecP
              rw [refR_eq HR0.out HR1.out HR2.out HR3.out HRc.out HFN.out.1 HR5.out HR6.out HR7.out HR8.out HR9.out]
              dsimp only
              rw [if_pos hq9.out]
            rw [hp]
            exact ⟨none, 0, none, 0, none, 0, rfl, ⟨SlG.empty _, SlG.empty _, SlG.empty _⟩, below_setRow HDd.out.below HDd.out.base zc⟩)
          go_wp2_with fail
          refine wp_region_held_drew (S := fun w' => Hid (w'.heap[R + 1]? = some (.cells #[.slice pr nr cr, .int .i64 R9.1.1] 105 (0, 0)))) (by kernel_rfl) HBX (fun hHeld => ?_)
          refine wpAnyH_take (i := 0) (oi := ⟨some 87, _, _, _, _, _⟩) (v := .agg zc) rfl (by kernel_rfl) (by kernel_rfl) (by kernel_rfl) (fun _ _ _ h => h) (Or.inl ⟨by rfl, fun w' hw' => ?_⟩) (by assumption) ?_
          · clear hHeld
            go_simp
          simp only [Act.put, List.setIfInBounds_toArray, List.set_cons_zero, List.set_cons_succ]
          refine wpAnyH_take (i := 1) (oi := ⟨some 88, _, _, _, _, _⟩) (v := .pointer (some ⟨R + 1, 0, none⟩)) rfl (by kernel_rfl) (by kernel_rfl) (by kernel_rfl) (fun _ _ _ h => h) (Or.inl ⟨by rfl, fun w' hw' => ?_⟩) (by assumption) ?_
          · clear hHeld
            go_simp
          simp only [Act.put, List.setIfInBounds_toArray, List.set_cons_zero, List.set_cons_succ]
          refine wpAnyH_take (i := 2) (oi := ⟨some 89, _, _, _, _, _⟩) (v := .pointer (some ⟨R + 1, 0, none⟩)) rfl (by kernel_rfl) (by kernel_rfl) (by kernel_rfl) (fun _ _ _ h => h) (Or.inl ⟨by rfl, fun w' hw' => ?_⟩) (by assumption) ?_
          · clear hHeld
            go_simp
          simp only [Act.put, List.setIfInBounds_toArray, List.set_cons_zero, List.set_cons_succ]
          refine wpAnyH_take (i := 3) (oi := ⟨some 90, _, _, _, _, _⟩) (v := .pointer (some ⟨R + 1, 1, none⟩)) rfl (by kernel_rfl) (by kernel_rfl) (by kernel_rfl) (fun _ _ _ h => h) (Or.inl ⟨by rfl, fun w' hw' => ?_⟩) (by assumption) ?_
          · clear hHeld
            go_simp
          simp only [Act.put, List.setIfInBounds_toArray, List.set_cons_zero, List.set_cons_succ]
          refine wpAnyH_take (i := 4) (oi := ⟨some 91, _, _, _, _, _⟩) (v := .int .i64 R9.1.1) rfl (by kernel_rfl) (by kernel_rfl) (by kernel_rfl) (fun _ _ _ h => h) (Or.inl ⟨by rfl, fun w' hw' => ?_⟩) (by assumption) ?_
          · have g1 := block_cell (j := 1) (v := .int .i64 R9.1.1) hw'.out rfl
            clear hHeld
            go_simp
          simp only [Act.put, List.setIfInBounds_toArray, List.set_cons_zero, List.set_cons_succ]
          generalize z9.drew = Wd at *
          refine wpAnyH_ready (rs := [5]) (by kernel_rfl) (by simp) (AllReadyH.cons rfl (fun K hK => ?_) AllReadyH.nil)
          rw [if_pos (by rfl)]
          refine wp_store_row 28 _ _ rfl R zc rfl rfl 28 _ HDd.out.r (by kernel_rfl) rfl (by kernel_rfl) ?_
          have HB2 : Hid ((Wd.setRow R zc).heap[R + 1]? = some (.cells #[.slice pr nr cr, .int .i64 R9.1.1] 105 (0, 0))) := Lib.hid ((setRow_other _ _ _ _ (by omega)).trans HBX.out)
          refine hK.out _ _ HB2 (fun hHeld2 => ?_)
          clear hK K hHeld
          have hHeld := hHeld2
          clear hHeld2
          (try simp only [Act.put, List.setIfInBounds_toArray, List.set_cons_zero, List.set_cons_succ])
          refine wpAnyH_take (i := 6) (oi := ⟨some 3, _, _, _, _, _⟩) (v := .int .i64 R9.1.1) rfl (by kernel_rfl) (by kernel_rfl) (by kernel_rfl) (fun _ _ _ h => h) (Or.inl ⟨by rfl, fun w' hw' => ?_⟩) (by assumption) ?_
          · clear hHeld
            go_simp
          simp only [Act.put, List.setIfInBounds_toArray, List.set_cons_zero, List.set_cons_succ]
          refine wpAnyH_done (by kernel_rfl) ?_ _
          clear hHeld
          (try simp only [Exit.inBlock, Exit.then])
          go_wp2_with fail
          refine bodyPost_ret (v := .tuple #[.agg zc, .int .i64 R9.1.1]) ?_ rfl HG.out
          exact results_pg rfl _ _ R zc _ rfl rfl HRF.out rfl
        have d9 : (R9.1.1 != 0) = false := by simp [he9]
        obtain ⟨y3, y4', y5'⟩ := zero_back (R2 := R2) HRc.out HFN.out.1 HR5.out HR6.out HR7.out HR8.out HR9.out he9
        have hrefa := refR_eq HR0.out HR1.out HR2.out HR3.out HRc.out HFN.out.1 HR5.out HR6.out HR7.out HR8.out HR9.out
        rw [HFN.out.2 y4', ← HEl.out y3, ← HEo.out y5'] at hrefa
        have hpok := ref_ok HBY.out (by rw [hrefa]; exact he9)
        rw [hrefa] at hpok
        have HREF := Lib.hid hrefa
        have HPOK := Lib.hid hpok
        have HZ9 := Lib.hid he9
        clear hrefa hpok y3 y4' y5'
        obtain ⟨pr, nr, cr, hbx, hpr⟩ := HDf.out.z.box
        have hln := (hpr he9).1.len
        have HLN := Lib.hid hln
        rw [he9] at hbx
        have b0 : z9.cell? ⟨R + 1, 0, none⟩ = some (.slice pr nr cr) := block_cell hbx rfl
        clear hbx hpr hln he9
        by_cases hnr : 0 < nr
        case pos =>
          have hd : (0 : Int) < nr := by omega
          have HNR := Lib.hid hnr
          clear hnr
          have HRF := Lib.hid (setRow_heap z9 R _ zc _ _ HDf.out.r)
          have HG : Hid (GivesD W (rdecP Bs) (.returned (.tuple #[.agg zc, .int .i64 8])) (z9.setRow R zc)) := Lib.hid (by
            have hp : rdecP Bs = (8, noP) := by
              unfold rdecP
              rw [HREF.out]
              dsimp only
              rw [if_neg (fun h => h HZ9.out), if_pos (Or.inl (by rw [HLN.out]; exact HNR.out))]
            rw [hp]
            exact ⟨none, 0, none, 0, none, 0, rfl, ⟨SlG.empty _, SlG.empty _, SlG.empty _⟩, below_setRow HDf.out.below HDf.out.base zc⟩)
          go_wp2_with ((with_reducible refine wpList_store_pg 0 0 0 none 0 0 none 0 0 none 0 0 0 0 0 0 HDf.out.r ?_ ?_ ?_); rfl; rfl)
          (try simp only [Exit.inBlock, Exit.then])
          refine bodyPost_ret (v := .tuple #[.agg zc, .int .i64 8]) ?_ rfl HG.out
          exact results_pg rfl _ _ R zc _ rfl rfl HRF.out rfl
        have hd : ¬ (0 : Int) < nr := by omega
        have HNR := Lib.hid hnr
        clear hnr
        have hgd := rgood_p 4 4 ((R0.2 : Nat) : Int) ((R1.2 : Nat) : Int) ((R2.2 : Nat) : Int) pl nl cl pt j ct po no co ((R6.2 : Nat) : Int) ((R7.2 : Nat) : Int) ((R8.2 : Nat) : Int) (sgn R9.2) Ll Lt Lo z9 HPf.out HPOK.out ⟨by have := HNl.out; omega, by have := hle; omega, by have := HNo.out; omega⟩
        obtain ⟨a0, a1, a2, a3, a4, a5, a6, a7, a8, a9⟩ := prog_cells _ _ _ _ _ _ _ _ _ _ _ _ _ _ _ _ HDf.out.y
        go_wp2_with fail
        refine hgd.mono ?_
        rintro e x8 ⟨rfl, hb8⟩
        have HD8 := Lib.hid (HDf.out.keep hb8)
        have HP8 := Lib.hid (HPf.out.later hb8)
        clear hb8 hgd a0 a1 a2 a3 a4 a5 a6 a7 a8 a9
        cases hg : goodP 4 4 (⟨((R0.2 : Nat) : Int), ((R1.2 : Nat) : Int), ((R2.2 : Nat) : Int), Ll, Lt, Lo, ((R6.2 : Nat) : Int), ((R7.2 : Nat) : Int), ((R8.2 : Nat) : Int), sgn R9.2⟩ : Pg)
        case false =>
          have HRF := Lib.hid (setRow_heap x8 R _ zc _ _ HD8.out.r)
          have HG : Hid (GivesD W (rdecP Bs) (.returned (.tuple #[.agg zc, .int .i64 8])) (x8.setRow R zc)) := Lib.hid (by
            have hp : rdecP Bs = (8, noP) := by
              unfold rdecP
              rw [HREF.out]
              dsimp only
              rw [if_neg (fun h => h HZ9.out), if_pos (Or.inr hg)]
            rw [hp]
            exact ⟨none, 0, none, 0, none, 0, rfl, ⟨SlG.empty _, SlG.empty _, SlG.empty _⟩, below_setRow HD8.out.below HD8.out.base zc⟩)
          go_wp2_with ((with_reducible refine wpList_store_pg 0 0 0 none 0 0 none 0 0 none 0 0 0 0 0 0 HD8.out.r ?_ ?_ ?_); rfl; rfl)
          (try simp only [Exit.inBlock, Exit.then])
          refine bodyPost_ret (v := .tuple #[.agg zc, .int .i64 8]) ?_ rfl HG.out
          exact results_pg rfl _ _ R zc _ rfl rfl HRF.out rfl
        obtain ⟨a0, a1, a2, a3, a4, a5, a6, a7, a8, a9⟩ := prog_cells _ _ _ _ _ _ _ _ _ _ _ _ _ _ _ _ HD8.out.y
        have HLLn : Hid (Ll.length = nl ∧ Lt.length = j ∧ Lo.length = no) := Lib.hid ⟨HP8.out.l.len, HP8.out.t.len, HP8.out.o.len⟩
        obtain ⟨C, hC⟩ : ∃ C : Array Value, #[.int .u8 ((R0.2 : Nat) : Int), .int .u32 ((R1.2 : Nat) : Int), .int .u8 ((R2.2 : Nat) : Int), .slice pl nl cl, .slice pt j ct, .slice po no co, .int .u8 ((R6.2 : Nat) : Int), .int .u8 ((R7.2 : Nat) : Int), .int .u8 ((R8.2 : Nat) : Int), .int .i64 (sgn R9.2)] = C := ⟨_, rfl⟩
        have HRF := Lib.hid (setRow_heap x8 R _ C _ _ HD8.out.r)
        have HG : Hid (GivesD W (rdecP Bs) (.returned (.tuple #[.agg C, .int .i64 0])) (x8.setRow R C)) := Lib.hid (by
          have hp : rdecP Bs = (0, (⟨((R0.2 : Nat) : Int), ((R1.2 : Nat) : Int), ((R2.2 : Nat) : Int), Ll, Lt, Lo, ((R6.2 : Nat) : Int), ((R7.2 : Nat) : Int), ((R8.2 : Nat) : Int), sgn R9.2⟩ : Pg)) := by
            unfold rdecP
            rw [HREF.out]
            dsimp only
            rw [if_neg (fun h => h HZ9.out), if_neg (fun h => h.elim (fun h => by rw [HLN.out] at h; exact HNR.out h) (fun h => by rw [hg] at h; exact absurd h (by decide)))]
          rw [hp]
          obtain ⟨q1, q2, q3⟩ := HLLn.out
          have hfar : ∀ q : Option Addr, Far (R + 2) q → ∀ a, q = some a → a.block ≠ R := fun q h a ha => by have := h a ha; omega
          refine ⟨pl, cl, pt, ct, po, co, by rw [← hC, q1, q2, q3], ?_, below_setRow HD8.out.below HD8.out.base C⟩
          rw [q1, q2, q3]
          exact ⟨HP8.out.l.turn (by simp [World.setRow]) fun _ a ha _ => setRow_other _ _ _ _ (hfar _ HFF.out.1 a ha), HP8.out.t.turn (by simp [World.setRow]) fun _ a ha _ => setRow_other _ _ _ _ (hfar _ HFF.out.2.1 a ha), HP8.out.o.turn (by simp [World.setRow]) fun _ a ha _ => setRow_other _ _ _ _ (hfar _ HFF.out.2.2 a ha)⟩)
        subst hC
        clear hg
        go_wp2_with ((with_reducible refine wpList_store_pg ((R0.2 : Nat) : Int) ((R1.2 : Nat) : Int) ((R2.2 : Nat) : Int) pl nl cl pt j ct po no co ((R6.2 : Nat) : Int) ((R7.2 : Nat) : Int) ((R8.2 : Nat) : Int) (sgn R9.2) HD8.out.r ?_ ?_ ?_); rfl; rfl)
        (try simp only [Exit.inBlock, Exit.then])
        refine bodyPost_ret (v := .tuple #[.agg #[.int .u8 ((R0.2 : Nat) : Int), .int .u32 ((R1.2 : Nat) : Int), .int .u8 ((R2.2 : Nat) : Int), .slice pl nl cl, .slice pt j ct, .slice po no co, .int .u8 ((R6.2 : Nat) : Int), .int .u8 ((R7.2 : Nat) : Int), .int .u8 ((R8.2 : Nat) : Int), .int .i64 (sgn R9.2)], .int .i64 0]) ?_ rfl HG.out
        exact results_pg rfl _ _ R _ _ rfl rfl HRF.out rfl
    obtain ⟨hltj, he⟩ := hgo
    have hltj' : (j : Int) < nc := by omega
    have de : ((manyR tkR j S1).1.1 == 0) = true := by simpa using he
    obtain ⟨X, hX⟩ : ∃ n, wr.heap.size = n := ⟨_, rfl⟩
    obtain ⟨w2, hw2, hx2, hb2⟩ : ∃ w2, (wr.alloc (.cells #[.int .u32 0, .int .u8 0, .int .u8 0, .int .i64 0] 85)).setRow X #[.int .u32 0, .int .u8 0, .int .u8 0, .int .i64 0] = w2 ∧ w2.heap[X]? = some (.cells #[.int .u32 0, .int .u8 0, .int .u8 0, .int .i64 0] 85 (0, 0)) ∧ Below wr.heap.size wr w2 := ⟨_, rfl, by rw [← hX]; exact setRow_heap _ _ _ _ _ _ (alloc_block wr _), below_setRow ((Below.refl _ _).alloc (Nat.le_refl _) _) (by omega) _⟩
    have hx1 := alloc_block wr (.cells #[.int .u32 0, .int .u8 0, .int .u8 0, .int .i64 0] 85)
    rw [hX] at hx1
    have HX1 := Lib.hid hx1
    have HW2 := Lib.hid hw2
    have HXE := Lib.hid hX
    have hstep : manyR tkR (j + 1) S1 = ((tkR (manyR tkR j S1).1).1, (manyR tkR j S1).2 ++ [(tkR (manyR tkR j S1).1).2]) := rfl
    have HST := Lib.hid hstep
    have hml := manyR_len (f := tkR) S1 j
    have hsb := HCj.out.size
    have hys := HYS.out
    have HT0 : Hid (Tq W y4 w2 R X p (manyR tkR j S1).1 #[.int .u8 ((R0.2 : Nat) : Int), .int .u32 ((R1.2 : Nat) : Int), .int .u8 ((R2.2 : Nat) : Int), .slice pl nl cl, v, .slice none 0 0, .int .u8 0, .int .u8 0, .int .u8 0, .int .i64 0] #[.int .u32 0, .int .u8 0, .int .u8 0, .int .i64 0] v j (manyR tkR j S1).2) := Lib.hid ⟨HDj.out.keep hb2, hx2, row_keep HOj.out (Chg.of_below (S := fun _ => False) hb2) fun _ _ h => h, HCj.out.trans (Chg.of_below (S := fun k => k = R + 1 ∨ k = R + 2) hb2) fun _ _ h => h, ⟨by omega, by omega⟩, fun b hb => ⟨by have := HBj.out b hb; omega, by have := (HOj.out.lt b hb).2; omega⟩⟩
    have HNC : Hid (nc ≤ 12) := Lib.hid hle
    clear hx1 hx2 hw2 hX hb2 hstep he hsb hys HDj HOj HCj
    generalize manyR tkR j S1 = Mj at *
    obtain ⟨Sj, Lj⟩ := Mj
    dsimp only at HT0 HST hml de x1
    obtain ⟨Q0, hQ0⟩ : ∃ Q, numR Sj 4 = Q := ⟨_, rfl⟩
    have hn := pgnum_any HT0.out.d.z 4 (by omega)
    have hf := num4_lt HT0.out.d.z
    rw [hQ0] at hn hf
    have hx0 : IntKind.u32.wrap ((Q0.2 : Nat) : Int) = (Q0.2 : Nat) := by simp [IntKind.wrap, IntKind.bits, IntKind.signed]; omega
    have HQ0 := Lib.hid hQ0
    clear hf hQ0
    go_wp2_with ((try rw [HXE.out]); (with_reducible refine wpList_store_tk (B := X) (x0 := 0) (x1 := 0) (x2 := 0) (q := 0) HX1.out ?_ ?_ ?_); rfl; rfl; rw [HW2.out])
    refine hn.mono ?_
    rintro e v0 ⟨rfl, hz, hc⟩
    have HTb := Lib.hid (HT0.out.low hz hc)
    clear hz hc hn
    obtain ⟨cy, cf⟩ := HTb.out.cx (i := 0) rfl
    go_upto_region 13 with (fail)
    clear cy cf
    have hd := HTb.out.put 0 (.int .u32 ((Q0.2 : Nat) : Int))
    simp only [List.setIfInBounds_toArray, List.set_cons_zero, List.set_cons_succ] at hd
    generalize v0.setCell ⟨X, 0, none⟩ (.int .u32 ((Q0.2 : Nat) : Int)) = u0x at *
    have HT1 := Lib.hid hd
    clear hd HTb HT0
    obtain ⟨Q1, hQ1⟩ : ∃ Q, numR Q0.1 1 = Q := ⟨_, rfl⟩
    have hn := pgnum_any HT1.out.d.z 1 (by omega)
    have hf := byte_lt HT1.out.d.z
    rw [hQ1] at hn hf
    have hx1 : IntKind.u8.wrap ((Q1.2 : Nat) : Int) = (Q1.2 : Nat) := by simp [IntKind.wrap, IntKind.bits, IntKind.signed]; omega
    have HQ1 := Lib.hid hQ1
    clear hf hQ1
    go_wp2_with fail
    refine hn.mono ?_
    rintro e v1 ⟨rfl, hz, hc⟩
    have HTb := Lib.hid (HT1.out.low hz hc)
    clear hz hc hn
    obtain ⟨cy, cf⟩ := HTb.out.cx (i := 1) rfl
    go_upto_region 14 with (fail)
    clear cy cf
    have hd := HTb.out.put 1 (.int .u8 ((Q1.2 : Nat) : Int))
    simp only [List.setIfInBounds_toArray, List.set_cons_zero, List.set_cons_succ] at hd
    generalize v1.setCell ⟨X, 1, none⟩ (.int .u8 ((Q1.2 : Nat) : Int)) = u1x at *
    have HT2 := Lib.hid hd
    clear hd HTb HT1
    obtain ⟨Q2, hQ2⟩ : ∃ Q, numR Q1.1 1 = Q := ⟨_, rfl⟩
    have hn := pgnum_any HT2.out.d.z 1 (by omega)
    have hf := byte_lt HT2.out.d.z
    rw [hQ2] at hn hf
    have hx2 : IntKind.u8.wrap ((Q2.2 : Nat) : Int) = (Q2.2 : Nat) := by simp [IntKind.wrap, IntKind.bits, IntKind.signed]; omega
    have HQ2 := Lib.hid hQ2
    clear hf hQ2
    go_wp2_with fail
    refine hn.mono ?_
    rintro e v2 ⟨rfl, hz, hc⟩
    have HTb := Lib.hid (HT2.out.low hz hc)
    clear hz hc hn
    obtain ⟨cy, cf⟩ := HTb.out.cx (i := 2) rfl
    go_upto_region 15 with (fail)
    clear cy cf
    have hd := HTb.out.put 2 (.int .u8 ((Q2.2 : Nat) : Int))
    simp only [List.setIfInBounds_toArray, List.set_cons_zero, List.set_cons_succ] at hd
    generalize v2.setCell ⟨X, 2, none⟩ (.int .u8 ((Q2.2 : Nat) : Int)) = u2x at *
    have HT3 := Lib.hid hd
    clear hd HTb HT2
    obtain ⟨Q3, hQ3⟩ : ∃ Q, numR Q2.1 8 = Q := ⟨_, rfl⟩
    have hn := pgint_any HT3.out.d.z
    have hf := num8_lt HT3.out.d.z
    rw [hQ3] at hn hf
    rw [sgn_wrap _ hf] at hn
    have HQ3 := Lib.hid hQ3
    clear hf hQ3
    go_wp2_with fail
    refine hn.mono ?_
    rintro e v3 ⟨rfl, hz, hc⟩
    have HTb := Lib.hid (HT3.out.low hz hc)
    clear hz hc hn
    obtain ⟨cy, cf⟩ := HTb.out.cx (i := 3) rfl
    go_upto_region 16 with (fail)
    clear cy cf
    have hd := HTb.out.put 3 (.int .i64 (sgn Q3.2))
    simp only [List.setIfInBounds_toArray, List.set_cons_zero, List.set_cons_succ] at hd
    generalize v3.setCell ⟨X, 3, none⟩ (.int .i64 (sgn Q3.2)) = w6 at *
    obtain ⟨x, hx⟩ : ∃ x : Tk, (((Q0.2 : Nat) : Int), ((Q1.2 : Nat) : Int), ((Q2.2 : Nat) : Int), sgn Q3.2) = x := ⟨_, rfl⟩
    have HTR : Hid (tkR Sj = (Q3.1, x)) := Lib.hid (by unfold tkR; rw [HQ0.out, HQ1.out, HQ2.out, HQ3.out, hx])
    have e0 : ((Q0.2 : Nat) : Int) = x.1 := by rw [← hx]
    have e1 : ((Q1.2 : Nat) : Int) = x.2.1 := by rw [← hx]
    have e2 : ((Q2.2 : Nat) : Int) = x.2.2.1 := by rw [← hx]
    have e3 : sgn Q3.2 = x.2.2.2 := by rw [← hx]
    rw [e0, e1, e2, e3] at hd
    have HT6 := Lib.hid hd
    clear hx e0 e1 e2 e3 hd HTb HT3
    obtain ⟨c0, _⟩ := HT6.out.cx (i := 0) rfl
    obtain ⟨c1, _⟩ := HT6.out.cx (i := 1) rfl
    obtain ⟨c2, _⟩ := HT6.out.cx (i := 2) rfl
    obtain ⟨c3, _⟩ := HT6.out.cx (i := 3) rfl
    obtain ⟨c4, _⟩ := HT6.out.d.cy (j := 4) rfl
    have hba : Below w6.heap.size w6 (w6.alloc (.cells #[.int .u32 x.1, .int .u8 x.2.1, .int .u8 x.2.2.1, .int .i64 x.2.2.2] 85)) := (Below.refl _ _).alloc (Nat.le_refl _) _
    have HD7 := Lib.hid (HT6.out.d.keep hba)
    have HO7 := Lib.hid (HT6.out.o.alloc (.cells #[.int .u32 x.1, .int .u8 x.2.1, .int .u8 x.2.2.1, .int .i64 x.2.2.2] 85))
    have HC7 := Lib.hid (HT6.out.c.trans (Chg.of_below (S := fun k => k = R + 1 ∨ k = R + 2) hba) fun _ _ h => h)
    have HXO := Lib.hid HT6.out.xo
    have HXR := Lib.hid HT6.out.xr
    have HFAR : Hid (∀ w8, Chg (fun b => v.ownBlock = some b) (w6.alloc (.cells #[.int .u32 x.1, .int .u8 x.2.1, .int .u8 x.2.2.1, .int .i64 x.2.2.2] 85)) w8 → w8.cell? ⟨R + 2, 4, none⟩ = some v ∧ w8.frozen? ⟨R + 2, 4, none⟩ = false) := Lib.hid fun w8 g => (HD7.out.far g fun k hk => (HXO.out k hk).1).cy rfl
    have hj12 : j ≤ 12 := by have := HNC.out; omega
    clear hba HT6
    go_wp2_with (at_builtin; refine wpList_append_vals (k := 4) (by decide) Tryd.underlying26 info_tk rfl (by omega) rfl _ _ rfl v j (flatG tkc Lj) rfl HO7.out (some ⟨w6.heap.size, 0, none⟩) 1 1 (flatG tkc [x]) rfl rfl (fun h => by cases h) (tk_news w6 x) (flatG_all tkc_one _) (by omega) ?_; intro p8 c8 w8 g1 g2 g3; obtain ⟨cy8, cf8⟩ := HFAR.out w8 g2)
    have hbase : ∀ b, (Value.slice p8 (j + 1) c8).ownBlock = some b → y4.heap.size ≤ b := fun b hb => by
      rcases g3 b hb with hk | hk
      · exact HBj.out b hk
      · have := HC7.out.size; have := HXR.out; omega
    rw [← flatG_append] at g1
    have hd8 := (HD7.out.far g2 fun k hk => (HXO.out k hk).1).put 4 (.slice p8 (j + 1) c8)
    simp only [List.setIfInBounds_toArray, List.set_cons_zero, List.set_cons_succ] at hd8
    have hs8 : Chg (fun k => k = R + 2) w8 (w8.setCell ⟨R + 2, 4, none⟩ (.slice p8 (j + 1) c8)) := (Chg.refl _ _).setCell ⟨R + 2, 4, none⟩ _ fun _ => rfl
    have HD8 := Lib.hid hd8
    have HO8 := Lib.hid (row_keep g1 hs8 fun b hb hk => by have := hbase b hb; have := HYS.out; omega)
    have HC8 := Lib.hid ((HC7.out.trans g2 fun b hb1 hb2 => by have := HBj.out b hb2; omega).trans hs8 fun k _ hk => .inr hk)
    have HBS := Lib.hid hbase
    clear g1 g2 g3 hbase c0 c1 c2 c3 c4 cy8 cf8 hd8 hs8
    go_roundw
    case rel => exact ⟨j + 1, .slice p8 (j + 1) c8, by omega, by go_num, Lib.hid (by rw [HST.out, HTR.out]; exact HD8.out), Lib.hid (by rw [HST.out, HTR.out]; exact HO8.out), HC8, HBS⟩
    case measure => simp [Go.RowKit.intOf]; omega
end Go.Proofs.YtdcanppiiikjgaaDoor
