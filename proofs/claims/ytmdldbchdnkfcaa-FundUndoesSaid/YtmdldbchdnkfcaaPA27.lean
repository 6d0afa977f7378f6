import Derived.Test.YtmdldbchdnkfcaaPA20
import Derived.Test.YtmdldbchdnkfcaaPA09
namespace Go.Proofs.Ytmdldbchdnkfcaa
open Go.RowKit Go.ChangeShapes Go.WideShapes
set_option linter.unusedVariables false
set_option linter.unusedSimpArgs false
set_option maxRecDepth 10000
theorem g_get_at : ∀ {M : List FW} (h : Up (keysG M)) {j : Nat} (hj : j < M.length), getG M (M.getD j fw0).1 = some (M.getD j fw0).2
 | r :: M, h, 0, _ => by
  show getG (r :: M) r.1 = some r.2
  rw [g_get_cons, if_pos rfl]
 | r :: M, h, j + 1, hj => by
  obtain ⟨h1, h2⟩ := List.pairwise_cons.1 h
  have ih := g_get_at h2 (j := j) (by simpa using hj)
  show getG (r :: M) (M.getD j fw0).1 = some (M.getD j fw0).2
  rw [g_get_cons, if_neg, ih]
  intro e
  have hm : (M.getD j fw0).1 ∈ keysG M := (g_get_isSome _ M).1 (by rw [ih]; rfl)
  have hl := h1 _ hm
  rw [← e, less_irrefl] at hl
  cases hl
theorem keysG_at {M : List FW} {j : Nat} (hj : j < M.length) : (keysG M).getD j (0, 0, 0) = (M.getD j fw0).1 := by
 unfold keysG
 rw [List.getD, List.getD, List.getElem?_map, List.getElem?_eq_getElem hj]
 rfl
theorem cell_b6 {w w' : World} {a : Addr} {v : Value} (h : w.cell? a = some v) (hb : Below w.heap.size w w') : w'.cell? a = some v := (hb.cell (World.block_lt_of_cell? _ _ h)).trans h
structure FuObj (p : Value) (M : List FW) (Fu : World → Prop) : Prop where
 later : ∀ w w', Fu w → Below w.heap.size w w' → Fu w'
 get : ∀ w k, Fu w → Kok k → Calls Try.prog 21 #[p, .agg #[.int .u8 k.1, .int .u8 k.2.1, .int .u8 k.2.2]] w fun e w' => e = .returned (.tuple #[.agg (fcs ((getG M k).getD fz)), .bool (getG M k).isSome]) ∧ Below w.heap.size w w'
 keys : ∀ w, Fu w → Calls Try.prog 22 #[p] w fun e w' => ∃ r c, e = .returned (.slice r (keysG M).length c) ∧ KL w' r (keysG M).length c (keysG M) ∧ Below w.heap.size w w'
set_option maxHeartbeats 4000000 in
theorem rows_same (v : Option Addr) (M : List FW) (Fu : World → Prop) (h : FuObj (.pointer v) M Fu) (hup : Up (keysG M)) (hok : ∀ r ∈ M, Kok r.1) (p : Option Addr) (n c : Nat) (W : World) (hF : Fu W) (hL : FWL W p n c M) (hn : n ≤ 10000) :
 Calls Try.prog 28 #[.pointer v, .slice p n c] W fun e w' => e = .returned (.bool true) ∧ Below W.heap.size W w' := by
 have HH := Lib.hid h
 have HFu := Lib.hid fun w' (hb : Below W.heap.size W w') => h.later _ _ hF hb
 have HL := Lib.hid fun w' (hb : Below W.heap.size W w') => hL.later hb
 have hlen := hL.len
 have hcap := hL.cap
 have hmax := hL.max
 unfold maxLen at hmax
 have hkl : (keysG M).length = n := (g_len_keys M).trans hlen
 have HGA := Lib.hid fun j (hj : j < n) => g_get_at hup (j := j) (by rw [hlen]; exact hj)
 have HKA := Lib.hid fun j (hj : j < n) => keysG_at (M := M) (j := j) (by rw [hlen]; exact hj)
 have HOK := Lib.hid fun j (hj : j < n) => hok (M.getD j fw0) (by rw [List.getD, List.getElem?_eq_getElem (by rw [hlen]; exact hj)]; exact List.getElem_mem _)
 have hks := h.keys W hF
 rw [hkl] at hks
 have HKS := Lib.hid hks
 clear hks hL hF hlen hkl hup hok h
 go_enter Try.func28, Try.ntmps28
 go_wp2_with fail
 refine HKS.out.mono ?_
 rintro e1 w1 ⟨r, d, rfl, hk1, hb1⟩
 have HK1 := Lib.hid hk1
 have HB1 := Lib.hid hb1
 have hkc := hk1.cap
 have hkm := hk1.max
 unfold maxLen at hkm
 clear hk1 hb1 HKS
 go_wp2_with fail
 obtain ⟨W1, hW1⟩ : ∃ W1, W1 = w1 := ⟨_, rfl⟩
 subst hW1
 go_loopw [6] (fun i wr => ∃ j : Nat, j ≤ n ∧ i = .int .i64 (j : Int) ∧ Hid (Below W1.heap.size W1 wr)) (fun i _ => n - (Go.RowKit.intOf i).toNat)
 case atStart => exact ⟨0, Nat.zero_le _, rfl, Lib.hid (Below.refl _ _)⟩
 case round =>
  obtain ⟨j, hj, rfl, HB⟩ := hrel
  have HBW := Lib.hid (HB1.out.trans (HB.out.mono HB1.out.size))
  by_cases hlt : j < n
  · have t1 : (j : Int) < n := by omega
    obtain ⟨b, off, rfl, c0, c1, c2, c3, c4, c5, c6, c7, c8⟩ := frow_cells (HL.out _ HBW.out) hlt
    have hga := HGA.out j hlt
    have hka := HKA.out j hlt
    have hko := HOK.out j hlt
    have hget := fun w (hb : Below W.heap.size W w) => HH.out.get w (M.getD j fw0).1 (HFu.out w hb) hko
    rw [hga] at hget
    simp only [Option.getD_some, Option.isSome_some] at hget
    obtain ⟨kb, koff, rfl, hkc3⟩ := HK1.out.cell (by omega)
    obtain ⟨k0, k1, k2⟩ := hkc3 j hlt
    rw [hka] at k0 k1 k2
    generalize M.getD j fw0 = x at *
    obtain ⟨k, f⟩ := x
    obtain ⟨f1, f2, f3, f4, f5, f6⟩ := f
    have HGET := Lib.hid hget
    have HKK := Lib.hid (And.intro k0 (And.intro k1 k2))
    have HKL : Hid (kb < W1.heap.size) := Lib.hid (World.block_lt_of_cell? _ _ k0)
    have HCC := Lib.hid (And.intro c0 (And.intro c1 (And.intro c2 (And.intro c3 (And.intro c4 (And.intro c5 (And.intro c6 (And.intro c7 c8))))))))
    have HHK := Lib.hid (And.intro hga (And.intro hka hko))
    clear hga hka hko hget hkc3 k0 k1 k2
    go_wp2_with fail
    clear c0 c1 c2 c3 c4 c5 c6 c7 c8
    refine (HGET.out _ HBW.out).mono ?_
    rintro e2 w2 ⟨rfl, hb2⟩
    have hbn : Below w2.heap.size w2 (w2.alloc (.cells #[.int .i64 f1, .int .i64 f2, .int .i64 f3, .int .i64 f4, .int .i64 f5, .int .i64 f6] 42)) := (Below.refl _ _).alloc (Nat.le_refl _) _
    have hbb := hb2.trans (hbn.mono hb2.size)
    have HG := Lib.hid (alloc_block w2 (.cells #[.int .i64 f1, .int .i64 f2, .int .i64 f3, .int .i64 f4, .int .i64 f5, .int .i64 f6] 42))
    have HB3 := Lib.hid (HB.out.trans (hbb.mono HB.out.size))
    have c0 := cell_b6 HCC.out.1 hbb
    have c1 := cell_b6 HCC.out.2.1 hbb
    have c2 := cell_b6 HCC.out.2.2.1 hbb
    have c3 := cell_b6 HCC.out.2.2.2.1 hbb
    have c4 := cell_b6 HCC.out.2.2.2.2.1 hbb
    have c5 := cell_b6 HCC.out.2.2.2.2.2.1 hbb
    have c6 := cell_b6 HCC.out.2.2.2.2.2.2.1 hbb
    have c7 := cell_b6 HCC.out.2.2.2.2.2.2.2.1 hbb
    have c8 := cell_b6 HCC.out.2.2.2.2.2.2.2.2 hbb
    have k0 := cell_b6 HKK.out.1 HB3.out
    have k1 := cell_b6 HKK.out.2.1 HB3.out
    have k2 := cell_b6 HKK.out.2.2 HB3.out
    clear hb2 hbn hbb
    go_upto_region 8 with (fail)
    generalize w2.alloc (.cells #[.int .i64 f1, .int .i64 f2, .int .i64 f3, .int .i64 f4, .int .i64 f5, .int .i64 f6] 42) = W3 at *
    generalize w2.heap.size = G at *
    obtain ⟨g0, g1, g2, g3, g4, g5⟩ := fcells HG.out
    go_quiet (fail)
    have HB4 : Hid (Below W1.heap.size W1 (W3.drewN nq)) := Lib.hid (below_drewN HB3.out nq)
    clear c0 c1 c2 c3 c4 c5 c6 c7 c8 k0 k1 k2 g0 g1 g2 g3 g4 g5
    go_wp2_with fail
    go_roundw
    case rel => exact ⟨j + 1, by omega, by go_num, HB4⟩
    case measure =>
     simp [Go.RowKit.intOf]
     omega
  · have t1 : ¬ (j : Int) < n := by omega
    go_wp2_with fail
    go_ret
    exact ⟨rfl, HBW.out⟩
theorem same_rows (v : Option Addr) (M : List FW) (Fu : World → Prop) (h : FuObj (.pointer v) M Fu) (hup : Up (keysG M)) (hok : ∀ r ∈ M, Kok r.1) (p : Option Addr) (n c : Nat) (W : World) (hF : Fu W) (hL : FWL W p n c M) (hn : n ≤ 10000) :
 Calls Try.prog 10 #[.pointer v, .slice p n c] W fun e w' => e = .returned (.int .i64 1) ∧ Below W.heap.size W w' := by
 have hs := rows_same v M Fu h hup hok p n c W hF hL hn
 clear h hup hok hF hL
 go_enter Try.func10, Try.ntmps10
 go_wp2_with fail
 refine hs.mono ?_
 rintro e1 w1 ⟨rfl, hb1⟩
 have HB := Lib.hid hb1
 clear hb1 hs
 go_wp2_with fail
 go_ret
 exact ⟨rfl, HB.out⟩
theorem g_drop_get {M : List FW} {j : Nat} (h : j < M.length) (k : K) : getG (M.drop j) k = if (M.getD j fw0).1 = k then some (M.getD j fw0).2 else getG (M.drop (j + 1)) k := by
 rw [List.drop_eq_getElem_cons h, g_get_cons, List.getD, List.getElem?_eq_getElem h]
 rfl
set_option maxHeartbeats 2000000 in
theorem fwget_any (p : Option Addr) (n c : Nat) (L : List FW) (k : K) (W : World) (hL : FWL W p n c L) (hn : n ≤ 100000) :
 Calls Try.prog 29 #[.slice p n c, .agg #[.int .u8 k.1, .int .u8 k.2.1, .int .u8 k.2.2]] W fun e w' => e = .returned (.tuple #[.agg (fcs ((getG L k).getD fz)), .bool (getG L k).isSome]) ∧ Below W.heap.size W w' := by
 have HD := Lib.hid fun j (hj : j < n) => g_drop_get (M := L) (j := j) (by rw [hL.len]; exact hj) k
 have HLen := Lib.hid hL.len
 obtain ⟨g, hg⟩ : ∃ g, getG L k = g := ⟨_, rfl⟩
 rw [hg]
 have HGG := Lib.hid hg
 clear hg
 obtain ⟨hb0, hx0, hr0⟩ := ftwo_boxes W #[.int .u8 k.1, .int .u8 k.2.1, .int .u8 k.2.2] #[.int .i64 0, .int .i64 0, .int .i64 0, .int .i64 0, .int .i64 0, .int .i64 0] 32 42
 have HW1 := Lib.hid hb0
 have HL := Lib.hid (hL.later hb0)
 have HX := Lib.hid hx0
 have HR := Lib.hid hr0
 obtain ⟨X, hX⟩ : ∃ X, W.heap.size = X := ⟨_, rfl⟩
 have HXX := Lib.hid hX
 rw [hX] at HX HR
 clear hb0 hx0 hr0 hL
 go_enter Try.func29, Try.ntmps29
 go_upto_region 1 with (fail)
 clear hX
 generalize (W.alloc (.cells #[.int .u8 k.1, .int .u8 k.2.1, .int .u8 k.2.2] 32)).alloc (.cells #[.int .i64 0, .int .i64 0, .int .i64 0, .int .i64 0, .int .i64 0, .int .i64 0] 42) = W1 at *
 have HXR : Hid (W.heap.size ≤ X + 1) := Lib.hid (by rw [HXX.out]; omega)
 generalize X + 1 = R at *
 go_wp2_with fail
 go_loopw [6] (fun i wr => ∃ j : Nat, j ≤ n ∧ i = .int .i64 (j : Int) ∧ Hid (Below W1.heap.size W1 wr) ∧ Hid (g = getG (L.drop j) k)) (fun i _ => n - (Go.RowKit.intOf i).toNat)
 case atStart => exact ⟨0, Nat.zero_le _, rfl, Lib.hid (Below.refl _ _), Lib.hid HGG.out.symm⟩
 case round =>
  obtain ⟨j, hj, rfl, HB, HG⟩ := hrel
  have HRw := Lib.hid (block_later HR.out HB.out)
  have HBW := Lib.hid (HW1.out.trans (HB.out.mono HW1.out.size))
  obtain ⟨r0, r1, r2, r3, r4, r5⟩ := fcells HRw.out
  obtain ⟨f0, f1, f2, f3, f4, f5⟩ := ffree HRw.out
  by_cases hlt : j < n
  · have hlt' : (j : Int) < n := by omega
    obtain ⟨b, off, rfl, c0, c1, c2, c3, c4, c5, c6, c7, c8⟩ := frow_cells (HL.out.later HB.out) hlt
    have hd := HD.out j hlt
    have x0 := block_cell (j := 0) (block_later HX.out HB.out) rfl
    have x1 := block_cell (j := 1) (block_later HX.out HB.out) rfl
    have x2 := block_cell (j := 2) (block_later HX.out HB.out) rfl
    generalize L.getD j fw0 = x at *
    have qn := fun W => key_eql x.1.1 x.1.2.1 x.1.2.2 k.1 k.2.1 k.2.2 W
    have he : decide (((x.1.1, x.1.2.1, x.1.2.2) : K) = (k.1, k.2.1, k.2.2)) = decide (x.1 = k) := rfl
    rw [he] at qn
    clear he
    by_cases hxk : x.1 = k
    · rw [if_pos hxk] at hd
      rw [decide_eq_true hxk] at qn
      have hgx := HG.out.trans hd
      have HGX := Lib.hid hgx
      clear hd hxk hgx
      go_wp2_with fail
      go_quiet (fail)
      have HRd : Hid ((wr.drewN nq).heap[R]? = some (.cells #[.int .i64 0, .int .i64 0, .int .i64 0, .int .i64 0, .int .i64 0, .int .i64 0] 42 (0, 0))) := Lib.hid HRw.out
      have HFS := Lib.hid (fstored (a' := .int .i64 x.2.lo) (b' := .int .i64 x.2.hi) (c' := .int .i64 x.2.ba) (d' := .int .i64 x.2.inf) (e' := .int .i64 x.2.sup) (f' := .int .i64 x.2.va) HRd.out)
      have HGS := Lib.hid (fkept (below_drewN HBW.out nq) HXR.out (.int .i64 x.2.lo) (.int .i64 x.2.hi) (.int .i64 x.2.ba) (.int .i64 x.2.inf) (.int .i64 x.2.sup) (.int .i64 x.2.va))
      go_wp2_with fail
      refine bodyPost_ret (v := .tuple #[.agg #[.int .i64 x.2.lo, .int .i64 x.2.hi, .int .i64 x.2.ba, .int .i64 x.2.inf, .int .i64 x.2.sup, .int .i64 x.2.va], .bool true]) ?_ rfl ⟨by rw [HGX.out]; rfl, HGS.out⟩
      exact results_ff rfl _ _ R _ rfl _ rfl rfl HFS.out
    · rw [if_neg hxk] at hd
      rw [decide_eq_false hxk] at qn
      have HGX := Lib.hid (HG.out.trans hd)
      clear hd hxk c3 c4 c5 c6 c7 c8 r0 r1 r2 r3 r4 r5 f0 f1 f2 f3 f4 f5
      go_wp2_with fail
      go_quiet (fail)
      go_wp2_with fail
      go_roundw
      case rel => exact ⟨j + 1, by omega, by go_num, Lib.hid (below_drewN HB.out _), HGX⟩
      case measure =>
       simp [Go.RowKit.intOf]
       omega
  · have hjn : n = j := by omega
    have t1 : ¬ (j : Int) < n := by omega
    have hgx : g = none := by rw [HG.out, List.drop_of_length_le (by rw [HLen.out]; omega)]; rfl
    have HGX := Lib.hid hgx
    have HFS := Lib.hid (fstored (a' := .int .i64 0) (b' := .int .i64 0) (c' := .int .i64 0) (d' := .int .i64 0) (e' := .int .i64 0) (f' := .int .i64 0) HRw.out)
    have HGS := Lib.hid (fkept HBW.out HXR.out (.int .i64 0) (.int .i64 0) (.int .i64 0) (.int .i64 0) (.int .i64 0) (.int .i64 0))
    clear hgx hjn
    go_wp2_with fail
    refine bodyPost_ret (v := .tuple #[.agg #[.int .i64 0, .int .i64 0, .int .i64 0, .int .i64 0, .int .i64 0, .int .i64 0], .bool false]) ?_ rfl ⟨by rw [HGX.out]; rfl, HGS.out⟩
    exact results_ff rfl _ _ R _ rfl _ rfl rfl HFS.out
end Go.Proofs.Ytmdldbchdnkfcaa
