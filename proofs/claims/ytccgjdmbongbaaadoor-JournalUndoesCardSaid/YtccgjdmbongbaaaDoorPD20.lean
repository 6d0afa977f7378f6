import Derived.Test.YtccgjdmbongbaaaDoorPD16
import Derived.Deep.Cut
namespace Go.Proofs.YtccgjdmbongbaaaDoor
open Go.RowKit Go.ChangeShapes Go.WideShapes
set_option linter.unusedVariables false
set_option linter.unusedSimpArgs false
set_option maxRecDepth 10000
theorem txfree {w : World} {B : Nat} {cs : Array Value} {T : TypeId} (h : w.heap[B]? = some (.cells cs T (0, 0))) : w.frozen? ⟨B, 0, none⟩ = false ∧ w.frozen? ⟨B, 1, none⟩ = false ∧ w.frozen? ⟨B, 2, none⟩ = false ∧ w.frozen? ⟨B, 3, none⟩ = false ∧ w.frozen? ⟨B, 4, none⟩ = false ∧ w.frozen? ⟨B, 5, none⟩ = false ∧ w.frozen? ⟨B, 6, none⟩ = false ∧ w.frozen? ⟨B, 7, none⟩ = false :=
 ⟨block_free 0 h, block_free 1 h, block_free 2 h, block_free 3 h, block_free 4 h, block_free 5 h, block_free 6 h, block_free 7 h⟩
set_option maxHeartbeats 2000000 in
theorem tstored {w : World} {B : Nat} {a b c d e f g h a' b' c' d' e' f' g' h' : Value} {T : TypeId} (h : w.heap[B]? = some (.cells #[a, b, c, d, e, f, g, h] T (0, 0))) :
 ((((((((w.setCell ⟨B, 0, none⟩ a').setCell ⟨B, 1, none⟩ b').setCell ⟨B, 2, none⟩ c').setCell ⟨B, 3, none⟩ d').setCell ⟨B, 4, none⟩ e').setCell ⟨B, 5, none⟩ f').setCell ⟨B, 6, none⟩ g').setCell ⟨B, 7, none⟩ h').heap[B]? = some (.cells #[a', b', c', d', e', f', g', h'] T (0, 0)) :=
 block_put 7 h' (block_put 6 g' (block_put 5 f' (block_put 4 e' (block_put 3 d' (block_put 2 c' (block_put 1 b' (block_put 0 a' h)))))))
theorem tkept {W w : World} {B : Nat} (h : Below W.heap.size W w) (hB : W.heap.size ≤ B) (a' b' c' d' e' f' g' h' : Value) : Below W.heap.size W ((((((((w.setCell ⟨B, 0, none⟩ a').setCell ⟨B, 1, none⟩ b').setCell ⟨B, 2, none⟩ c').setCell ⟨B, 3, none⟩ d').setCell ⟨B, 4, none⟩ e').setCell ⟨B, 5, none⟩ f').setCell ⟨B, 6, none⟩ g').setCell ⟨B, 7, none⟩ h') :=
 (((((((h.setCell hB _).setCell hB _).setCell hB _).setCell hB _).setCell hB _).setCell hB _).setCell hB _).setCell hB _
theorem results_tt {fn : Func} {p u : Tmp} (h : fn.results = #[.cell p 31, .tmp u]) (tmps : Array Value) (W : World) (R : Nat) (cs : Array Value) (hs : cs.size = 8) (v : Value) (hp : tmps.getD p undef = .pointer (some ⟨R, 0, none⟩)) (hv : tmps.getD u undef = v)
 (hB : W.heap[R]? = some (.cells cs 31 (0, 0))) : (results fn tmps).run Tryd.prog W = .ok (.tuple #[.agg cs, v]) W := by
 rw [results_cell_tmp h, hp, hv]
 simp [asAddr, Result.andThen, run_loadVar_row W R 31 31 cs (0, 0) _ hB Tryd.underlying31 rfl (by rw [hs]; kernel_rfl)]
theorem getT_drop {α : Type} (ix : α → Int) (L : List α) (d : α) (i : Int) (j : Nat) (h : j < L.length) : getT ix (L.drop j) i = if ix (L.getD j d) = i then some (L.getD j d) else getT ix (L.drop (j + 1)) i := by
 have e : L.getD j d = L[j] := by simp [List.getD, List.getElem?_eq_getElem h]
 rw [List.drop_eq_getElem_cons h, e]
 unfold getT
 rw [List.find?_cons]
 by_cases hx : ix L[j] = i
 · simp [hx]
 · simp [hx]
set_option maxHeartbeats 2000000 in
theorem rtGet_any (p : Option Addr) (n c : Nat) (L : List Tv) (i : Int) (W : World) (hL : SlG tce 8 tv0 W p n c L) (hn : n ≤ 100000) :
 Calls Tryd.prog 10 #[.slice p n c, .int .u32 i] W fun e w' => e = .returned (.tuple #[.agg (tcs ((getT Tv.id L i).getD tv0)), .bool (getT Tv.id L i).isSome]) ∧ Below W.heap.size W w' := by
 have HD := Lib.hid fun j (hj : j < n) => getT_drop Tv.id L tv0 i j (by rw [hL.len]; exact hj)
 have HLen := Lib.hid hL.len
 obtain ⟨g, hg⟩ : ∃ g, getT Tv.id L i = g := ⟨_, rfl⟩
 rw [hg]
 have HGG := Lib.hid hg
 have hcap := hL.cap
 have hb0 : Below W.heap.size W (W.alloc (.cells #[.int .u32 0, .int .u32 0, .int .u8 0, .bool false, .bool false, .slice none 0 0, .int .i64 0, .int .i64 0] 31)) := (Below.refl _ _).alloc (Nat.le_refl _) _
 have HW1 := Lib.hid hb0
 have HL := Lib.hid (hL.later hb0)
 have HR := Lib.hid (alloc_block W (.cells #[.int .u32 0, .int .u32 0, .int .u8 0, .bool false, .bool false, .slice none 0 0, .int .i64 0, .int .i64 0] 31))
 obtain ⟨X, hX⟩ : ∃ X, W.heap.size = X := ⟨_, rfl⟩
 have HXR : Hid (W.heap.size ≤ X) := Lib.hid (by omega)
 rw [hX] at HR
 clear hb0 hL hg
 go_enter Tryd.func10, Tryd.ntmps10
 go_upto_region 1 with (fail)
 clear hX
 generalize W.alloc (.cells #[.int .u32 0, .int .u32 0, .int .u8 0, .bool false, .bool false, .slice none 0 0, .int .i64 0, .int .i64 0] 31) = W1 at *
 go_wp2_with fail
 go_loopw [6] (fun v wr => ∃ j : Nat, j ≤ n ∧ v = .int .i64 (j : Int) ∧ Hid (Below W1.heap.size W1 wr) ∧ Hid (g = getT Tv.id (L.drop j) i)) (fun v _ => n - (Go.RowKit.intOf v).toNat)
 case atStart => exact ⟨0, Nat.zero_le _, rfl, Lib.hid (Below.refl _ _), Lib.hid HGG.out.symm⟩
 case round =>
  obtain ⟨j, hj, rfl, HB, HG⟩ := hrel
  have HRw := Lib.hid (block_later HR.out HB.out)
  have HBW := Lib.hid (HW1.out.trans (HB.out.mono HW1.out.size))
  obtain ⟨r0, r1, r2, r3, r4, r5, r6, r7⟩ := txv_cells HRw.out
  obtain ⟨f0, f1, f2, f3, f4, f5, f6, f7⟩ := txfree HRw.out
  by_cases hlt : j < n
  · have hlt' : (j : Int) < n := by omega
    obtain ⟨b, off, rfl, _, c0, c1, c2, c3, c4, c5, c6, c7⟩ := txr_cells (HL.out.later HB.out) hlt
    have hd := HD.out j hlt
    generalize L.getD j tv0 = x at *
    by_cases hx : Tv.id x = i
    · rw [if_pos hx] at hd
      have hgx := HG.out.trans hd
      have HGX := Lib.hid hgx
      have hq : (x.c.id == i) = true := by simpa [Tv.id] using hx
      have HX := Lib.hid hx
      clear hd hx hgx
      have HFS := Lib.hid (tstored (a' := .int .u32 x.c.id) (b' := .int .u32 x.c.sg) (c' := .int .u8 x.c.st) (d' := .bool x.c.cp) (e' := .bool x.c.dd) (f' := .slice x.p x.n x.m) (g' := .int .i64 x.c.fs) (h' := .int .i64 x.c.sz) HRw.out)
      have HGS := Lib.hid (tkept HBW.out HXR.out (.int .u32 x.c.id) (.int .u32 x.c.sg) (.int .u8 x.c.st) (.bool x.c.cp) (.bool x.c.dd) (.slice x.p x.n x.m) (.int .i64 x.c.fs) (.int .i64 x.c.sz))
      go_wp2_with fail
      refine bodyPost_ret (v := .tuple #[.agg #[.int .u32 x.c.id, .int .u32 x.c.sg, .int .u8 x.c.st, .bool x.c.cp, .bool x.c.dd, .slice x.p x.n x.m, .int .i64 x.c.fs, .int .i64 x.c.sz], .bool true]) ?_ rfl ⟨by rw [HGX.out]; rfl, HGS.out⟩
      exact results_tt rfl _ _ X _ rfl _ rfl rfl HFS.out
    · rw [if_neg hx] at hd
      have hq : (x.c.id == i) = false := by simpa [Tv.id] using hx
      have HX := Lib.hid hx
      have HGX := Lib.hid (HG.out.trans hd)
      clear hd hx r0 r1 r2 r3 r4 r5 r6 r7 f0 f1 f2 f3 f4 f5 f6 f7
      go_wp2_with fail
      go_roundw
      case rel => exact ⟨j + 1, by omega, by go_num, HB, HGX⟩
      case measure =>
       simp [Go.RowKit.intOf]
       omega
  · have t1 : ¬ (j : Int) < n := by omega
    have hgx : g = none := by rw [HG.out, List.drop_of_length_le (by rw [HLen.out]; omega)]; rfl
    have HGX := Lib.hid hgx
    clear hgx
    have HFS := Lib.hid (tstored (a' := .int .u32 0) (b' := .int .u32 0) (c' := .int .u8 0) (d' := .bool false) (e' := .bool false) (f' := .slice none 0 0) (g' := .int .i64 0) (h' := .int .i64 0) HRw.out)
    have HGS := Lib.hid (tkept HBW.out HXR.out (.int .u32 0) (.int .u32 0) (.int .u8 0) (.bool false) (.bool false) (.slice none 0 0) (.int .i64 0) (.int .i64 0))
    go_wp2_with fail
    refine bodyPost_ret (v := .tuple #[.agg #[.int .u32 0, .int .u32 0, .int .u8 0, .bool false, .bool false, .slice none 0 0, .int .i64 0, .int .i64 0], .bool false]) ?_ rfl ⟨by rw [HGX.out]; rfl, HGS.out⟩
    exact results_tt rfl _ _ X _ rfl _ rfl rfl HFS.out
set_option maxHeartbeats 2000000 in
theorem rtOf_any (p : Option Addr) (n c : Nat) (L : List Tv) (i : Int) (W : World) (hL : SlG tce 8 tv0 W p n c L) (hn : n ≤ 100000) :
 Calls Tryd.prog 12 #[.slice p n c, .int .u32 i] W fun e w' => e = .returned (.tuple #[.agg (tcs ((getT Tv.sg L i).getD tv0)), .bool (getT Tv.sg L i).isSome]) ∧ Below W.heap.size W w' := by
 have HD := Lib.hid fun j (hj : j < n) => getT_drop Tv.sg L tv0 i j (by rw [hL.len]; exact hj)
 have HLen := Lib.hid hL.len
 obtain ⟨g, hg⟩ : ∃ g, getT Tv.sg L i = g := ⟨_, rfl⟩
 rw [hg]
 have HGG := Lib.hid hg
 have hcap := hL.cap
 have hb0 : Below W.heap.size W (W.alloc (.cells #[.int .u32 0, .int .u32 0, .int .u8 0, .bool false, .bool false, .slice none 0 0, .int .i64 0, .int .i64 0] 31)) := (Below.refl _ _).alloc (Nat.le_refl _) _
 have HW1 := Lib.hid hb0
 have HL := Lib.hid (hL.later hb0)
 have HR := Lib.hid (alloc_block W (.cells #[.int .u32 0, .int .u32 0, .int .u8 0, .bool false, .bool false, .slice none 0 0, .int .i64 0, .int .i64 0] 31))
 obtain ⟨X, hX⟩ : ∃ X, W.heap.size = X := ⟨_, rfl⟩
 have HXR : Hid (W.heap.size ≤ X) := Lib.hid (by omega)
 rw [hX] at HR
 clear hb0 hL hg
 go_enter Tryd.func12, Tryd.ntmps12
 go_upto_region 1 with (fail)
 clear hX
 generalize W.alloc (.cells #[.int .u32 0, .int .u32 0, .int .u8 0, .bool false, .bool false, .slice none 0 0, .int .i64 0, .int .i64 0] 31) = W1 at *
 go_wp2_with fail
 go_loopw [6] (fun v wr => ∃ j : Nat, j ≤ n ∧ v = .int .i64 (j : Int) ∧ Hid (Below W1.heap.size W1 wr) ∧ Hid (g = getT Tv.sg (L.drop j) i)) (fun v _ => n - (Go.RowKit.intOf v).toNat)
 case atStart => exact ⟨0, Nat.zero_le _, rfl, Lib.hid (Below.refl _ _), Lib.hid HGG.out.symm⟩
 case round =>
  obtain ⟨j, hj, rfl, HB, HG⟩ := hrel
  have HRw := Lib.hid (block_later HR.out HB.out)
  have HBW := Lib.hid (HW1.out.trans (HB.out.mono HW1.out.size))
  obtain ⟨r0, r1, r2, r3, r4, r5, r6, r7⟩ := txv_cells HRw.out
  obtain ⟨f0, f1, f2, f3, f4, f5, f6, f7⟩ := txfree HRw.out
  by_cases hlt : j < n
  · have hlt' : (j : Int) < n := by omega
    obtain ⟨b, off, rfl, _, c0, c1, c2, c3, c4, c5, c6, c7⟩ := txr_cells (HL.out.later HB.out) hlt
    have hd := HD.out j hlt
    generalize L.getD j tv0 = x at *
    by_cases hx : Tv.sg x = i
    · rw [if_pos hx] at hd
      have hgx := HG.out.trans hd
      have HGX := Lib.hid hgx
      have hq : (x.c.sg == i) = true := by simpa [Tv.sg] using hx
      have HX := Lib.hid hx
      clear hd hx hgx
      have HFS := Lib.hid (tstored (a' := .int .u32 x.c.id) (b' := .int .u32 x.c.sg) (c' := .int .u8 x.c.st) (d' := .bool x.c.cp) (e' := .bool x.c.dd) (f' := .slice x.p x.n x.m) (g' := .int .i64 x.c.fs) (h' := .int .i64 x.c.sz) HRw.out)
      have HGS := Lib.hid (tkept HBW.out HXR.out (.int .u32 x.c.id) (.int .u32 x.c.sg) (.int .u8 x.c.st) (.bool x.c.cp) (.bool x.c.dd) (.slice x.p x.n x.m) (.int .i64 x.c.fs) (.int .i64 x.c.sz))
      go_wp2_with fail
      refine bodyPost_ret (v := .tuple #[.agg #[.int .u32 x.c.id, .int .u32 x.c.sg, .int .u8 x.c.st, .bool x.c.cp, .bool x.c.dd, .slice x.p x.n x.m, .int .i64 x.c.fs, .int .i64 x.c.sz], .bool true]) ?_ rfl ⟨by rw [HGX.out]; rfl, HGS.out⟩
      exact results_tt rfl _ _ X _ rfl _ rfl rfl HFS.out
    · rw [if_neg hx] at hd
      have hq : (x.c.sg == i) = false := by simpa [Tv.sg] using hx
      have HX := Lib.hid hx
      have HGX := Lib.hid (HG.out.trans hd)
      clear hd hx r0 r1 r2 r3 r4 r5 r6 r7 f0 f1 f2 f3 f4 f5 f6 f7
      go_wp2_with fail
      go_roundw
      case rel => exact ⟨j + 1, by omega, by go_num, HB, HGX⟩
      case measure =>
       simp [Go.RowKit.intOf]
       omega
  · have t1 : ¬ (j : Int) < n := by omega
    have hgx : g = none := by rw [HG.out, List.drop_of_length_le (by rw [HLen.out]; omega)]; rfl
    have HGX := Lib.hid hgx
    clear hgx
    have HFS := Lib.hid (tstored (a' := .int .u32 0) (b' := .int .u32 0) (c' := .int .u8 0) (d' := .bool false) (e' := .bool false) (f' := .slice none 0 0) (g' := .int .i64 0) (h' := .int .i64 0) HRw.out)
    have HGS := Lib.hid (tkept HBW.out HXR.out (.int .u32 0) (.int .u32 0) (.int .u8 0) (.bool false) (.bool false) (.slice none 0 0) (.int .i64 0) (.int .i64 0))
    go_wp2_with fail
    refine bodyPost_ret (v := .tuple #[.agg #[.int .u32 0, .int .u32 0, .int .u8 0, .bool false, .bool false, .slice none 0 0, .int .i64 0, .int .i64 0], .bool false]) ?_ rfl ⟨by rw [HGX.out]; rfl, HGS.out⟩
    exact results_tt rfl _ _ X _ rfl _ rfl rfl HFS.out
theorem ttwo (W : World) (c0 c1 : Array Value) (t0 t1 : TypeId) : Below W.heap.size W ((W.alloc (.cells c0 t0)).alloc (.cells c1 t1)) ∧ ((W.alloc (.cells c0 t0)).alloc (.cells c1 t1)).heap[W.heap.size]? = some (.cells c0 t0 (0, 0)) ∧ ((W.alloc (.cells c0 t0)).alloc (.cells c1 t1)).heap[W.heap.size + 1]? = some (.cells c1 t1 (0, 0)) := by
 have h1 := alloc_block (W.alloc (.cells c0 t0)) (.cells c1 t1)
 have hs : (W.alloc (.cells c0 t0)).heap.size = W.heap.size + 1 := by simp
 rw [hs] at h1
 have h0 := alloc_block W (.cells c0 t0)
 have hb : Below (W.alloc (.cells c0 t0)).heap.size (W.alloc (.cells c0 t0)) ((W.alloc (.cells c0 t0)).alloc (.cells c1 t1)) := (Below.refl _ _).alloc (Nat.le_refl _) _
 exact ⟨((Below.refl _ _).alloc (Nat.le_refl _) _).alloc (by omega) _, block_later h0 hb, h1⟩
set_option maxHeartbeats 4000000 in
theorem rtsame_any (a b : Tv) (W : World) (ha : TvM W a) (hb : TvM W b) (hn : a.n ≤ 100000) (hm : b.n ≤ 100000) :
 Calls Tryd.prog 13 #[.agg #[.int .u32 a.c.id, .int .u32 a.c.sg, .int .u8 a.c.st, .bool a.c.cp, .bool a.c.dd, .slice a.p a.n a.m, .int .i64 a.c.fs, .int .i64 a.c.sz], .agg #[.int .u32 b.c.id, .int .u32 b.c.sg, .int .u8 b.c.st, .bool b.c.cp, .bool b.c.dd, .slice b.p b.n b.m, .int .i64 b.c.fs, .int .i64 b.c.sz]] W fun e w' => e = .returned (.bool (decide (a.c = b.c))) ∧ Below W.heap.size W w' := by
 obtain ⟨hb0, hx0, hy0⟩ := ttwo W #[.int .u32 a.c.id, .int .u32 a.c.sg, .int .u8 a.c.st, .bool a.c.cp, .bool a.c.dd, .slice a.p a.n a.m, .int .i64 a.c.fs, .int .i64 a.c.sz] #[.int .u32 b.c.id, .int .u32 b.c.sg, .int .u8 b.c.st, .bool b.c.cp, .bool b.c.dd, .slice b.p b.n b.m, .int .i64 b.c.fs, .int .i64 b.c.sz] 31 31
 have HS := Lib.hid (rsame_o a.p b.p a.n b.n a.m b.m a.c.dn b.c.dn _ (ha.later hb0) (hb.later hb0) hn hm)
 have HB0 := Lib.hid hb0
 have HX := Lib.hid hx0
 have HY := Lib.hid hy0
 have HD := Lib.hid fun (h : a.c = b.c) => h
 obtain ⟨X, hX⟩ : ∃ X, W.heap.size = X := ⟨_, rfl⟩
 have HHX := Lib.hid hX
 rw [hX] at HX HY
 clear hb0 hx0 hy0 ha hb HD
 go_enter Tryd.func13, Tryd.ntmps13
 go_upto_region 1 with (fail)
 clear hX
 generalize (W.alloc (.cells #[.int .u32 a.c.id, .int .u32 a.c.sg, .int .u8 a.c.st, .bool a.c.cp, .bool a.c.dd, .slice a.p a.n a.m, .int .i64 a.c.fs, .int .i64 a.c.sz] 31)).alloc (.cells #[.int .u32 b.c.id, .int .u32 b.c.sg, .int .u8 b.c.st, .bool b.c.cp, .bool b.c.dd, .slice b.p b.n b.m, .int .i64 b.c.fs, .int .i64 b.c.sz] 31) = V0 at *
 generalize X + 1 = Y at *
 obtain ⟨x0, x1, x2, x3, x4, x5, x6, x7⟩ := tx_box HX.out
 obtain ⟨y0, y1, y2, y3, y4, y5, y6, y7⟩ := tx_box HY.out
 by_cases h0 : a.c.id = b.c.id
 · have H0 := Lib.hid h0
   have q0 : (a.c.id == b.c.id) = true := by simpa using h0
   clear h0
   by_cases h1 : a.c.sg = b.c.sg
   · have H1 := Lib.hid h1
     have q1 : (a.c.sg == b.c.sg) = true := by simpa using h1
     clear h1
     by_cases h2 : a.c.st = b.c.st
     · have H2 := Lib.hid h2
       have q2 : (a.c.st == b.c.st) = true := by simpa using h2
       clear h2
       by_cases h3 : a.c.cp = b.c.cp
       · have H3 := Lib.hid h3
         have q3 : (a.c.cp == b.c.cp) = true := by simpa using h3
         clear h3
         by_cases h4 : a.c.dd = b.c.dd
         · have H4 := Lib.hid h4
           have q4 : (a.c.dd == b.c.dd) = true := by simpa using h4
           clear h4
           by_cases h5 : a.c.dn = b.c.dn
           · have H5 := Lib.hid h5
             clear h5
             by_cases h6 : a.c.fs = b.c.fs
             · have H6 := Lib.hid h6
               have q6 : (a.c.fs == b.c.fs) = true := by simpa using h6
               clear h6
               by_cases h7 : a.c.sz = b.c.sz
               · have H7 := Lib.hid h7
                 have q7 : (a.c.sz == b.c.sz) = true := by simpa using h7
                 clear h7
                 have he : a.c = b.c := by
                  obtain ⟨⟨i1, i2, i3, i4, i5, i6, i7, i8⟩, _, _, _⟩ := a
                  obtain ⟨⟨j1, j2, j3, j4, j5, j6, j7, j8⟩, _, _, _⟩ := b
                  have k0 := H0.out; have k1 := H1.out; have k2 := H2.out; have k3 := H3.out; have k4 := H4.out; have k5 := H5.out; have k6 := H6.out; have k7 := H7.out
                  simp only at k0 k1 k2 k3 k4 k5 k6 k7
                  subst k0 k1 k2 k3 k4 k5 k6 k7
                  rfl
                 have HE := Lib.hid he
                 clear he
                 go_wp2_with fail
                 refine HS.out.mono ?_
                 rintro e1 w1 ⟨rfl, hb1⟩
                 have HB1 := Lib.hid (HB0.out.trans (hb1.mono HB0.out.size))
                 have HX1 := Lib.hid (block_later HX.out hb1)
                 have HY1 := Lib.hid (block_later HY.out hb1)
                 clear hb1 HS x0 x1 x2 x3 x4 x5 x6 x7 y0 y1 y2 y3 y4 y5 y6 y7
                 obtain ⟨x0, x1, x2, x3, x4, x5, x6, x7⟩ := tx_box HX1.out
                 obtain ⟨y0, y1, y2, y3, y4, y5, y6, y7⟩ := tx_box HY1.out
                 rw [decide_eq_true H5.out]
                 go_wp2_with fail
                 go_ret
                 exact ⟨by rw [decide_eq_true HE.out]; rfl, HB1.out⟩
               · have HN : Hid (a.c ≠ b.c) := Lib.hid fun e => h7 (by rw [e])
                 have q7 : (a.c.sz == b.c.sz) = false := by simpa using h7
                 have HH := Lib.hid h7
                 clear h7
                 go_wp2_with fail
                 refine HS.out.mono ?_
                 rintro e1 w1 ⟨rfl, hb1⟩
                 have HB1 := Lib.hid (HB0.out.trans (hb1.mono HB0.out.size))
                 have HX1 := Lib.hid (block_later HX.out hb1)
                 have HY1 := Lib.hid (block_later HY.out hb1)
                 clear hb1 HS x0 x1 x2 x3 x4 x5 x6 x7 y0 y1 y2 y3 y4 y5 y6 y7
                 obtain ⟨x0, x1, x2, x3, x4, x5, x6, x7⟩ := tx_box HX1.out
                 obtain ⟨y0, y1, y2, y3, y4, y5, y6, y7⟩ := tx_box HY1.out
                 rw [decide_eq_true H5.out]
                 go_wp2_with fail
                 go_ret
                 exact ⟨by rw [decide_eq_false HN.out]; rfl, HB1.out⟩
             · have HN : Hid (a.c ≠ b.c) := Lib.hid fun e => h6 (by rw [e])
               have q6 : (a.c.fs == b.c.fs) = false := by simpa using h6
               have HH := Lib.hid h6
               clear h6
               go_wp2_with fail
               refine HS.out.mono ?_
               rintro e1 w1 ⟨rfl, hb1⟩
               have HB1 := Lib.hid (HB0.out.trans (hb1.mono HB0.out.size))
               have HX1 := Lib.hid (block_later HX.out hb1)
               have HY1 := Lib.hid (block_later HY.out hb1)
               clear hb1 HS x0 x1 x2 x3 x4 x5 x6 x7 y0 y1 y2 y3 y4 y5 y6 y7
               obtain ⟨x0, x1, x2, x3, x4, x5, x6, x7⟩ := tx_box HX1.out
               obtain ⟨y0, y1, y2, y3, y4, y5, y6, y7⟩ := tx_box HY1.out
               rw [decide_eq_true H5.out]
               go_wp2_with fail
               go_ret
               exact ⟨by rw [decide_eq_false HN.out]; rfl, HB1.out⟩
           · have HN : Hid (a.c ≠ b.c) := Lib.hid fun e => h5 (by rw [e])
             have HH := Lib.hid h5
             clear h5
             go_wp2_with fail
             refine HS.out.mono ?_
             rintro e1 w1 ⟨rfl, hb1⟩
             have HB1 := Lib.hid (HB0.out.trans (hb1.mono HB0.out.size))
             have HX1 := Lib.hid (block_later HX.out hb1)
             have HY1 := Lib.hid (block_later HY.out hb1)
             clear hb1 HS x0 x1 x2 x3 x4 x5 x6 x7 y0 y1 y2 y3 y4 y5 y6 y7
             obtain ⟨x0, x1, x2, x3, x4, x5, x6, x7⟩ := tx_box HX1.out
             obtain ⟨y0, y1, y2, y3, y4, y5, y6, y7⟩ := tx_box HY1.out
             rw [decide_eq_false HH.out]
             go_wp2_with fail
             go_ret
             exact ⟨by rw [decide_eq_false HN.out]; rfl, HB1.out⟩
         · have HN : Hid (a.c ≠ b.c) := Lib.hid fun e => h4 (by rw [e])
           have q4 : (a.c.dd == b.c.dd) = false := by simpa using h4
           have HH := Lib.hid h4
           clear h4
           go_wp2_with fail
           go_ret
           exact ⟨by rw [decide_eq_false HN.out]; rfl, HB0.out⟩
       · have HN : Hid (a.c ≠ b.c) := Lib.hid fun e => h3 (by rw [e])
         have q3 : (a.c.cp == b.c.cp) = false := by simpa using h3
         have HH := Lib.hid h3
         clear h3
         go_wp2_with fail
         go_ret
         exact ⟨by rw [decide_eq_false HN.out]; rfl, HB0.out⟩
     · have HN : Hid (a.c ≠ b.c) := Lib.hid fun e => h2 (by rw [e])
       have q2 : (a.c.st == b.c.st) = false := by simpa using h2
       have HH := Lib.hid h2
       clear h2
       go_wp2_with fail
       go_ret
       exact ⟨by rw [decide_eq_false HN.out]; rfl, HB0.out⟩
   · have HN : Hid (a.c ≠ b.c) := Lib.hid fun e => h1 (by rw [e])
     have q1 : (a.c.sg == b.c.sg) = false := by simpa using h1
     have HH := Lib.hid h1
     clear h1
     go_wp2_with fail
     go_ret
     exact ⟨by rw [decide_eq_false HN.out]; rfl, HB0.out⟩
 · have HN : Hid (a.c ≠ b.c) := Lib.hid fun e => h0 (by rw [e])
   have q0 : (a.c.id == b.c.id) = false := by simpa using h0
   have HH := Lib.hid h0
   clear h0
   go_wp2_with fail
   go_ret
   exact ⟨by rw [decide_eq_false HN.out]; rfl, HB0.out⟩
theorem results_cell_1 {fn : Func} {p : Tmp} {ty : TypeId} (h : fn.results = #[.cell p ty]) (tmps : Array Value) (P : Program) (w : World) :
 (results fn tmps).run P w = ((asAddr (tmps.getD p undef)).run P w).andThen fun a w₁ => (loadVar ty a).run P w₁ := by
 simp only [results, h]
 simp [Sem.run_bind, Result.andThen]
theorem results_t1 {fn : Func} {p : Tmp} (h : fn.results = #[.cell p 31]) (tmps : Array Value) (W : World) (R : Nat) (cs : Array Value) (hs : cs.size = 8) (hp : tmps.getD p undef = .pointer (some ⟨R, 0, none⟩))
 (hB : W.heap[R]? = some (.cells cs 31 (0, 0))) : (results fn tmps).run Tryd.prog W = .ok (.agg cs) W := by
 rw [results_cell_1 h, hp]
 simp [asAddr, Result.andThen, run_loadVar_row W R 31 31 cs (0, 0) _ hB Tryd.underlying31 rfl (by rw [hs]; kernel_rfl)]
theorem tthree (W : World) (c0 c1 c2 : Array Value) (t0 t1 t2 : TypeId) :
 Below W.heap.size W (((W.alloc (.cells c0 t0)).alloc (.cells c1 t1)).alloc (.cells c2 t2)) ∧ (((W.alloc (.cells c0 t0)).alloc (.cells c1 t1)).alloc (.cells c2 t2)).heap[W.heap.size]? = some (.cells c0 t0 (0, 0)) ∧
 (((W.alloc (.cells c0 t0)).alloc (.cells c1 t1)).alloc (.cells c2 t2)).heap[W.heap.size + 1]? = some (.cells c1 t1 (0, 0)) ∧ (((W.alloc (.cells c0 t0)).alloc (.cells c1 t1)).alloc (.cells c2 t2)).heap[W.heap.size + 2]? = some (.cells c2 t2 (0, 0)) := by
 have s1 : (W.alloc (.cells c0 t0)).heap.size = W.heap.size + 1 := by simp
 have s2 : ((W.alloc (.cells c0 t0)).alloc (.cells c1 t1)).heap.size = W.heap.size + 2 := by simp
 have h0 := alloc_block W (.cells c0 t0)
 have h1 := alloc_block (W.alloc (.cells c0 t0)) (.cells c1 t1)
 have h2 := alloc_block ((W.alloc (.cells c0 t0)).alloc (.cells c1 t1)) (.cells c2 t2)
 rw [s1] at h1
 rw [s2] at h2
 have b1 : Below (W.alloc (.cells c0 t0)).heap.size (W.alloc (.cells c0 t0)) ((W.alloc (.cells c0 t0)).alloc (.cells c1 t1)) := (Below.refl _ _).alloc (Nat.le_refl _) _
 have b2 : Below ((W.alloc (.cells c0 t0)).alloc (.cells c1 t1)).heap.size ((W.alloc (.cells c0 t0)).alloc (.cells c1 t1)) (((W.alloc (.cells c0 t0)).alloc (.cells c1 t1)).alloc (.cells c2 t2)) := (Below.refl _ _).alloc (Nat.le_refl _) _
 exact ⟨(((Below.refl _ _).alloc (Nat.le_refl _) _).alloc (by omega) _).alloc (by omega) _, block_later (block_later h0 b1) b2, block_later h1 b2, h2⟩
theorem own_ty {w : World} {base k n : Nat} {T : TypeId} {v : Value} {xs : List Value} (h : w.ownsRow base T k v n xs) {b : Nat} (hb : v.ownBlock = some b) : ∃ cs, w.heap[b]? = some (.cells cs T (0, 0)) := by
 rcases h.2 with hn | ⟨g, cap, cur, rfl, h1, h2, h3⟩
 · rw [hn.1] at hb
   cases hb
 · cases hb
   exact ⟨_, h2⟩
structure InR (w0 w2 wr : World) (v : Value) (Lx L : List Tv) (j : Nat) : Prop where
 fill : FillT w2 wr v Lx j
 is : Lx.map (·.c) = (L.take j).map (·.c)
 each : ∀ t ∈ Lx, TvM wr t
 free : ∀ t ∈ Lx, 0 < t.n → ∀ a, t.p = some a → w2.heap.size ≤ a.block ∧ ∃ cs, wr.heap[a.block]? = some (.cells cs 39 (0, 0))
 apart : ∀ i j, i < Lx.length → j < Lx.length → i ≠ j → 0 < (Lx.getD i tv0).n → 0 < (Lx.getD j tv0).n → ∀ a b, (Lx.getD i tv0).p = some a → (Lx.getD j tv0).p = some b → a.block ≠ b.block
 low : Below w0.heap.size w0 w2
theorem InR.below {w0 w2 wr : World} {v : Value} {Lx L : List Tv} {j : Nat} (h : InR w0 w2 wr v Lx L j) : Below w0.heap.size w0 wr := h.low.trans (h.fill.below.mono h.low.size)
theorem InR.start {w0 w2 : World} (h : Below w0.heap.size w0 w2) (L : List Tv) : InR w0 w2 w2 (.slice none 0 0) [] L 0 :=
 ⟨FillG.nil w2, rfl, (fun t ht => by cases ht), (fun t ht => by cases ht), (fun i j hi => by cases hi), h⟩
theorem InR.later {w0 w2 wr w' : World} {v : Value} {Lx L : List Tv} {j : Nat} (h : InR w0 w2 wr v Lx L j) (hb : Below wr.heap.size wr w') : InR w0 w2 w' v Lx L j :=
 ⟨h.fill.later hb, h.is, fun t ht => (h.each t ht).later hb, fun t ht h0 a ha => by
  obtain ⟨h1, cs, h2⟩ := h.free t ht h0 a ha
  exact ⟨h1, cs, block_later h2 hb⟩, h.apart, h.low⟩
theorem getD_app_l {L : List Tv} {t : Tv} {i : Nat} (h : i < L.length) : (L ++ [t]).getD i tv0 = L.getD i tv0 := by
 simp [List.getD, List.getElem?_append_left h]
theorem getD_app_r {L : List Tv} {t : Tv} : (L ++ [t]).getD L.length tv0 = t := by
 simp [List.getD]
theorem InR.step {w0 w2 wr w3 w5 : World} {v v' : Value} {Lx L : List Tv} {j : Nat} (h : InR w0 w2 wr v Lx L j) (hj : j < L.length) (hb : Below wr.heap.size wr w3) (t : Tv) (ht : TvM w3 t) (hc : t.c = (L.getD j tv0).c)
 (hf : 0 < t.n → ∀ a, t.p = some a → wr.heap.size ≤ a.block ∧ ∃ cs, w3.heap[a.block]? = some (.cells cs 39 (0, 0))) (o : Obj)
 (h1 : w5.ownsRow w2.heap.size 31 8 v' (Lx.length + 1) (flatG tce (Lx ++ [t]))) (h2 : (w3.alloc o).grownBy w5 v.ownBlock) : InR w0 w2 w5 v' (Lx ++ [t]) L (j + 1) := by
 have h3 := h.later hb
 have hba : Below w3.heap.size w3 (w3.alloc o) := (Below.refl _ _).alloc (Nat.le_refl _) _
 have hch := Chg.of_grown h2
 have hsz := Nat.le_trans hba.size hch.size
 have hty : ∀ b cs, v.ownBlock = some b → w3.heap[b]? = some (.cells cs 39 (0, 0)) → False := fun b cs e1 e2 => by
  obtain ⟨ds, e3⟩ := own_ty h3.fill.own e1
  rw [e2] at e3
  injection e3 with e3
  injection e3 with _ e4 _
  revert e4
  decide
 have hkeep : ∀ u : Tv, TvM w3 u → (0 < u.n → ∀ a, u.p = some a → ∃ cs, w3.heap[a.block]? = some (.cells cs 39 (0, 0))) → TvM w5 u ∧ (0 < u.n → ∀ a, u.p = some a → ∃ cs, w5.heap[a.block]? = some (.cells cs 39 (0, 0))) := fun u hu hfu => by
  have hk : 0 < u.n → ∀ a, u.p = some a → w5.heap[a.block]? = w3.heap[a.block]? := fun h0 a ha => by
   obtain ⟨cs, e1⟩ := hfu h0 a ha
   have hlt := block_lt e1
   rw [hch.block a.block (Nat.lt_of_lt_of_le hlt hba.size) (fun e => hty _ cs e e1)]
   exact hba.block a.block hlt
  exact ⟨SlG.turn hu hsz fun h0 a ha _ => hk h0 a ha, fun h0 a ha => by
   obtain ⟨cs, e1⟩ := hfu h0 a ha
   exact ⟨cs, (hk h0 a ha).trans e1⟩⟩
 have hold : ∀ u ∈ Lx, 0 < u.n → ∀ a, u.p = some a → a.block < wr.heap.size := fun u hu h0 a ha => by
  obtain ⟨_, cs, e1⟩ := h.free u hu h0 a ha
  exact block_lt e1
 refine ⟨h3.fill.step o h1 h2, ?_, fun u hu => ?_, fun u hu h0 a ha => ?_, fun i k hi hk hik hn1 hn2 a b ha hbk => ?_, ?_⟩
 · rw [List.map_append, h.is, List.take_add_one, List.getElem?_eq_getElem hj, Option.toList_some, List.map_append, List.map_singleton, List.map_singleton, hc, List.getD, List.getElem?_eq_getElem hj, Option.getD_some]
 · rcases List.mem_append.1 hu with e | e
   · exact (hkeep u (h3.each u e) fun h0 a ha => (h3.free u e h0 a ha).2).1
   · rw [List.mem_singleton.1 e]
     exact (hkeep t ht fun h0 a ha => (hf h0 a ha).2).1
 · rcases List.mem_append.1 hu with e | e
   · exact ⟨(h3.free u e h0 a ha).1, (hkeep u (h3.each u e) fun h0 a ha => (h3.free u e h0 a ha).2).2 h0 a ha⟩
   · rw [List.mem_singleton.1 e] at h0 ha
     have hs := h.fill.below.size
     exact ⟨Nat.le_trans hs (hf h0 a ha).1, (hkeep t ht fun h0 a ha => (hf h0 a ha).2).2 h0 a ha⟩
 · rw [List.length_append, List.length_singleton] at hi hk
   have hmem : ∀ i, i < Lx.length → Lx.getD i tv0 ∈ Lx := fun i hi => by
    rw [List.getD, List.getElem?_eq_getElem hi]
    exact List.getElem_mem _
   rcases Nat.lt_or_ge i Lx.length with h1i | h1i
   · rw [getD_app_l h1i] at hn1 ha
     rcases Nat.lt_or_ge k Lx.length with h1k | h1k
     · rw [getD_app_l h1k] at hn2 hbk
       exact h.apart i k h1i h1k hik hn1 hn2 a b ha hbk
     · obtain rfl : k = Lx.length := by omega
       rw [getD_app_r] at hn2 hbk
       have g1 := hold _ (hmem i h1i) hn1 a ha
       have g2 := (hf hn2 b hbk).1
       omega
   · obtain rfl : i = Lx.length := by omega
     rw [getD_app_r] at hn1 ha
     have h1k : k < Lx.length := by omega
     rw [getD_app_l h1k] at hn2 hbk
     have g1 := hold _ (hmem k h1k) hn2 b hbk
     have g2 := (hf hn1 a ha).1
     omega
 · exact h.low
theorem results_oo {fn : Func} {p u : Tmp} (h : fn.results = #[.cell p 39, .tmp u]) (tmps : Array Value) (W : World) (R : Nat) (cs : Array Value) (hs : cs.size = 4) (v : Value) (hp : tmps.getD p undef = .pointer (some ⟨R, 0, none⟩)) (hv : tmps.getD u undef = v)
 (hB : W.heap[R]? = some (.cells cs 39 (0, 0))) : (results fn tmps).run Tryd.prog W = .ok (.tuple #[.agg cs, v]) W := by
 rw [results_cell_tmp h, hp, hv]
 simp [asAddr, Result.andThen, run_loadVar_row W R 39 39 cs (0, 0) _ hB Tryd.underlying39 rfl (by rw [hs]; kernel_rfl)]
theorem ov_cells {w : World} {B : Nat} {a b c d : Value} {T : TypeId} (hb : w.heap[B]? = some (.cells #[a, b, c, d] T (0, 0))) : w.cell? ⟨B, 0, none⟩ = some a ∧ w.cell? ⟨B, 1, none⟩ = some b ∧ w.cell? ⟨B, 2, none⟩ = some c ∧ w.cell? ⟨B, 3, none⟩ = some d := ⟨block_cell hb rfl, block_cell hb rfl, block_cell hb rfl, block_cell hb rfl⟩
theorem ofree {w : World} {B : Nat} {cs : Array Value} {T : TypeId} (h : w.heap[B]? = some (.cells cs T (0, 0))) : w.frozen? ⟨B, 0, none⟩ = false ∧ w.frozen? ⟨B, 1, none⟩ = false ∧ w.frozen? ⟨B, 2, none⟩ = false ∧ w.frozen? ⟨B, 3, none⟩ = false := ⟨block_free 0 h, block_free 1 h, block_free 2 h, block_free 3 h⟩
theorem ostored {w : World} {B : Nat} {a b c d a' b' c' d' : Value} {T : TypeId} (h : w.heap[B]? = some (.cells #[a, b, c, d] T (0, 0))) :
 ((((w.setCell ⟨B, 0, none⟩ a').setCell ⟨B, 1, none⟩ b').setCell ⟨B, 2, none⟩ c').setCell ⟨B, 3, none⟩ d').heap[B]? = some (.cells #[a', b', c', d'] T (0, 0)) :=
 block_put 3 d' (block_put 2 c' (block_put 1 b' (block_put 0 a' h)))
theorem okept {W w : World} {B : Nat} (h : Below W.heap.size W w) (hB : W.heap.size ≤ B) (a' b' c' d' : Value) : Below W.heap.size W ((((w.setCell ⟨B, 0, none⟩ a').setCell ⟨B, 1, none⟩ b').setCell ⟨B, 2, none⟩ c').setCell ⟨B, 3, none⟩ d') :=
 (((h.setCell hB _).setCell hB _).setCell hB _).setCell hB _
theorem lastC_nil {t : Tc} (h : t.dn.length = 0) : lastC t = (o0, false) := by
 unfold lastC
 rw [List.length_eq_zero_iff.1 h]
 rfl
theorem lastC_at {t : Tc} {q : Nat} (h : t.dn.length = q + 1) : lastC t = if (t.dn.getD q o0).2 < -9223372036854775807 then (o0, false) else (((t.dn.getD q o0).1, -(t.dn.getD q o0).2), true) := by
 unfold lastC
 have e : t.dn.getLast? = some (t.dn.getD q o0) := by
  rw [List.getLast?_eq_getElem?, h]
  simp [List.getD, List.getElem?_eq_getElem (show q < t.dn.length by omega)]
 rw [e]
set_option maxHeartbeats 4000000 in
theorem rtlast_any (t : Tv) (W : World) (hM : TvM W t) (hx : ∀ o ∈ t.c.dn, Ook o) (hn : t.n ≤ 100000) :
 Calls Tryd.prog 15 #[.agg #[.int .u32 t.c.id, .int .u32 t.c.sg, .int .u8 t.c.st, .bool t.c.cp, .bool t.c.dd, .slice t.p t.n t.m, .int .i64 t.c.fs, .int .i64 t.c.sz]] W fun e w' => e = .returned (.tuple #[.agg #[.int .u8 (lastC t.c).1.1.1, .int .u8 (lastC t.c).1.1.2.1, .int .u8 (lastC t.c).1.1.2.2, .int .i64 (lastC t.c).1.2], .bool (lastC t.c).2]) ∧ Below W.heap.size W w' := by
 obtain ⟨hb0, hx0, hr0⟩ := ttwo W #[.int .u32 t.c.id, .int .u32 t.c.sg, .int .u8 t.c.st, .bool t.c.cp, .bool t.c.dd, .slice t.p t.n t.m, .int .i64 t.c.fs, .int .i64 t.c.sz] #[.int .u8 0, .int .u8 0, .int .u8 0, .int .i64 0] 31 39
 have HM : Hid (OL _ t.p t.n t.m t.c.dn) := Lib.hid (hM.later hb0)
 have HB0 := Lib.hid hb0
 have HX := Lib.hid hx0
 have HR := Lib.hid hr0
 obtain ⟨z, hz0⟩ : ∃ z, lastC t.c = z := ⟨_, rfl⟩
 rw [hz0]
 have HZ := Lib.hid hz0
 have hlen := hM.len
 have hcap := hM.cap
 obtain ⟨X, hX⟩ : ∃ X, W.heap.size = X := ⟨_, rfl⟩
 have HHX := Lib.hid hX
 rw [hX] at HX HR
 by_cases h0 : t.n = 0
 · have hq := h0
   have hz : ((t.n : Int) == 0) = true := by simp [h0]
   have hl := lastC_nil (show t.c.dn.length = 0 by rw [hlen, hq])
   have HL := Lib.hid (hz0.symm.trans hl)
   have HQ := Lib.hid hq
   clear hb0 hx0 hr0 hM hl hlen hcap hx HM hz0 h0
   clear hq
   go_enter Tryd.func15, Tryd.ntmps15
   go_upto_region 1 with (fail)
   clear hX
   generalize (W.alloc (.cells #[.int .u32 t.c.id, .int .u32 t.c.sg, .int .u8 t.c.st, .bool t.c.cp, .bool t.c.dd, .slice t.p t.n t.m, .int .i64 t.c.fs, .int .i64 t.c.sz] 31)).alloc (.cells #[.int .u8 0, .int .u8 0, .int .u8 0, .int .i64 0] 39) = V0 at *
   have HO : Hid (W.heap.size ≤ X + 1) := Lib.hid (by rw [HHX.out]; omega)
   generalize X + 1 = R at *
   have x5 := block_cell (j := 5) HX.out rfl
   obtain ⟨r0, r1, r2, r3⟩ := ov_cells HR.out
   obtain ⟨f0, f1, f2, f3⟩ := ofree HR.out
   have HFS := Lib.hid (ostored (a' := .int .u8 0) (b' := .int .u8 0) (c' := .int .u8 0) (d' := .int .i64 0) HR.out)
   have HGS := Lib.hid (okept HB0.out HO.out (.int .u8 0) (.int .u8 0) (.int .u8 0) (.int .i64 0))
   go_wp2_with fail
   refine bodyPost_ret (v := .tuple #[.agg #[.int .u8 0, .int .u8 0, .int .u8 0, .int .i64 0], .bool false]) ?_ rfl ⟨by rw [HL.out] <;> rfl, HGS.out⟩
   exact results_oo rfl _ _ R _ rfl _ rfl rfl HFS.out
 · obtain ⟨q, hq⟩ : ∃ q, t.n = q + 1 := ⟨t.n - 1, by omega⟩
   clear h0
   have hl := lastC_at (show t.c.dn.length = q + 1 by rw [hlen, hq])
   have HZL := Lib.hid (hz0.symm.trans hl)
   clear hz0
   have hoq := ok_at hx (show q < t.c.dn.length by rw [hlen, hq]; omega)
   have hqn : q < t.n := by omega
   have hw : IntKind.i64.wrap ((t.n : Int) - 1) = (q : Int) := by
    rw [hq]
    unfold IntKind.wrap; simp [IntKind.signed, IntKind.bits]; omega
   have hz : ((t.n : Int) == 0) = false := by simp; omega
   have hqi : (q : Int) < t.n := by omega
   have HQ := Lib.hid hq
   clear hq hlen hl hb0 hx0 hr0 hM hx
   generalize t.p = tp at *
   generalize t.n = tn at *
   obtain ⟨b, off, rfl, _, c0, c1, c2, c3⟩ := op_cells HM.out hqn
   generalize t.c.dn.getD q o0 = o at *
   obtain ⟨k, dl⟩ := o
   have hng : ¬ dl < -9223372036854775807 → IntKind.i64.wrap (-dl) = -dl := fun h => by
    have h1 := hoq.2
    unfold In64 at h1
    simp only at h1
    unfold IntKind.wrap; simp [IntKind.signed, IntKind.bits]; omega
   have HOQ := Lib.hid hoq
   clear hoq hqn
   go_enter Tryd.func15, Tryd.ntmps15
   go_upto_region 1 with (fail)
   clear hX
   generalize (W.alloc (.cells #[.int .u32 t.c.id, .int .u32 t.c.sg, .int .u8 t.c.st, .bool t.c.cp, .bool t.c.dd, .slice (some ⟨b, off, none⟩) tn t.m, .int .i64 t.c.fs, .int .i64 t.c.sz] 31)).alloc (.cells #[.int .u8 0, .int .u8 0, .int .u8 0, .int .i64 0] 39) = V0 at *
   have HO : Hid (W.heap.size ≤ X + 1) := Lib.hid (by rw [HHX.out]; omega)
   generalize X + 1 = R at *
   have x5 := block_cell (j := 5) HX.out rfl
   by_cases hlt : dl < -9223372036854775807
   · have HE : Hid (z = (o0, false)) := Lib.hid (HZL.out.trans (if_pos hlt))
     have HLT := Lib.hid hlt
     have hd : decide (dl < -9223372036854775807) = true := decide_eq_true hlt
     obtain ⟨r0, r1, r2, r3⟩ := ov_cells HR.out
     obtain ⟨f0, f1, f2, f3⟩ := ofree HR.out
     have HFS := Lib.hid (ostored (a' := .int .u8 0) (b' := .int .u8 0) (c' := .int .u8 0) (d' := .int .i64 0) HR.out)
     have HGS := Lib.hid (okept HB0.out HO.out (.int .u8 0) (.int .u8 0) (.int .u8 0) (.int .i64 0))
     go_wp2_with fail
     refine bodyPost_ret (v := .tuple #[.agg #[.int .u8 0, .int .u8 0, .int .u8 0, .int .i64 0], .bool false]) ?_ rfl ⟨by rw [HE.out] <;> rfl, HGS.out⟩
     exact results_oo rfl _ _ R _ rfl _ rfl rfl HFS.out
   · have HE : Hid (z = ((k, -dl), true)) := Lib.hid (HZL.out.trans (if_neg hlt))
     have hnn := hng hlt
     have HLT := Lib.hid hlt
     have hd : decide (dl < -9223372036854775807) = false := decide_eq_false hlt
     have HRD : Hid (V0.drew.heap[R]? = some (.cells #[.int .u8 0, .int .u8 0, .int .u8 0, .int .i64 0] 39 (0, 0))) := Lib.hid HR.out
     have HBD0 := Lib.hid (below_drewN HB0.out 1)
     have HBD : Hid (Below W.heap.size W V0.drew) := Lib.hid HBD0.out
     clear HBD0 hng
     go_wp2_with fail
     go_still_tail 16, (by kernel_rfl)
     repeat still_step
     change wpList _ _ _ _ _ V0.drew
     clear c0 c1 c2 c3 x5
     generalize V0.drew = V1 at *
     obtain ⟨r0, r1, r2, r3⟩ := ov_cells HRD.out
     obtain ⟨f0, f1, f2, f3⟩ := ofree HRD.out
     have HFS := Lib.hid (ostored (a' := .int .u8 k.1) (b' := .int .u8 k.2.1) (c' := .int .u8 k.2.2) (d' := .int .i64 (-dl)) HRD.out)
     have HGS := Lib.hid (okept HBD.out HO.out (.int .u8 k.1) (.int .u8 k.2.1) (.int .u8 k.2.2) (.int .i64 (-dl)))
     go_wp2_with fail
     refine bodyPost_ret (v := .tuple #[.agg #[.int .u8 k.1, .int .u8 k.2.1, .int .u8 k.2.2, .int .i64 (-dl)], .bool true]) ?_ rfl ⟨by rw [HE.out] <;> rfl, HGS.out⟩
     exact results_oo rfl _ _ R _ rfl _ rfl rfl HFS.out
end Go.Proofs.YtccgjdmbongbaaaDoor
